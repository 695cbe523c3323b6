import Derived.Test.YtifidfgihpkgcaaPa02
import Derived.Test.YtifidfgihpkgcaaPa03
import Derived.Test.YtifidfgihpkgcaaPa04
import Derived.Test.YtifidfgihpkgcaaPa05
import Derived.Test.YtifidfgihpkgcaaPa06
import Derived.Test.YtifidfgihpkgcaaPa07
import Derived.Test.YtifidfgihpkgcaaPa08
import Derived.Test.YtifidfgihpkgcaaPa09
import Derived.Test.YtifidfgihpkgcaaPa10
import Derived.Test.YtifidfgihpkgcaaPa11
import Derived.Test.YtifidfgihpkgcaaPa12
import Derived.Test.YtifidfgihpkgcaaPa01
import Derived.BigRegion
set_option linter.unusedSimpArgs false
set_option linter.unusedVariables false
namespace Go.Proofs.Ytifidfgihpkgcaa
open Go.RowKit Wv

theorem updT_is {σ τ : Nat → Int} {who : Nat} {a0 a1 a2 a3 a4 a5 a6 : Int} (h0 : τ (who * 7) = a0) (h1 : τ (who * 7 + 1) = a1) (h2 : τ (who * 7 + 2) = a2) (h3 : τ (who * 7 + 3) = a3) (h4 : τ (who * 7 + 4) = a4) (h5 : τ (who * 7 + 5) = a5) (h6 : τ (who * 7 + 6) = a6)
    (hr : ∀ i, i ≠ who * 7 → i ≠ who * 7 + 1 → i ≠ who * 7 + 2 → i ≠ who * 7 + 3 → i ≠ who * 7 + 4 → i ≠ who * 7 + 5 → i ≠ who * 7 + 6 → τ i = σ i) : updT σ who a0 a1 a2 a3 a4 a5 a6 = τ := by
  funext i
  rw [updT_at]
  by_cases e6 : i = who * 7 + 6
  · rw [if_pos e6, e6, h6]
  rw [if_neg e6]
  by_cases e5 : i = who * 7 + 5
  · rw [if_pos e5, e5, h5]
  rw [if_neg e5]
  by_cases e4 : i = who * 7 + 4
  · rw [if_pos e4, e4, h4]
  rw [if_neg e4]
  by_cases e3 : i = who * 7 + 3
  · rw [if_pos e3, e3, h3]
  rw [if_neg e3]
  by_cases e2 : i = who * 7 + 2
  · rw [if_pos e2, e2, h2]
  rw [if_neg e2]
  by_cases e1 : i = who * 7 + 1
  · rw [if_pos e1, e1, h1]
  rw [if_neg e1]
  by_cases e0 : i = who * 7
  · rw [if_pos e0, e0, h0]
  rw [if_neg e0]
  exact (hr i e0 e1 e2 e3 e4 e5 e6).symm

theorem rmay_out {s : ByteArray} {L : List (List Nat)} {σ : Nat → Int} {who : Nat} (hG : StOk L σ) (hw3 : who < 3) (hw : who < L.length) (h : mayB s L σ who = true) : nx σ who < L[who].length ∧ 0 < σ (who * 7 + 5) ∧ σ (who * 7 + 6) = 0 := by
  have hn := hG.nx hw3
  have hx := hG.nxt who hw
  unfold mayB at h
  rw [thOf_in hw] at h hx
  simp at h
  obtain ⟨⟨⟨h6, h4⟩, h5⟩, _⟩ := h
  exact ⟨by omega, h5, h6⟩

theorem rt61 {w : World} {s : ByteArray} {L : List (List Nat)} {σ : Nat → Int} {who g cap g2 len cp k x : Nat} {At : Int} {a b : Nat} (H : RTurnAt w s L σ who g cap g2 len cp k 61 (a : Int) (b : Int) At) (hc : pk s x = 61) (hA : stepA s x = (a : Int)) (hB : stepB s x = (b : Int)) (ha : a < 4) (hinv : Inv σ) (h4 : σ (who * 7 + 4) = (k : Int)) (h6 : σ (who * 7 + 6) = 0) (hf : 0 < σ (who * 7 + 5)) :
    Calls Try.prog 15 #[.slice (some ⟨g, 0, none⟩) L.length cap, .agg (rst σ), .int .i64 (who : Int)] w fun e w' => e = .returned (.agg (rst (eff s x (pre σ who) who))) ∧ w.grownBy w' none := by
  have hw3 := H.w3
  have i0 := hinv (who * 7) (by omega)
  have i1 := hinv (who * 7 + 1) (by omega)
  have i2 := hinv (who * 7 + 2) (by omega)
  have i3 := hinv (who * 7 + 3) (by omega)
  have i5 := hinv (who * 7 + 5) (by omega)
  have eA : (stepA s x).toNat = a := by omega
  have eB : (stepB s x).toNat = b := by omega
  match a, ha with
  | 0, _ =>
    have he : eff s x (pre σ who) who = upd (pre σ who) (who * 7 + 0) (b : Int) := by
      simp only [eff, hc, eA, eB]
      simp []
    have hu : updT σ who ((b : Int)) (σ (who * 7 + 1)) (σ (who * 7 + 2)) (σ (who * 7 + 3)) ((k : Int) + 1) (σ (who * 7 + 5) - 1) 0 = upd (pre σ who) (who * 7 + 0) (b : Int) := by
      apply updT_is
      all_goals first | (simp only [upd, pre, stopF]; (repeat' split) <;> first | (exfalso; omega) | assumption | rfl | omega | (simp_all; done)) | (intro i e0 e1 e2 e3 e4 e5 e6; (simp only [upd, pre, stopF]; (repeat' split) <;> first | (exfalso; omega) | assumption | rfl | omega | (simp_all; done)))
    rw [he, ← hu]
    exact rturn61_0 w s L σ who g cap g2 len cp k b At H _ _ _ _ _ rfl rfl rfl rfl h4 rfl h6 hf i5.2
  | 1, _ =>
    have he : eff s x (pre σ who) who = upd (pre σ who) (who * 7 + 1) (b : Int) := by
      simp only [eff, hc, eA, eB]
      simp []
    have hu : updT σ who (σ (who * 7)) ((b : Int)) (σ (who * 7 + 2)) (σ (who * 7 + 3)) ((k : Int) + 1) (σ (who * 7 + 5) - 1) 0 = upd (pre σ who) (who * 7 + 1) (b : Int) := by
      apply updT_is
      all_goals first | (simp only [upd, pre, stopF]; (repeat' split) <;> first | (exfalso; omega) | assumption | rfl | omega | (simp_all; done)) | (intro i e0 e1 e2 e3 e4 e5 e6; (simp only [upd, pre, stopF]; (repeat' split) <;> first | (exfalso; omega) | assumption | rfl | omega | (simp_all; done)))
    rw [he, ← hu]
    exact rturn61_1 w s L σ who g cap g2 len cp k b At H _ _ _ _ _ rfl rfl rfl rfl h4 rfl h6 hf i5.2
  | 2, _ =>
    have he : eff s x (pre σ who) who = upd (pre σ who) (who * 7 + 2) (b : Int) := by
      simp only [eff, hc, eA, eB]
      simp []
    have hu : updT σ who (σ (who * 7)) (σ (who * 7 + 1)) ((b : Int)) (σ (who * 7 + 3)) ((k : Int) + 1) (σ (who * 7 + 5) - 1) 0 = upd (pre σ who) (who * 7 + 2) (b : Int) := by
      apply updT_is
      all_goals first | (simp only [upd, pre, stopF]; (repeat' split) <;> first | (exfalso; omega) | assumption | rfl | omega | (simp_all; done)) | (intro i e0 e1 e2 e3 e4 e5 e6; (simp only [upd, pre, stopF]; (repeat' split) <;> first | (exfalso; omega) | assumption | rfl | omega | (simp_all; done)))
    rw [he, ← hu]
    exact rturn61_2 w s L σ who g cap g2 len cp k b At H _ _ _ _ _ rfl rfl rfl rfl h4 rfl h6 hf i5.2
  | 3, _ =>
    have he : eff s x (pre σ who) who = upd (pre σ who) (who * 7 + 3) (b : Int) := by
      simp only [eff, hc, eA, eB]
      simp []
    have hu : updT σ who (σ (who * 7)) (σ (who * 7 + 1)) (σ (who * 7 + 2)) ((b : Int)) ((k : Int) + 1) (σ (who * 7 + 5) - 1) 0 = upd (pre σ who) (who * 7 + 3) (b : Int) := by
      apply updT_is
      all_goals first | (simp only [upd, pre, stopF]; (repeat' split) <;> first | (exfalso; omega) | assumption | rfl | omega | (simp_all; done)) | (intro i e0 e1 e2 e3 e4 e5 e6; (simp only [upd, pre, stopF]; (repeat' split) <;> first | (exfalso; omega) | assumption | rfl | omega | (simp_all; done)))
    rw [he, ← hu]
    exact rturn61_3 w s L σ who g cap g2 len cp k b At H _ _ _ _ _ rfl rfl rfl rfl h4 rfl h6 hf i5.2

set_option maxHeartbeats 1000000 in
theorem rt43_0 {w : World} {s : ByteArray} {L : List (List Nat)} {σ : Nat → Int} {who g cap g2 len cp k x : Nat} {At : Int} {b : Nat} (H : RTurnAt w s L σ who g cap g2 len cp k 43 0 (b : Int) At) (hc : pk s x = 43) (hA : stepA s x = 0) (hB : stepB s x = (b : Int)) (hb : b < 4) (hinv : Inv σ) (h4 : σ (who * 7 + 4) = (k : Int)) (h6 : σ (who * 7 + 6) = 0) (hf : 0 < σ (who * 7 + 5)) :
    Calls Try.prog 15 #[.slice (some ⟨g, 0, none⟩) L.length cap, .agg (rst σ), .int .i64 (who : Int)] w fun e w' => e = .returned (.agg (rst (eff s x (pre σ who) who))) ∧ w.grownBy w' none := by
  have hw3 := H.w3
  have i0 := hinv (who * 7) (by omega)
  have i1 := hinv (who * 7 + 1) (by omega)
  have i2 := hinv (who * 7 + 2) (by omega)
  have i3 := hinv (who * 7 + 3) (by omega)
  have i5 := hinv (who * 7 + 5) (by omega)
  have eA : (stepA s x).toNat = 0 := by omega
  have eB : (stepB s x).toNat = b := by omega
  match b, hb with
  | 0, _ =>
    have hpa : pre σ who (who * 7 + 0) = σ (who * 7) := by (simp only [upd, pre, stopF]; (repeat' split) <;> first | (exfalso; omega) | assumption | rfl | omega | (simp_all; done))
    have hpb : pre σ who (who * 7 + 0) = σ (who * 7) := by (simp only [upd, pre, stopF]; (repeat' split) <;> first | (exfalso; omega) | assumption | rfl | omega | (simp_all; done))
    have hq : (pre σ who (who * 7 + 0) + pre σ who (who * 7 + 0)) % 10 = (σ (who * 7) + σ (who * 7)) % 10 := by rw [hpa]
    have he : eff s x (pre σ who) who = upd (pre σ who) (who * 7 + 0) ((pre σ who (who * 7 + 0) + pre σ who (who * 7 + 0)) % 10) := by
      simp only [eff, hc, eA, eB]
      simp []
    rw [hq] at he
    clear hq hpa hpb
    have hu : updT σ who ((σ (who * 7) + σ (who * 7)) % 10) (σ (who * 7 + 1)) (σ (who * 7 + 2)) (σ (who * 7 + 3)) ((k : Int) + 1) (σ (who * 7 + 5) - 1) 0 = upd (pre σ who) (who * 7 + 0) ((σ (who * 7) + σ (who * 7)) % 10) := by
      apply updT_is
      all_goals first | (simp only [upd, pre, stopF]; (repeat' split) <;> first | (exfalso; omega) | assumption | rfl | omega | (simp_all; done)) | (intro i e0 e1 e2 e3 e4 e5 e6; (simp only [upd, pre, stopF]; (repeat' split) <;> first | (exfalso; omega) | assumption | rfl | omega | (simp_all; done)))
    rw [he, ← hu]
    exact rturn43_00 w s L σ who g cap g2 len cp k At H _ _ _ _ _ rfl rfl rfl rfl h4 rfl h6 hf i5.2 i0 i0 _ rfl
  | 1, _ =>
    have hpa : pre σ who (who * 7 + 0) = σ (who * 7) := by (simp only [upd, pre, stopF]; (repeat' split) <;> first | (exfalso; omega) | assumption | rfl | omega | (simp_all; done))
    have hpb : pre σ who (who * 7 + 1) = σ (who * 7 + 1) := by (simp only [upd, pre, stopF]; (repeat' split) <;> first | (exfalso; omega) | assumption | rfl | omega | (simp_all; done))
    have hq : (pre σ who (who * 7 + 0) + pre σ who (who * 7 + 1)) % 10 = (σ (who * 7) + σ (who * 7 + 1)) % 10 := by rw [hpa, hpb]
    have he : eff s x (pre σ who) who = upd (pre σ who) (who * 7 + 0) ((pre σ who (who * 7 + 0) + pre σ who (who * 7 + 1)) % 10) := by
      simp only [eff, hc, eA, eB]
      simp []
    rw [hq] at he
    clear hq hpa hpb
    have hu : updT σ who ((σ (who * 7) + σ (who * 7 + 1)) % 10) (σ (who * 7 + 1)) (σ (who * 7 + 2)) (σ (who * 7 + 3)) ((k : Int) + 1) (σ (who * 7 + 5) - 1) 0 = upd (pre σ who) (who * 7 + 0) ((σ (who * 7) + σ (who * 7 + 1)) % 10) := by
      apply updT_is
      all_goals first | (simp only [upd, pre, stopF]; (repeat' split) <;> first | (exfalso; omega) | assumption | rfl | omega | (simp_all; done)) | (intro i e0 e1 e2 e3 e4 e5 e6; (simp only [upd, pre, stopF]; (repeat' split) <;> first | (exfalso; omega) | assumption | rfl | omega | (simp_all; done)))
    rw [he, ← hu]
    exact rturn43_01 w s L σ who g cap g2 len cp k At H _ _ _ _ _ rfl rfl rfl rfl h4 rfl h6 hf i5.2 i0 i1 _ rfl
  | 2, _ =>
    have hpa : pre σ who (who * 7 + 0) = σ (who * 7) := by (simp only [upd, pre, stopF]; (repeat' split) <;> first | (exfalso; omega) | assumption | rfl | omega | (simp_all; done))
    have hpb : pre σ who (who * 7 + 2) = σ (who * 7 + 2) := by (simp only [upd, pre, stopF]; (repeat' split) <;> first | (exfalso; omega) | assumption | rfl | omega | (simp_all; done))
    have hq : (pre σ who (who * 7 + 0) + pre σ who (who * 7 + 2)) % 10 = (σ (who * 7) + σ (who * 7 + 2)) % 10 := by rw [hpa, hpb]
    have he : eff s x (pre σ who) who = upd (pre σ who) (who * 7 + 0) ((pre σ who (who * 7 + 0) + pre σ who (who * 7 + 2)) % 10) := by
      simp only [eff, hc, eA, eB]
      simp []
    rw [hq] at he
    clear hq hpa hpb
    have hu : updT σ who ((σ (who * 7) + σ (who * 7 + 2)) % 10) (σ (who * 7 + 1)) (σ (who * 7 + 2)) (σ (who * 7 + 3)) ((k : Int) + 1) (σ (who * 7 + 5) - 1) 0 = upd (pre σ who) (who * 7 + 0) ((σ (who * 7) + σ (who * 7 + 2)) % 10) := by
      apply updT_is
      all_goals first | (simp only [upd, pre, stopF]; (repeat' split) <;> first | (exfalso; omega) | assumption | rfl | omega | (simp_all; done)) | (intro i e0 e1 e2 e3 e4 e5 e6; (simp only [upd, pre, stopF]; (repeat' split) <;> first | (exfalso; omega) | assumption | rfl | omega | (simp_all; done)))
    rw [he, ← hu]
    exact rturn43_02 w s L σ who g cap g2 len cp k At H _ _ _ _ _ rfl rfl rfl rfl h4 rfl h6 hf i5.2 i0 i2 _ rfl
  | 3, _ =>
    have hpa : pre σ who (who * 7 + 0) = σ (who * 7) := by (simp only [upd, pre, stopF]; (repeat' split) <;> first | (exfalso; omega) | assumption | rfl | omega | (simp_all; done))
    have hpb : pre σ who (who * 7 + 3) = σ (who * 7 + 3) := by (simp only [upd, pre, stopF]; (repeat' split) <;> first | (exfalso; omega) | assumption | rfl | omega | (simp_all; done))
    have hq : (pre σ who (who * 7 + 0) + pre σ who (who * 7 + 3)) % 10 = (σ (who * 7) + σ (who * 7 + 3)) % 10 := by rw [hpa, hpb]
    have he : eff s x (pre σ who) who = upd (pre σ who) (who * 7 + 0) ((pre σ who (who * 7 + 0) + pre σ who (who * 7 + 3)) % 10) := by
      simp only [eff, hc, eA, eB]
      simp []
    rw [hq] at he
    clear hq hpa hpb
    have hu : updT σ who ((σ (who * 7) + σ (who * 7 + 3)) % 10) (σ (who * 7 + 1)) (σ (who * 7 + 2)) (σ (who * 7 + 3)) ((k : Int) + 1) (σ (who * 7 + 5) - 1) 0 = upd (pre σ who) (who * 7 + 0) ((σ (who * 7) + σ (who * 7 + 3)) % 10) := by
      apply updT_is
      all_goals first | (simp only [upd, pre, stopF]; (repeat' split) <;> first | (exfalso; omega) | assumption | rfl | omega | (simp_all; done)) | (intro i e0 e1 e2 e3 e4 e5 e6; (simp only [upd, pre, stopF]; (repeat' split) <;> first | (exfalso; omega) | assumption | rfl | omega | (simp_all; done)))
    rw [he, ← hu]
    exact rturn43_03 w s L σ who g cap g2 len cp k At H _ _ _ _ _ rfl rfl rfl rfl h4 rfl h6 hf i5.2 i0 i3 _ rfl

set_option maxHeartbeats 1000000 in
theorem rt43_1 {w : World} {s : ByteArray} {L : List (List Nat)} {σ : Nat → Int} {who g cap g2 len cp k x : Nat} {At : Int} {b : Nat} (H : RTurnAt w s L σ who g cap g2 len cp k 43 1 (b : Int) At) (hc : pk s x = 43) (hA : stepA s x = 1) (hB : stepB s x = (b : Int)) (hb : b < 4) (hinv : Inv σ) (h4 : σ (who * 7 + 4) = (k : Int)) (h6 : σ (who * 7 + 6) = 0) (hf : 0 < σ (who * 7 + 5)) :
    Calls Try.prog 15 #[.slice (some ⟨g, 0, none⟩) L.length cap, .agg (rst σ), .int .i64 (who : Int)] w fun e w' => e = .returned (.agg (rst (eff s x (pre σ who) who))) ∧ w.grownBy w' none := by
  have hw3 := H.w3
  have i0 := hinv (who * 7) (by omega)
  have i1 := hinv (who * 7 + 1) (by omega)
  have i2 := hinv (who * 7 + 2) (by omega)
  have i3 := hinv (who * 7 + 3) (by omega)
  have i5 := hinv (who * 7 + 5) (by omega)
  have eA : (stepA s x).toNat = 1 := by omega
  have eB : (stepB s x).toNat = b := by omega
  match b, hb with
  | 0, _ =>
    have hpa : pre σ who (who * 7 + 1) = σ (who * 7 + 1) := by (simp only [upd, pre, stopF]; (repeat' split) <;> first | (exfalso; omega) | assumption | rfl | omega | (simp_all; done))
    have hpb : pre σ who (who * 7 + 0) = σ (who * 7) := by (simp only [upd, pre, stopF]; (repeat' split) <;> first | (exfalso; omega) | assumption | rfl | omega | (simp_all; done))
    have hq : (pre σ who (who * 7 + 1) + pre σ who (who * 7 + 0)) % 10 = (σ (who * 7 + 1) + σ (who * 7)) % 10 := by rw [hpa, hpb]
    have he : eff s x (pre σ who) who = upd (pre σ who) (who * 7 + 1) ((pre σ who (who * 7 + 1) + pre σ who (who * 7 + 0)) % 10) := by
      simp only [eff, hc, eA, eB]
      simp []
    rw [hq] at he
    clear hq hpa hpb
    have hu : updT σ who (σ (who * 7)) ((σ (who * 7 + 1) + σ (who * 7)) % 10) (σ (who * 7 + 2)) (σ (who * 7 + 3)) ((k : Int) + 1) (σ (who * 7 + 5) - 1) 0 = upd (pre σ who) (who * 7 + 1) ((σ (who * 7 + 1) + σ (who * 7)) % 10) := by
      apply updT_is
      all_goals first | (simp only [upd, pre, stopF]; (repeat' split) <;> first | (exfalso; omega) | assumption | rfl | omega | (simp_all; done)) | (intro i e0 e1 e2 e3 e4 e5 e6; (simp only [upd, pre, stopF]; (repeat' split) <;> first | (exfalso; omega) | assumption | rfl | omega | (simp_all; done)))
    rw [he, ← hu]
    exact rturn43_10 w s L σ who g cap g2 len cp k At H _ _ _ _ _ rfl rfl rfl rfl h4 rfl h6 hf i5.2 i1 i0 _ rfl
  | 1, _ =>
    have hpa : pre σ who (who * 7 + 1) = σ (who * 7 + 1) := by (simp only [upd, pre, stopF]; (repeat' split) <;> first | (exfalso; omega) | assumption | rfl | omega | (simp_all; done))
    have hpb : pre σ who (who * 7 + 1) = σ (who * 7 + 1) := by (simp only [upd, pre, stopF]; (repeat' split) <;> first | (exfalso; omega) | assumption | rfl | omega | (simp_all; done))
    have hq : (pre σ who (who * 7 + 1) + pre σ who (who * 7 + 1)) % 10 = (σ (who * 7 + 1) + σ (who * 7 + 1)) % 10 := by rw [hpa]
    have he : eff s x (pre σ who) who = upd (pre σ who) (who * 7 + 1) ((pre σ who (who * 7 + 1) + pre σ who (who * 7 + 1)) % 10) := by
      simp only [eff, hc, eA, eB]
      simp []
    rw [hq] at he
    clear hq hpa hpb
    have hu : updT σ who (σ (who * 7)) ((σ (who * 7 + 1) + σ (who * 7 + 1)) % 10) (σ (who * 7 + 2)) (σ (who * 7 + 3)) ((k : Int) + 1) (σ (who * 7 + 5) - 1) 0 = upd (pre σ who) (who * 7 + 1) ((σ (who * 7 + 1) + σ (who * 7 + 1)) % 10) := by
      apply updT_is
      all_goals first | (simp only [upd, pre, stopF]; (repeat' split) <;> first | (exfalso; omega) | assumption | rfl | omega | (simp_all; done)) | (intro i e0 e1 e2 e3 e4 e5 e6; (simp only [upd, pre, stopF]; (repeat' split) <;> first | (exfalso; omega) | assumption | rfl | omega | (simp_all; done)))
    rw [he, ← hu]
    exact rturn43_11 w s L σ who g cap g2 len cp k At H _ _ _ _ _ rfl rfl rfl rfl h4 rfl h6 hf i5.2 i1 i1 _ rfl
  | 2, _ =>
    have hpa : pre σ who (who * 7 + 1) = σ (who * 7 + 1) := by (simp only [upd, pre, stopF]; (repeat' split) <;> first | (exfalso; omega) | assumption | rfl | omega | (simp_all; done))
    have hpb : pre σ who (who * 7 + 2) = σ (who * 7 + 2) := by (simp only [upd, pre, stopF]; (repeat' split) <;> first | (exfalso; omega) | assumption | rfl | omega | (simp_all; done))
    have hq : (pre σ who (who * 7 + 1) + pre σ who (who * 7 + 2)) % 10 = (σ (who * 7 + 1) + σ (who * 7 + 2)) % 10 := by rw [hpa, hpb]
    have he : eff s x (pre σ who) who = upd (pre σ who) (who * 7 + 1) ((pre σ who (who * 7 + 1) + pre σ who (who * 7 + 2)) % 10) := by
      simp only [eff, hc, eA, eB]
      simp []
    rw [hq] at he
    clear hq hpa hpb
    have hu : updT σ who (σ (who * 7)) ((σ (who * 7 + 1) + σ (who * 7 + 2)) % 10) (σ (who * 7 + 2)) (σ (who * 7 + 3)) ((k : Int) + 1) (σ (who * 7 + 5) - 1) 0 = upd (pre σ who) (who * 7 + 1) ((σ (who * 7 + 1) + σ (who * 7 + 2)) % 10) := by
      apply updT_is
      all_goals first | (simp only [upd, pre, stopF]; (repeat' split) <;> first | (exfalso; omega) | assumption | rfl | omega | (simp_all; done)) | (intro i e0 e1 e2 e3 e4 e5 e6; (simp only [upd, pre, stopF]; (repeat' split) <;> first | (exfalso; omega) | assumption | rfl | omega | (simp_all; done)))
    rw [he, ← hu]
    exact rturn43_12 w s L σ who g cap g2 len cp k At H _ _ _ _ _ rfl rfl rfl rfl h4 rfl h6 hf i5.2 i1 i2 _ rfl
  | 3, _ =>
    have hpa : pre σ who (who * 7 + 1) = σ (who * 7 + 1) := by (simp only [upd, pre, stopF]; (repeat' split) <;> first | (exfalso; omega) | assumption | rfl | omega | (simp_all; done))
    have hpb : pre σ who (who * 7 + 3) = σ (who * 7 + 3) := by (simp only [upd, pre, stopF]; (repeat' split) <;> first | (exfalso; omega) | assumption | rfl | omega | (simp_all; done))
    have hq : (pre σ who (who * 7 + 1) + pre σ who (who * 7 + 3)) % 10 = (σ (who * 7 + 1) + σ (who * 7 + 3)) % 10 := by rw [hpa, hpb]
    have he : eff s x (pre σ who) who = upd (pre σ who) (who * 7 + 1) ((pre σ who (who * 7 + 1) + pre σ who (who * 7 + 3)) % 10) := by
      simp only [eff, hc, eA, eB]
      simp []
    rw [hq] at he
    clear hq hpa hpb
    have hu : updT σ who (σ (who * 7)) ((σ (who * 7 + 1) + σ (who * 7 + 3)) % 10) (σ (who * 7 + 2)) (σ (who * 7 + 3)) ((k : Int) + 1) (σ (who * 7 + 5) - 1) 0 = upd (pre σ who) (who * 7 + 1) ((σ (who * 7 + 1) + σ (who * 7 + 3)) % 10) := by
      apply updT_is
      all_goals first | (simp only [upd, pre, stopF]; (repeat' split) <;> first | (exfalso; omega) | assumption | rfl | omega | (simp_all; done)) | (intro i e0 e1 e2 e3 e4 e5 e6; (simp only [upd, pre, stopF]; (repeat' split) <;> first | (exfalso; omega) | assumption | rfl | omega | (simp_all; done)))
    rw [he, ← hu]
    exact rturn43_13 w s L σ who g cap g2 len cp k At H _ _ _ _ _ rfl rfl rfl rfl h4 rfl h6 hf i5.2 i1 i3 _ rfl

set_option maxHeartbeats 1000000 in
theorem rt43_2 {w : World} {s : ByteArray} {L : List (List Nat)} {σ : Nat → Int} {who g cap g2 len cp k x : Nat} {At : Int} {b : Nat} (H : RTurnAt w s L σ who g cap g2 len cp k 43 2 (b : Int) At) (hc : pk s x = 43) (hA : stepA s x = 2) (hB : stepB s x = (b : Int)) (hb : b < 4) (hinv : Inv σ) (h4 : σ (who * 7 + 4) = (k : Int)) (h6 : σ (who * 7 + 6) = 0) (hf : 0 < σ (who * 7 + 5)) :
    Calls Try.prog 15 #[.slice (some ⟨g, 0, none⟩) L.length cap, .agg (rst σ), .int .i64 (who : Int)] w fun e w' => e = .returned (.agg (rst (eff s x (pre σ who) who))) ∧ w.grownBy w' none := by
  have hw3 := H.w3
  have i0 := hinv (who * 7) (by omega)
  have i1 := hinv (who * 7 + 1) (by omega)
  have i2 := hinv (who * 7 + 2) (by omega)
  have i3 := hinv (who * 7 + 3) (by omega)
  have i5 := hinv (who * 7 + 5) (by omega)
  have eA : (stepA s x).toNat = 2 := by omega
  have eB : (stepB s x).toNat = b := by omega
  match b, hb with
  | 0, _ =>
    have hpa : pre σ who (who * 7 + 2) = σ (who * 7 + 2) := by (simp only [upd, pre, stopF]; (repeat' split) <;> first | (exfalso; omega) | assumption | rfl | omega | (simp_all; done))
    have hpb : pre σ who (who * 7 + 0) = σ (who * 7) := by (simp only [upd, pre, stopF]; (repeat' split) <;> first | (exfalso; omega) | assumption | rfl | omega | (simp_all; done))
    have hq : (pre σ who (who * 7 + 2) + pre σ who (who * 7 + 0)) % 10 = (σ (who * 7 + 2) + σ (who * 7)) % 10 := by rw [hpa, hpb]
    have he : eff s x (pre σ who) who = upd (pre σ who) (who * 7 + 2) ((pre σ who (who * 7 + 2) + pre σ who (who * 7 + 0)) % 10) := by
      simp only [eff, hc, eA, eB]
      simp []
    rw [hq] at he
    clear hq hpa hpb
    have hu : updT σ who (σ (who * 7)) (σ (who * 7 + 1)) ((σ (who * 7 + 2) + σ (who * 7)) % 10) (σ (who * 7 + 3)) ((k : Int) + 1) (σ (who * 7 + 5) - 1) 0 = upd (pre σ who) (who * 7 + 2) ((σ (who * 7 + 2) + σ (who * 7)) % 10) := by
      apply updT_is
      all_goals first | (simp only [upd, pre, stopF]; (repeat' split) <;> first | (exfalso; omega) | assumption | rfl | omega | (simp_all; done)) | (intro i e0 e1 e2 e3 e4 e5 e6; (simp only [upd, pre, stopF]; (repeat' split) <;> first | (exfalso; omega) | assumption | rfl | omega | (simp_all; done)))
    rw [he, ← hu]
    exact rturn43_20 w s L σ who g cap g2 len cp k At H _ _ _ _ _ rfl rfl rfl rfl h4 rfl h6 hf i5.2 i2 i0 _ rfl
  | 1, _ =>
    have hpa : pre σ who (who * 7 + 2) = σ (who * 7 + 2) := by (simp only [upd, pre, stopF]; (repeat' split) <;> first | (exfalso; omega) | assumption | rfl | omega | (simp_all; done))
    have hpb : pre σ who (who * 7 + 1) = σ (who * 7 + 1) := by (simp only [upd, pre, stopF]; (repeat' split) <;> first | (exfalso; omega) | assumption | rfl | omega | (simp_all; done))
    have hq : (pre σ who (who * 7 + 2) + pre σ who (who * 7 + 1)) % 10 = (σ (who * 7 + 2) + σ (who * 7 + 1)) % 10 := by rw [hpa, hpb]
    have he : eff s x (pre σ who) who = upd (pre σ who) (who * 7 + 2) ((pre σ who (who * 7 + 2) + pre σ who (who * 7 + 1)) % 10) := by
      simp only [eff, hc, eA, eB]
      simp []
    rw [hq] at he
    clear hq hpa hpb
    have hu : updT σ who (σ (who * 7)) (σ (who * 7 + 1)) ((σ (who * 7 + 2) + σ (who * 7 + 1)) % 10) (σ (who * 7 + 3)) ((k : Int) + 1) (σ (who * 7 + 5) - 1) 0 = upd (pre σ who) (who * 7 + 2) ((σ (who * 7 + 2) + σ (who * 7 + 1)) % 10) := by
      apply updT_is
      all_goals first | (simp only [upd, pre, stopF]; (repeat' split) <;> first | (exfalso; omega) | assumption | rfl | omega | (simp_all; done)) | (intro i e0 e1 e2 e3 e4 e5 e6; (simp only [upd, pre, stopF]; (repeat' split) <;> first | (exfalso; omega) | assumption | rfl | omega | (simp_all; done)))
    rw [he, ← hu]
    exact rturn43_21 w s L σ who g cap g2 len cp k At H _ _ _ _ _ rfl rfl rfl rfl h4 rfl h6 hf i5.2 i2 i1 _ rfl
  | 2, _ =>
    have hpa : pre σ who (who * 7 + 2) = σ (who * 7 + 2) := by (simp only [upd, pre, stopF]; (repeat' split) <;> first | (exfalso; omega) | assumption | rfl | omega | (simp_all; done))
    have hpb : pre σ who (who * 7 + 2) = σ (who * 7 + 2) := by (simp only [upd, pre, stopF]; (repeat' split) <;> first | (exfalso; omega) | assumption | rfl | omega | (simp_all; done))
    have hq : (pre σ who (who * 7 + 2) + pre σ who (who * 7 + 2)) % 10 = (σ (who * 7 + 2) + σ (who * 7 + 2)) % 10 := by rw [hpa]
    have he : eff s x (pre σ who) who = upd (pre σ who) (who * 7 + 2) ((pre σ who (who * 7 + 2) + pre σ who (who * 7 + 2)) % 10) := by
      simp only [eff, hc, eA, eB]
      simp []
    rw [hq] at he
    clear hq hpa hpb
    have hu : updT σ who (σ (who * 7)) (σ (who * 7 + 1)) ((σ (who * 7 + 2) + σ (who * 7 + 2)) % 10) (σ (who * 7 + 3)) ((k : Int) + 1) (σ (who * 7 + 5) - 1) 0 = upd (pre σ who) (who * 7 + 2) ((σ (who * 7 + 2) + σ (who * 7 + 2)) % 10) := by
      apply updT_is
      all_goals first | (simp only [upd, pre, stopF]; (repeat' split) <;> first | (exfalso; omega) | assumption | rfl | omega | (simp_all; done)) | (intro i e0 e1 e2 e3 e4 e5 e6; (simp only [upd, pre, stopF]; (repeat' split) <;> first | (exfalso; omega) | assumption | rfl | omega | (simp_all; done)))
    rw [he, ← hu]
    exact rturn43_22 w s L σ who g cap g2 len cp k At H _ _ _ _ _ rfl rfl rfl rfl h4 rfl h6 hf i5.2 i2 i2 _ rfl
  | 3, _ =>
    have hpa : pre σ who (who * 7 + 2) = σ (who * 7 + 2) := by (simp only [upd, pre, stopF]; (repeat' split) <;> first | (exfalso; omega) | assumption | rfl | omega | (simp_all; done))
    have hpb : pre σ who (who * 7 + 3) = σ (who * 7 + 3) := by (simp only [upd, pre, stopF]; (repeat' split) <;> first | (exfalso; omega) | assumption | rfl | omega | (simp_all; done))
    have hq : (pre σ who (who * 7 + 2) + pre σ who (who * 7 + 3)) % 10 = (σ (who * 7 + 2) + σ (who * 7 + 3)) % 10 := by rw [hpa, hpb]
    have he : eff s x (pre σ who) who = upd (pre σ who) (who * 7 + 2) ((pre σ who (who * 7 + 2) + pre σ who (who * 7 + 3)) % 10) := by
      simp only [eff, hc, eA, eB]
      simp []
    rw [hq] at he
    clear hq hpa hpb
    have hu : updT σ who (σ (who * 7)) (σ (who * 7 + 1)) ((σ (who * 7 + 2) + σ (who * 7 + 3)) % 10) (σ (who * 7 + 3)) ((k : Int) + 1) (σ (who * 7 + 5) - 1) 0 = upd (pre σ who) (who * 7 + 2) ((σ (who * 7 + 2) + σ (who * 7 + 3)) % 10) := by
      apply updT_is
      all_goals first | (simp only [upd, pre, stopF]; (repeat' split) <;> first | (exfalso; omega) | assumption | rfl | omega | (simp_all; done)) | (intro i e0 e1 e2 e3 e4 e5 e6; (simp only [upd, pre, stopF]; (repeat' split) <;> first | (exfalso; omega) | assumption | rfl | omega | (simp_all; done)))
    rw [he, ← hu]
    exact rturn43_23 w s L σ who g cap g2 len cp k At H _ _ _ _ _ rfl rfl rfl rfl h4 rfl h6 hf i5.2 i2 i3 _ rfl

set_option maxHeartbeats 1000000 in
theorem rt43_3 {w : World} {s : ByteArray} {L : List (List Nat)} {σ : Nat → Int} {who g cap g2 len cp k x : Nat} {At : Int} {b : Nat} (H : RTurnAt w s L σ who g cap g2 len cp k 43 3 (b : Int) At) (hc : pk s x = 43) (hA : stepA s x = 3) (hB : stepB s x = (b : Int)) (hb : b < 4) (hinv : Inv σ) (h4 : σ (who * 7 + 4) = (k : Int)) (h6 : σ (who * 7 + 6) = 0) (hf : 0 < σ (who * 7 + 5)) :
    Calls Try.prog 15 #[.slice (some ⟨g, 0, none⟩) L.length cap, .agg (rst σ), .int .i64 (who : Int)] w fun e w' => e = .returned (.agg (rst (eff s x (pre σ who) who))) ∧ w.grownBy w' none := by
  have hw3 := H.w3
  have i0 := hinv (who * 7) (by omega)
  have i1 := hinv (who * 7 + 1) (by omega)
  have i2 := hinv (who * 7 + 2) (by omega)
  have i3 := hinv (who * 7 + 3) (by omega)
  have i5 := hinv (who * 7 + 5) (by omega)
  have eA : (stepA s x).toNat = 3 := by omega
  have eB : (stepB s x).toNat = b := by omega
  match b, hb with
  | 0, _ =>
    have hpa : pre σ who (who * 7 + 3) = σ (who * 7 + 3) := by (simp only [upd, pre, stopF]; (repeat' split) <;> first | (exfalso; omega) | assumption | rfl | omega | (simp_all; done))
    have hpb : pre σ who (who * 7 + 0) = σ (who * 7) := by (simp only [upd, pre, stopF]; (repeat' split) <;> first | (exfalso; omega) | assumption | rfl | omega | (simp_all; done))
    have hq : (pre σ who (who * 7 + 3) + pre σ who (who * 7 + 0)) % 10 = (σ (who * 7 + 3) + σ (who * 7)) % 10 := by rw [hpa, hpb]
    have he : eff s x (pre σ who) who = upd (pre σ who) (who * 7 + 3) ((pre σ who (who * 7 + 3) + pre σ who (who * 7 + 0)) % 10) := by
      simp only [eff, hc, eA, eB]
      simp []
    rw [hq] at he
    clear hq hpa hpb
    have hu : updT σ who (σ (who * 7)) (σ (who * 7 + 1)) (σ (who * 7 + 2)) ((σ (who * 7 + 3) + σ (who * 7)) % 10) ((k : Int) + 1) (σ (who * 7 + 5) - 1) 0 = upd (pre σ who) (who * 7 + 3) ((σ (who * 7 + 3) + σ (who * 7)) % 10) := by
      apply updT_is
      all_goals first | (simp only [upd, pre, stopF]; (repeat' split) <;> first | (exfalso; omega) | assumption | rfl | omega | (simp_all; done)) | (intro i e0 e1 e2 e3 e4 e5 e6; (simp only [upd, pre, stopF]; (repeat' split) <;> first | (exfalso; omega) | assumption | rfl | omega | (simp_all; done)))
    rw [he, ← hu]
    exact rturn43_30 w s L σ who g cap g2 len cp k At H _ _ _ _ _ rfl rfl rfl rfl h4 rfl h6 hf i5.2 i3 i0 _ rfl
  | 1, _ =>
    have hpa : pre σ who (who * 7 + 3) = σ (who * 7 + 3) := by (simp only [upd, pre, stopF]; (repeat' split) <;> first | (exfalso; omega) | assumption | rfl | omega | (simp_all; done))
    have hpb : pre σ who (who * 7 + 1) = σ (who * 7 + 1) := by (simp only [upd, pre, stopF]; (repeat' split) <;> first | (exfalso; omega) | assumption | rfl | omega | (simp_all; done))
    have hq : (pre σ who (who * 7 + 3) + pre σ who (who * 7 + 1)) % 10 = (σ (who * 7 + 3) + σ (who * 7 + 1)) % 10 := by rw [hpa, hpb]
    have he : eff s x (pre σ who) who = upd (pre σ who) (who * 7 + 3) ((pre σ who (who * 7 + 3) + pre σ who (who * 7 + 1)) % 10) := by
      simp only [eff, hc, eA, eB]
      simp []
    rw [hq] at he
    clear hq hpa hpb
    have hu : updT σ who (σ (who * 7)) (σ (who * 7 + 1)) (σ (who * 7 + 2)) ((σ (who * 7 + 3) + σ (who * 7 + 1)) % 10) ((k : Int) + 1) (σ (who * 7 + 5) - 1) 0 = upd (pre σ who) (who * 7 + 3) ((σ (who * 7 + 3) + σ (who * 7 + 1)) % 10) := by
      apply updT_is
      all_goals first | (simp only [upd, pre, stopF]; (repeat' split) <;> first | (exfalso; omega) | assumption | rfl | omega | (simp_all; done)) | (intro i e0 e1 e2 e3 e4 e5 e6; (simp only [upd, pre, stopF]; (repeat' split) <;> first | (exfalso; omega) | assumption | rfl | omega | (simp_all; done)))
    rw [he, ← hu]
    exact rturn43_31 w s L σ who g cap g2 len cp k At H _ _ _ _ _ rfl rfl rfl rfl h4 rfl h6 hf i5.2 i3 i1 _ rfl
  | 2, _ =>
    have hpa : pre σ who (who * 7 + 3) = σ (who * 7 + 3) := by (simp only [upd, pre, stopF]; (repeat' split) <;> first | (exfalso; omega) | assumption | rfl | omega | (simp_all; done))
    have hpb : pre σ who (who * 7 + 2) = σ (who * 7 + 2) := by (simp only [upd, pre, stopF]; (repeat' split) <;> first | (exfalso; omega) | assumption | rfl | omega | (simp_all; done))
    have hq : (pre σ who (who * 7 + 3) + pre σ who (who * 7 + 2)) % 10 = (σ (who * 7 + 3) + σ (who * 7 + 2)) % 10 := by rw [hpa, hpb]
    have he : eff s x (pre σ who) who = upd (pre σ who) (who * 7 + 3) ((pre σ who (who * 7 + 3) + pre σ who (who * 7 + 2)) % 10) := by
      simp only [eff, hc, eA, eB]
      simp []
    rw [hq] at he
    clear hq hpa hpb
    have hu : updT σ who (σ (who * 7)) (σ (who * 7 + 1)) (σ (who * 7 + 2)) ((σ (who * 7 + 3) + σ (who * 7 + 2)) % 10) ((k : Int) + 1) (σ (who * 7 + 5) - 1) 0 = upd (pre σ who) (who * 7 + 3) ((σ (who * 7 + 3) + σ (who * 7 + 2)) % 10) := by
      apply updT_is
      all_goals first | (simp only [upd, pre, stopF]; (repeat' split) <;> first | (exfalso; omega) | assumption | rfl | omega | (simp_all; done)) | (intro i e0 e1 e2 e3 e4 e5 e6; (simp only [upd, pre, stopF]; (repeat' split) <;> first | (exfalso; omega) | assumption | rfl | omega | (simp_all; done)))
    rw [he, ← hu]
    exact rturn43_32 w s L σ who g cap g2 len cp k At H _ _ _ _ _ rfl rfl rfl rfl h4 rfl h6 hf i5.2 i3 i2 _ rfl
  | 3, _ =>
    have hpa : pre σ who (who * 7 + 3) = σ (who * 7 + 3) := by (simp only [upd, pre, stopF]; (repeat' split) <;> first | (exfalso; omega) | assumption | rfl | omega | (simp_all; done))
    have hpb : pre σ who (who * 7 + 3) = σ (who * 7 + 3) := by (simp only [upd, pre, stopF]; (repeat' split) <;> first | (exfalso; omega) | assumption | rfl | omega | (simp_all; done))
    have hq : (pre σ who (who * 7 + 3) + pre σ who (who * 7 + 3)) % 10 = (σ (who * 7 + 3) + σ (who * 7 + 3)) % 10 := by rw [hpa]
    have he : eff s x (pre σ who) who = upd (pre σ who) (who * 7 + 3) ((pre σ who (who * 7 + 3) + pre σ who (who * 7 + 3)) % 10) := by
      simp only [eff, hc, eA, eB]
      simp []
    rw [hq] at he
    clear hq hpa hpb
    have hu : updT σ who (σ (who * 7)) (σ (who * 7 + 1)) (σ (who * 7 + 2)) ((σ (who * 7 + 3) + σ (who * 7 + 3)) % 10) ((k : Int) + 1) (σ (who * 7 + 5) - 1) 0 = upd (pre σ who) (who * 7 + 3) ((σ (who * 7 + 3) + σ (who * 7 + 3)) % 10) := by
      apply updT_is
      all_goals first | (simp only [upd, pre, stopF]; (repeat' split) <;> first | (exfalso; omega) | assumption | rfl | omega | (simp_all; done)) | (intro i e0 e1 e2 e3 e4 e5 e6; (simp only [upd, pre, stopF]; (repeat' split) <;> first | (exfalso; omega) | assumption | rfl | omega | (simp_all; done)))
    rw [he, ← hu]
    exact rturn43_33 w s L σ who g cap g2 len cp k At H _ _ _ _ _ rfl rfl rfl rfl h4 rfl h6 hf i5.2 i3 i3 _ rfl

set_option maxHeartbeats 1000000 in
theorem rt45_0 {w : World} {s : ByteArray} {L : List (List Nat)} {σ : Nat → Int} {who g cap g2 len cp k x : Nat} {At : Int} {b : Nat} (H : RTurnAt w s L σ who g cap g2 len cp k 45 0 (b : Int) At) (hc : pk s x = 45) (hA : stepA s x = 0) (hB : stepB s x = (b : Int)) (hb : b < 4) (hinv : Inv σ) (h4 : σ (who * 7 + 4) = (k : Int)) (h6 : σ (who * 7 + 6) = 0) (hf : 0 < σ (who * 7 + 5)) :
    Calls Try.prog 15 #[.slice (some ⟨g, 0, none⟩) L.length cap, .agg (rst σ), .int .i64 (who : Int)] w fun e w' => e = .returned (.agg (rst (eff s x (pre σ who) who))) ∧ w.grownBy w' none := by
  have hw3 := H.w3
  have i0 := hinv (who * 7) (by omega)
  have i1 := hinv (who * 7 + 1) (by omega)
  have i2 := hinv (who * 7 + 2) (by omega)
  have i3 := hinv (who * 7 + 3) (by omega)
  have i5 := hinv (who * 7 + 5) (by omega)
  have eA : (stepA s x).toNat = 0 := by omega
  have eB : (stepB s x).toNat = b := by omega
  match b, hb with
  | 0, _ =>
    have hpa : pre σ who (who * 7 + 0) = σ (who * 7) := by (simp only [upd, pre, stopF]; (repeat' split) <;> first | (exfalso; omega) | assumption | rfl | omega | (simp_all; done))
    have hpb : pre σ who (who * 7 + 0) = σ (who * 7) := by (simp only [upd, pre, stopF]; (repeat' split) <;> first | (exfalso; omega) | assumption | rfl | omega | (simp_all; done))
    have hq : (pre σ who (who * 7 + 0) + 10 - pre σ who (who * 7 + 0)) % 10 = 0 := by rw [hpa]; omega
    have he : eff s x (pre σ who) who = upd (pre σ who) (who * 7 + 0) ((pre σ who (who * 7 + 0) + 10 - pre σ who (who * 7 + 0)) % 10) := by
      simp only [eff, hc, eA, eB]
      simp []
    rw [hq] at he
    clear hq hpa hpb
    have hu : updT σ who (0) (σ (who * 7 + 1)) (σ (who * 7 + 2)) (σ (who * 7 + 3)) ((k : Int) + 1) (σ (who * 7 + 5) - 1) 0 = upd (pre σ who) (who * 7 + 0) (0) := by
      apply updT_is
      all_goals first | (simp only [upd, pre, stopF]; (repeat' split) <;> first | (exfalso; omega) | assumption | rfl | omega | (simp_all; done)) | (intro i e0 e1 e2 e3 e4 e5 e6; (simp only [upd, pre, stopF]; (repeat' split) <;> first | (exfalso; omega) | assumption | rfl | omega | (simp_all; done)))
    rw [he, ← hu]
    exact rturn45_00 w s L σ who g cap g2 len cp k At H _ _ _ _ _ rfl rfl rfl rfl h4 rfl h6 hf i5.2 i0 i0 _ rfl
  | 1, _ =>
    have hpa : pre σ who (who * 7 + 0) = σ (who * 7) := by (simp only [upd, pre, stopF]; (repeat' split) <;> first | (exfalso; omega) | assumption | rfl | omega | (simp_all; done))
    have hpb : pre σ who (who * 7 + 1) = σ (who * 7 + 1) := by (simp only [upd, pre, stopF]; (repeat' split) <;> first | (exfalso; omega) | assumption | rfl | omega | (simp_all; done))
    have hq : (pre σ who (who * 7 + 0) + 10 - pre σ who (who * 7 + 1)) % 10 = (σ (who * 7) - σ (who * 7 + 1) + 10) % 10 := by rw [hpa, hpb]; omega
    have he : eff s x (pre σ who) who = upd (pre σ who) (who * 7 + 0) ((pre σ who (who * 7 + 0) + 10 - pre σ who (who * 7 + 1)) % 10) := by
      simp only [eff, hc, eA, eB]
      simp []
    rw [hq] at he
    clear hq hpa hpb
    have hu : updT σ who ((σ (who * 7) - σ (who * 7 + 1) + 10) % 10) (σ (who * 7 + 1)) (σ (who * 7 + 2)) (σ (who * 7 + 3)) ((k : Int) + 1) (σ (who * 7 + 5) - 1) 0 = upd (pre σ who) (who * 7 + 0) ((σ (who * 7) - σ (who * 7 + 1) + 10) % 10) := by
      apply updT_is
      all_goals first | (simp only [upd, pre, stopF]; (repeat' split) <;> first | (exfalso; omega) | assumption | rfl | omega | (simp_all; done)) | (intro i e0 e1 e2 e3 e4 e5 e6; (simp only [upd, pre, stopF]; (repeat' split) <;> first | (exfalso; omega) | assumption | rfl | omega | (simp_all; done)))
    rw [he, ← hu]
    exact rturn45_01 w s L σ who g cap g2 len cp k At H _ _ _ _ _ rfl rfl rfl rfl h4 rfl h6 hf i5.2 i0 i1 _ rfl
  | 2, _ =>
    have hpa : pre σ who (who * 7 + 0) = σ (who * 7) := by (simp only [upd, pre, stopF]; (repeat' split) <;> first | (exfalso; omega) | assumption | rfl | omega | (simp_all; done))
    have hpb : pre σ who (who * 7 + 2) = σ (who * 7 + 2) := by (simp only [upd, pre, stopF]; (repeat' split) <;> first | (exfalso; omega) | assumption | rfl | omega | (simp_all; done))
    have hq : (pre σ who (who * 7 + 0) + 10 - pre σ who (who * 7 + 2)) % 10 = (σ (who * 7) - σ (who * 7 + 2) + 10) % 10 := by rw [hpa, hpb]; omega
    have he : eff s x (pre σ who) who = upd (pre σ who) (who * 7 + 0) ((pre σ who (who * 7 + 0) + 10 - pre σ who (who * 7 + 2)) % 10) := by
      simp only [eff, hc, eA, eB]
      simp []
    rw [hq] at he
    clear hq hpa hpb
    have hu : updT σ who ((σ (who * 7) - σ (who * 7 + 2) + 10) % 10) (σ (who * 7 + 1)) (σ (who * 7 + 2)) (σ (who * 7 + 3)) ((k : Int) + 1) (σ (who * 7 + 5) - 1) 0 = upd (pre σ who) (who * 7 + 0) ((σ (who * 7) - σ (who * 7 + 2) + 10) % 10) := by
      apply updT_is
      all_goals first | (simp only [upd, pre, stopF]; (repeat' split) <;> first | (exfalso; omega) | assumption | rfl | omega | (simp_all; done)) | (intro i e0 e1 e2 e3 e4 e5 e6; (simp only [upd, pre, stopF]; (repeat' split) <;> first | (exfalso; omega) | assumption | rfl | omega | (simp_all; done)))
    rw [he, ← hu]
    exact rturn45_02 w s L σ who g cap g2 len cp k At H _ _ _ _ _ rfl rfl rfl rfl h4 rfl h6 hf i5.2 i0 i2 _ rfl
  | 3, _ =>
    have hpa : pre σ who (who * 7 + 0) = σ (who * 7) := by (simp only [upd, pre, stopF]; (repeat' split) <;> first | (exfalso; omega) | assumption | rfl | omega | (simp_all; done))
    have hpb : pre σ who (who * 7 + 3) = σ (who * 7 + 3) := by (simp only [upd, pre, stopF]; (repeat' split) <;> first | (exfalso; omega) | assumption | rfl | omega | (simp_all; done))
    have hq : (pre σ who (who * 7 + 0) + 10 - pre σ who (who * 7 + 3)) % 10 = (σ (who * 7) - σ (who * 7 + 3) + 10) % 10 := by rw [hpa, hpb]; omega
    have he : eff s x (pre σ who) who = upd (pre σ who) (who * 7 + 0) ((pre σ who (who * 7 + 0) + 10 - pre σ who (who * 7 + 3)) % 10) := by
      simp only [eff, hc, eA, eB]
      simp []
    rw [hq] at he
    clear hq hpa hpb
    have hu : updT σ who ((σ (who * 7) - σ (who * 7 + 3) + 10) % 10) (σ (who * 7 + 1)) (σ (who * 7 + 2)) (σ (who * 7 + 3)) ((k : Int) + 1) (σ (who * 7 + 5) - 1) 0 = upd (pre σ who) (who * 7 + 0) ((σ (who * 7) - σ (who * 7 + 3) + 10) % 10) := by
      apply updT_is
      all_goals first | (simp only [upd, pre, stopF]; (repeat' split) <;> first | (exfalso; omega) | assumption | rfl | omega | (simp_all; done)) | (intro i e0 e1 e2 e3 e4 e5 e6; (simp only [upd, pre, stopF]; (repeat' split) <;> first | (exfalso; omega) | assumption | rfl | omega | (simp_all; done)))
    rw [he, ← hu]
    exact rturn45_03 w s L σ who g cap g2 len cp k At H _ _ _ _ _ rfl rfl rfl rfl h4 rfl h6 hf i5.2 i0 i3 _ rfl

set_option maxHeartbeats 1000000 in
theorem rt45_1 {w : World} {s : ByteArray} {L : List (List Nat)} {σ : Nat → Int} {who g cap g2 len cp k x : Nat} {At : Int} {b : Nat} (H : RTurnAt w s L σ who g cap g2 len cp k 45 1 (b : Int) At) (hc : pk s x = 45) (hA : stepA s x = 1) (hB : stepB s x = (b : Int)) (hb : b < 4) (hinv : Inv σ) (h4 : σ (who * 7 + 4) = (k : Int)) (h6 : σ (who * 7 + 6) = 0) (hf : 0 < σ (who * 7 + 5)) :
    Calls Try.prog 15 #[.slice (some ⟨g, 0, none⟩) L.length cap, .agg (rst σ), .int .i64 (who : Int)] w fun e w' => e = .returned (.agg (rst (eff s x (pre σ who) who))) ∧ w.grownBy w' none := by
  have hw3 := H.w3
  have i0 := hinv (who * 7) (by omega)
  have i1 := hinv (who * 7 + 1) (by omega)
  have i2 := hinv (who * 7 + 2) (by omega)
  have i3 := hinv (who * 7 + 3) (by omega)
  have i5 := hinv (who * 7 + 5) (by omega)
  have eA : (stepA s x).toNat = 1 := by omega
  have eB : (stepB s x).toNat = b := by omega
  match b, hb with
  | 0, _ =>
    have hpa : pre σ who (who * 7 + 1) = σ (who * 7 + 1) := by (simp only [upd, pre, stopF]; (repeat' split) <;> first | (exfalso; omega) | assumption | rfl | omega | (simp_all; done))
    have hpb : pre σ who (who * 7 + 0) = σ (who * 7) := by (simp only [upd, pre, stopF]; (repeat' split) <;> first | (exfalso; omega) | assumption | rfl | omega | (simp_all; done))
    have hq : (pre σ who (who * 7 + 1) + 10 - pre σ who (who * 7 + 0)) % 10 = (σ (who * 7 + 1) - σ (who * 7) + 10) % 10 := by rw [hpa, hpb]; omega
    have he : eff s x (pre σ who) who = upd (pre σ who) (who * 7 + 1) ((pre σ who (who * 7 + 1) + 10 - pre σ who (who * 7 + 0)) % 10) := by
      simp only [eff, hc, eA, eB]
      simp []
    rw [hq] at he
    clear hq hpa hpb
    have hu : updT σ who (σ (who * 7)) ((σ (who * 7 + 1) - σ (who * 7) + 10) % 10) (σ (who * 7 + 2)) (σ (who * 7 + 3)) ((k : Int) + 1) (σ (who * 7 + 5) - 1) 0 = upd (pre σ who) (who * 7 + 1) ((σ (who * 7 + 1) - σ (who * 7) + 10) % 10) := by
      apply updT_is
      all_goals first | (simp only [upd, pre, stopF]; (repeat' split) <;> first | (exfalso; omega) | assumption | rfl | omega | (simp_all; done)) | (intro i e0 e1 e2 e3 e4 e5 e6; (simp only [upd, pre, stopF]; (repeat' split) <;> first | (exfalso; omega) | assumption | rfl | omega | (simp_all; done)))
    rw [he, ← hu]
    exact rturn45_10 w s L σ who g cap g2 len cp k At H _ _ _ _ _ rfl rfl rfl rfl h4 rfl h6 hf i5.2 i1 i0 _ rfl
  | 1, _ =>
    have hpa : pre σ who (who * 7 + 1) = σ (who * 7 + 1) := by (simp only [upd, pre, stopF]; (repeat' split) <;> first | (exfalso; omega) | assumption | rfl | omega | (simp_all; done))
    have hpb : pre σ who (who * 7 + 1) = σ (who * 7 + 1) := by (simp only [upd, pre, stopF]; (repeat' split) <;> first | (exfalso; omega) | assumption | rfl | omega | (simp_all; done))
    have hq : (pre σ who (who * 7 + 1) + 10 - pre σ who (who * 7 + 1)) % 10 = 0 := by rw [hpa]; omega
    have he : eff s x (pre σ who) who = upd (pre σ who) (who * 7 + 1) ((pre σ who (who * 7 + 1) + 10 - pre σ who (who * 7 + 1)) % 10) := by
      simp only [eff, hc, eA, eB]
      simp []
    rw [hq] at he
    clear hq hpa hpb
    have hu : updT σ who (σ (who * 7)) (0) (σ (who * 7 + 2)) (σ (who * 7 + 3)) ((k : Int) + 1) (σ (who * 7 + 5) - 1) 0 = upd (pre σ who) (who * 7 + 1) (0) := by
      apply updT_is
      all_goals first | (simp only [upd, pre, stopF]; (repeat' split) <;> first | (exfalso; omega) | assumption | rfl | omega | (simp_all; done)) | (intro i e0 e1 e2 e3 e4 e5 e6; (simp only [upd, pre, stopF]; (repeat' split) <;> first | (exfalso; omega) | assumption | rfl | omega | (simp_all; done)))
    rw [he, ← hu]
    exact rturn45_11 w s L σ who g cap g2 len cp k At H _ _ _ _ _ rfl rfl rfl rfl h4 rfl h6 hf i5.2 i1 i1 _ rfl
  | 2, _ =>
    have hpa : pre σ who (who * 7 + 1) = σ (who * 7 + 1) := by (simp only [upd, pre, stopF]; (repeat' split) <;> first | (exfalso; omega) | assumption | rfl | omega | (simp_all; done))
    have hpb : pre σ who (who * 7 + 2) = σ (who * 7 + 2) := by (simp only [upd, pre, stopF]; (repeat' split) <;> first | (exfalso; omega) | assumption | rfl | omega | (simp_all; done))
    have hq : (pre σ who (who * 7 + 1) + 10 - pre σ who (who * 7 + 2)) % 10 = (σ (who * 7 + 1) - σ (who * 7 + 2) + 10) % 10 := by rw [hpa, hpb]; omega
    have he : eff s x (pre σ who) who = upd (pre σ who) (who * 7 + 1) ((pre σ who (who * 7 + 1) + 10 - pre σ who (who * 7 + 2)) % 10) := by
      simp only [eff, hc, eA, eB]
      simp []
    rw [hq] at he
    clear hq hpa hpb
    have hu : updT σ who (σ (who * 7)) ((σ (who * 7 + 1) - σ (who * 7 + 2) + 10) % 10) (σ (who * 7 + 2)) (σ (who * 7 + 3)) ((k : Int) + 1) (σ (who * 7 + 5) - 1) 0 = upd (pre σ who) (who * 7 + 1) ((σ (who * 7 + 1) - σ (who * 7 + 2) + 10) % 10) := by
      apply updT_is
      all_goals first | (simp only [upd, pre, stopF]; (repeat' split) <;> first | (exfalso; omega) | assumption | rfl | omega | (simp_all; done)) | (intro i e0 e1 e2 e3 e4 e5 e6; (simp only [upd, pre, stopF]; (repeat' split) <;> first | (exfalso; omega) | assumption | rfl | omega | (simp_all; done)))
    rw [he, ← hu]
    exact rturn45_12 w s L σ who g cap g2 len cp k At H _ _ _ _ _ rfl rfl rfl rfl h4 rfl h6 hf i5.2 i1 i2 _ rfl
  | 3, _ =>
    have hpa : pre σ who (who * 7 + 1) = σ (who * 7 + 1) := by (simp only [upd, pre, stopF]; (repeat' split) <;> first | (exfalso; omega) | assumption | rfl | omega | (simp_all; done))
    have hpb : pre σ who (who * 7 + 3) = σ (who * 7 + 3) := by (simp only [upd, pre, stopF]; (repeat' split) <;> first | (exfalso; omega) | assumption | rfl | omega | (simp_all; done))
    have hq : (pre σ who (who * 7 + 1) + 10 - pre σ who (who * 7 + 3)) % 10 = (σ (who * 7 + 1) - σ (who * 7 + 3) + 10) % 10 := by rw [hpa, hpb]; omega
    have he : eff s x (pre σ who) who = upd (pre σ who) (who * 7 + 1) ((pre σ who (who * 7 + 1) + 10 - pre σ who (who * 7 + 3)) % 10) := by
      simp only [eff, hc, eA, eB]
      simp []
    rw [hq] at he
    clear hq hpa hpb
    have hu : updT σ who (σ (who * 7)) ((σ (who * 7 + 1) - σ (who * 7 + 3) + 10) % 10) (σ (who * 7 + 2)) (σ (who * 7 + 3)) ((k : Int) + 1) (σ (who * 7 + 5) - 1) 0 = upd (pre σ who) (who * 7 + 1) ((σ (who * 7 + 1) - σ (who * 7 + 3) + 10) % 10) := by
      apply updT_is
      all_goals first | (simp only [upd, pre, stopF]; (repeat' split) <;> first | (exfalso; omega) | assumption | rfl | omega | (simp_all; done)) | (intro i e0 e1 e2 e3 e4 e5 e6; (simp only [upd, pre, stopF]; (repeat' split) <;> first | (exfalso; omega) | assumption | rfl | omega | (simp_all; done)))
    rw [he, ← hu]
    exact rturn45_13 w s L σ who g cap g2 len cp k At H _ _ _ _ _ rfl rfl rfl rfl h4 rfl h6 hf i5.2 i1 i3 _ rfl

set_option maxHeartbeats 1000000 in
theorem rt45_2 {w : World} {s : ByteArray} {L : List (List Nat)} {σ : Nat → Int} {who g cap g2 len cp k x : Nat} {At : Int} {b : Nat} (H : RTurnAt w s L σ who g cap g2 len cp k 45 2 (b : Int) At) (hc : pk s x = 45) (hA : stepA s x = 2) (hB : stepB s x = (b : Int)) (hb : b < 4) (hinv : Inv σ) (h4 : σ (who * 7 + 4) = (k : Int)) (h6 : σ (who * 7 + 6) = 0) (hf : 0 < σ (who * 7 + 5)) :
    Calls Try.prog 15 #[.slice (some ⟨g, 0, none⟩) L.length cap, .agg (rst σ), .int .i64 (who : Int)] w fun e w' => e = .returned (.agg (rst (eff s x (pre σ who) who))) ∧ w.grownBy w' none := by
  have hw3 := H.w3
  have i0 := hinv (who * 7) (by omega)
  have i1 := hinv (who * 7 + 1) (by omega)
  have i2 := hinv (who * 7 + 2) (by omega)
  have i3 := hinv (who * 7 + 3) (by omega)
  have i5 := hinv (who * 7 + 5) (by omega)
  have eA : (stepA s x).toNat = 2 := by omega
  have eB : (stepB s x).toNat = b := by omega
  match b, hb with
  | 0, _ =>
    have hpa : pre σ who (who * 7 + 2) = σ (who * 7 + 2) := by (simp only [upd, pre, stopF]; (repeat' split) <;> first | (exfalso; omega) | assumption | rfl | omega | (simp_all; done))
    have hpb : pre σ who (who * 7 + 0) = σ (who * 7) := by (simp only [upd, pre, stopF]; (repeat' split) <;> first | (exfalso; omega) | assumption | rfl | omega | (simp_all; done))
    have hq : (pre σ who (who * 7 + 2) + 10 - pre σ who (who * 7 + 0)) % 10 = (σ (who * 7 + 2) - σ (who * 7) + 10) % 10 := by rw [hpa, hpb]; omega
    have he : eff s x (pre σ who) who = upd (pre σ who) (who * 7 + 2) ((pre σ who (who * 7 + 2) + 10 - pre σ who (who * 7 + 0)) % 10) := by
      simp only [eff, hc, eA, eB]
      simp []
    rw [hq] at he
    clear hq hpa hpb
    have hu : updT σ who (σ (who * 7)) (σ (who * 7 + 1)) ((σ (who * 7 + 2) - σ (who * 7) + 10) % 10) (σ (who * 7 + 3)) ((k : Int) + 1) (σ (who * 7 + 5) - 1) 0 = upd (pre σ who) (who * 7 + 2) ((σ (who * 7 + 2) - σ (who * 7) + 10) % 10) := by
      apply updT_is
      all_goals first | (simp only [upd, pre, stopF]; (repeat' split) <;> first | (exfalso; omega) | assumption | rfl | omega | (simp_all; done)) | (intro i e0 e1 e2 e3 e4 e5 e6; (simp only [upd, pre, stopF]; (repeat' split) <;> first | (exfalso; omega) | assumption | rfl | omega | (simp_all; done)))
    rw [he, ← hu]
    exact rturn45_20 w s L σ who g cap g2 len cp k At H _ _ _ _ _ rfl rfl rfl rfl h4 rfl h6 hf i5.2 i2 i0 _ rfl
  | 1, _ =>
    have hpa : pre σ who (who * 7 + 2) = σ (who * 7 + 2) := by (simp only [upd, pre, stopF]; (repeat' split) <;> first | (exfalso; omega) | assumption | rfl | omega | (simp_all; done))
    have hpb : pre σ who (who * 7 + 1) = σ (who * 7 + 1) := by (simp only [upd, pre, stopF]; (repeat' split) <;> first | (exfalso; omega) | assumption | rfl | omega | (simp_all; done))
    have hq : (pre σ who (who * 7 + 2) + 10 - pre σ who (who * 7 + 1)) % 10 = (σ (who * 7 + 2) - σ (who * 7 + 1) + 10) % 10 := by rw [hpa, hpb]; omega
    have he : eff s x (pre σ who) who = upd (pre σ who) (who * 7 + 2) ((pre σ who (who * 7 + 2) + 10 - pre σ who (who * 7 + 1)) % 10) := by
      simp only [eff, hc, eA, eB]
      simp []
    rw [hq] at he
    clear hq hpa hpb
    have hu : updT σ who (σ (who * 7)) (σ (who * 7 + 1)) ((σ (who * 7 + 2) - σ (who * 7 + 1) + 10) % 10) (σ (who * 7 + 3)) ((k : Int) + 1) (σ (who * 7 + 5) - 1) 0 = upd (pre σ who) (who * 7 + 2) ((σ (who * 7 + 2) - σ (who * 7 + 1) + 10) % 10) := by
      apply updT_is
      all_goals first | (simp only [upd, pre, stopF]; (repeat' split) <;> first | (exfalso; omega) | assumption | rfl | omega | (simp_all; done)) | (intro i e0 e1 e2 e3 e4 e5 e6; (simp only [upd, pre, stopF]; (repeat' split) <;> first | (exfalso; omega) | assumption | rfl | omega | (simp_all; done)))
    rw [he, ← hu]
    exact rturn45_21 w s L σ who g cap g2 len cp k At H _ _ _ _ _ rfl rfl rfl rfl h4 rfl h6 hf i5.2 i2 i1 _ rfl
  | 2, _ =>
    have hpa : pre σ who (who * 7 + 2) = σ (who * 7 + 2) := by (simp only [upd, pre, stopF]; (repeat' split) <;> first | (exfalso; omega) | assumption | rfl | omega | (simp_all; done))
    have hpb : pre σ who (who * 7 + 2) = σ (who * 7 + 2) := by (simp only [upd, pre, stopF]; (repeat' split) <;> first | (exfalso; omega) | assumption | rfl | omega | (simp_all; done))
    have hq : (pre σ who (who * 7 + 2) + 10 - pre σ who (who * 7 + 2)) % 10 = 0 := by rw [hpa]; omega
    have he : eff s x (pre σ who) who = upd (pre σ who) (who * 7 + 2) ((pre σ who (who * 7 + 2) + 10 - pre σ who (who * 7 + 2)) % 10) := by
      simp only [eff, hc, eA, eB]
      simp []
    rw [hq] at he
    clear hq hpa hpb
    have hu : updT σ who (σ (who * 7)) (σ (who * 7 + 1)) (0) (σ (who * 7 + 3)) ((k : Int) + 1) (σ (who * 7 + 5) - 1) 0 = upd (pre σ who) (who * 7 + 2) (0) := by
      apply updT_is
      all_goals first | (simp only [upd, pre, stopF]; (repeat' split) <;> first | (exfalso; omega) | assumption | rfl | omega | (simp_all; done)) | (intro i e0 e1 e2 e3 e4 e5 e6; (simp only [upd, pre, stopF]; (repeat' split) <;> first | (exfalso; omega) | assumption | rfl | omega | (simp_all; done)))
    rw [he, ← hu]
    exact rturn45_22 w s L σ who g cap g2 len cp k At H _ _ _ _ _ rfl rfl rfl rfl h4 rfl h6 hf i5.2 i2 i2 _ rfl
  | 3, _ =>
    have hpa : pre σ who (who * 7 + 2) = σ (who * 7 + 2) := by (simp only [upd, pre, stopF]; (repeat' split) <;> first | (exfalso; omega) | assumption | rfl | omega | (simp_all; done))
    have hpb : pre σ who (who * 7 + 3) = σ (who * 7 + 3) := by (simp only [upd, pre, stopF]; (repeat' split) <;> first | (exfalso; omega) | assumption | rfl | omega | (simp_all; done))
    have hq : (pre σ who (who * 7 + 2) + 10 - pre σ who (who * 7 + 3)) % 10 = (σ (who * 7 + 2) - σ (who * 7 + 3) + 10) % 10 := by rw [hpa, hpb]; omega
    have he : eff s x (pre σ who) who = upd (pre σ who) (who * 7 + 2) ((pre σ who (who * 7 + 2) + 10 - pre σ who (who * 7 + 3)) % 10) := by
      simp only [eff, hc, eA, eB]
      simp []
    rw [hq] at he
    clear hq hpa hpb
    have hu : updT σ who (σ (who * 7)) (σ (who * 7 + 1)) ((σ (who * 7 + 2) - σ (who * 7 + 3) + 10) % 10) (σ (who * 7 + 3)) ((k : Int) + 1) (σ (who * 7 + 5) - 1) 0 = upd (pre σ who) (who * 7 + 2) ((σ (who * 7 + 2) - σ (who * 7 + 3) + 10) % 10) := by
      apply updT_is
      all_goals first | (simp only [upd, pre, stopF]; (repeat' split) <;> first | (exfalso; omega) | assumption | rfl | omega | (simp_all; done)) | (intro i e0 e1 e2 e3 e4 e5 e6; (simp only [upd, pre, stopF]; (repeat' split) <;> first | (exfalso; omega) | assumption | rfl | omega | (simp_all; done)))
    rw [he, ← hu]
    exact rturn45_23 w s L σ who g cap g2 len cp k At H _ _ _ _ _ rfl rfl rfl rfl h4 rfl h6 hf i5.2 i2 i3 _ rfl

set_option maxHeartbeats 1000000 in
theorem rt45_3 {w : World} {s : ByteArray} {L : List (List Nat)} {σ : Nat → Int} {who g cap g2 len cp k x : Nat} {At : Int} {b : Nat} (H : RTurnAt w s L σ who g cap g2 len cp k 45 3 (b : Int) At) (hc : pk s x = 45) (hA : stepA s x = 3) (hB : stepB s x = (b : Int)) (hb : b < 4) (hinv : Inv σ) (h4 : σ (who * 7 + 4) = (k : Int)) (h6 : σ (who * 7 + 6) = 0) (hf : 0 < σ (who * 7 + 5)) :
    Calls Try.prog 15 #[.slice (some ⟨g, 0, none⟩) L.length cap, .agg (rst σ), .int .i64 (who : Int)] w fun e w' => e = .returned (.agg (rst (eff s x (pre σ who) who))) ∧ w.grownBy w' none := by
  have hw3 := H.w3
  have i0 := hinv (who * 7) (by omega)
  have i1 := hinv (who * 7 + 1) (by omega)
  have i2 := hinv (who * 7 + 2) (by omega)
  have i3 := hinv (who * 7 + 3) (by omega)
  have i5 := hinv (who * 7 + 5) (by omega)
  have eA : (stepA s x).toNat = 3 := by omega
  have eB : (stepB s x).toNat = b := by omega
  match b, hb with
  | 0, _ =>
    have hpa : pre σ who (who * 7 + 3) = σ (who * 7 + 3) := by (simp only [upd, pre, stopF]; (repeat' split) <;> first | (exfalso; omega) | assumption | rfl | omega | (simp_all; done))
    have hpb : pre σ who (who * 7 + 0) = σ (who * 7) := by (simp only [upd, pre, stopF]; (repeat' split) <;> first | (exfalso; omega) | assumption | rfl | omega | (simp_all; done))
    have hq : (pre σ who (who * 7 + 3) + 10 - pre σ who (who * 7 + 0)) % 10 = (σ (who * 7 + 3) - σ (who * 7) + 10) % 10 := by rw [hpa, hpb]; omega
    have he : eff s x (pre σ who) who = upd (pre σ who) (who * 7 + 3) ((pre σ who (who * 7 + 3) + 10 - pre σ who (who * 7 + 0)) % 10) := by
      simp only [eff, hc, eA, eB]
      simp []
    rw [hq] at he
    clear hq hpa hpb
    have hu : updT σ who (σ (who * 7)) (σ (who * 7 + 1)) (σ (who * 7 + 2)) ((σ (who * 7 + 3) - σ (who * 7) + 10) % 10) ((k : Int) + 1) (σ (who * 7 + 5) - 1) 0 = upd (pre σ who) (who * 7 + 3) ((σ (who * 7 + 3) - σ (who * 7) + 10) % 10) := by
      apply updT_is
      all_goals first | (simp only [upd, pre, stopF]; (repeat' split) <;> first | (exfalso; omega) | assumption | rfl | omega | (simp_all; done)) | (intro i e0 e1 e2 e3 e4 e5 e6; (simp only [upd, pre, stopF]; (repeat' split) <;> first | (exfalso; omega) | assumption | rfl | omega | (simp_all; done)))
    rw [he, ← hu]
    exact rturn45_30 w s L σ who g cap g2 len cp k At H _ _ _ _ _ rfl rfl rfl rfl h4 rfl h6 hf i5.2 i3 i0 _ rfl
  | 1, _ =>
    have hpa : pre σ who (who * 7 + 3) = σ (who * 7 + 3) := by (simp only [upd, pre, stopF]; (repeat' split) <;> first | (exfalso; omega) | assumption | rfl | omega | (simp_all; done))
    have hpb : pre σ who (who * 7 + 1) = σ (who * 7 + 1) := by (simp only [upd, pre, stopF]; (repeat' split) <;> first | (exfalso; omega) | assumption | rfl | omega | (simp_all; done))
    have hq : (pre σ who (who * 7 + 3) + 10 - pre σ who (who * 7 + 1)) % 10 = (σ (who * 7 + 3) - σ (who * 7 + 1) + 10) % 10 := by rw [hpa, hpb]; omega
    have he : eff s x (pre σ who) who = upd (pre σ who) (who * 7 + 3) ((pre σ who (who * 7 + 3) + 10 - pre σ who (who * 7 + 1)) % 10) := by
      simp only [eff, hc, eA, eB]
      simp []
    rw [hq] at he
    clear hq hpa hpb
    have hu : updT σ who (σ (who * 7)) (σ (who * 7 + 1)) (σ (who * 7 + 2)) ((σ (who * 7 + 3) - σ (who * 7 + 1) + 10) % 10) ((k : Int) + 1) (σ (who * 7 + 5) - 1) 0 = upd (pre σ who) (who * 7 + 3) ((σ (who * 7 + 3) - σ (who * 7 + 1) + 10) % 10) := by
      apply updT_is
      all_goals first | (simp only [upd, pre, stopF]; (repeat' split) <;> first | (exfalso; omega) | assumption | rfl | omega | (simp_all; done)) | (intro i e0 e1 e2 e3 e4 e5 e6; (simp only [upd, pre, stopF]; (repeat' split) <;> first | (exfalso; omega) | assumption | rfl | omega | (simp_all; done)))
    rw [he, ← hu]
    exact rturn45_31 w s L σ who g cap g2 len cp k At H _ _ _ _ _ rfl rfl rfl rfl h4 rfl h6 hf i5.2 i3 i1 _ rfl
  | 2, _ =>
    have hpa : pre σ who (who * 7 + 3) = σ (who * 7 + 3) := by (simp only [upd, pre, stopF]; (repeat' split) <;> first | (exfalso; omega) | assumption | rfl | omega | (simp_all; done))
    have hpb : pre σ who (who * 7 + 2) = σ (who * 7 + 2) := by (simp only [upd, pre, stopF]; (repeat' split) <;> first | (exfalso; omega) | assumption | rfl | omega | (simp_all; done))
    have hq : (pre σ who (who * 7 + 3) + 10 - pre σ who (who * 7 + 2)) % 10 = (σ (who * 7 + 3) - σ (who * 7 + 2) + 10) % 10 := by rw [hpa, hpb]; omega
    have he : eff s x (pre σ who) who = upd (pre σ who) (who * 7 + 3) ((pre σ who (who * 7 + 3) + 10 - pre σ who (who * 7 + 2)) % 10) := by
      simp only [eff, hc, eA, eB]
      simp []
    rw [hq] at he
    clear hq hpa hpb
    have hu : updT σ who (σ (who * 7)) (σ (who * 7 + 1)) (σ (who * 7 + 2)) ((σ (who * 7 + 3) - σ (who * 7 + 2) + 10) % 10) ((k : Int) + 1) (σ (who * 7 + 5) - 1) 0 = upd (pre σ who) (who * 7 + 3) ((σ (who * 7 + 3) - σ (who * 7 + 2) + 10) % 10) := by
      apply updT_is
      all_goals first | (simp only [upd, pre, stopF]; (repeat' split) <;> first | (exfalso; omega) | assumption | rfl | omega | (simp_all; done)) | (intro i e0 e1 e2 e3 e4 e5 e6; (simp only [upd, pre, stopF]; (repeat' split) <;> first | (exfalso; omega) | assumption | rfl | omega | (simp_all; done)))
    rw [he, ← hu]
    exact rturn45_32 w s L σ who g cap g2 len cp k At H _ _ _ _ _ rfl rfl rfl rfl h4 rfl h6 hf i5.2 i3 i2 _ rfl
  | 3, _ =>
    have hpa : pre σ who (who * 7 + 3) = σ (who * 7 + 3) := by (simp only [upd, pre, stopF]; (repeat' split) <;> first | (exfalso; omega) | assumption | rfl | omega | (simp_all; done))
    have hpb : pre σ who (who * 7 + 3) = σ (who * 7 + 3) := by (simp only [upd, pre, stopF]; (repeat' split) <;> first | (exfalso; omega) | assumption | rfl | omega | (simp_all; done))
    have hq : (pre σ who (who * 7 + 3) + 10 - pre σ who (who * 7 + 3)) % 10 = 0 := by rw [hpa]; omega
    have he : eff s x (pre σ who) who = upd (pre σ who) (who * 7 + 3) ((pre σ who (who * 7 + 3) + 10 - pre σ who (who * 7 + 3)) % 10) := by
      simp only [eff, hc, eA, eB]
      simp []
    rw [hq] at he
    clear hq hpa hpb
    have hu : updT σ who (σ (who * 7)) (σ (who * 7 + 1)) (σ (who * 7 + 2)) (0) ((k : Int) + 1) (σ (who * 7 + 5) - 1) 0 = upd (pre σ who) (who * 7 + 3) (0) := by
      apply updT_is
      all_goals first | (simp only [upd, pre, stopF]; (repeat' split) <;> first | (exfalso; omega) | assumption | rfl | omega | (simp_all; done)) | (intro i e0 e1 e2 e3 e4 e5 e6; (simp only [upd, pre, stopF]; (repeat' split) <;> first | (exfalso; omega) | assumption | rfl | omega | (simp_all; done)))
    rw [he, ← hu]
    exact rturn45_33 w s L σ who g cap g2 len cp k At H _ _ _ _ _ rfl rfl rfl rfl h4 rfl h6 hf i5.2 i3 i3 _ rfl

theorem rt114 {w : World} {s : ByteArray} {L : List (List Nat)} {σ : Nat → Int} {who g cap g2 len cp k x : Nat} {At : Int} {a b : Nat} (H : RTurnAt w s L σ who g cap g2 len cp k 114 (a : Int) (b : Int) At) (hc : pk s x = 114) (hA : stepA s x = (a : Int)) (hB : stepB s x = (b : Int)) (ha : a < 4) (hb : b < 3) (hinv : Inv σ) (h4 : σ (who * 7 + 4) = (k : Int)) (h6 : σ (who * 7 + 6) = 0) (hf : 0 < σ (who * 7 + 5)) :
    Calls Try.prog 15 #[.slice (some ⟨g, 0, none⟩) L.length cap, .agg (rst σ), .int .i64 (who : Int)] w fun e w' => e = .returned (.agg (rst (eff s x (pre σ who) who))) ∧ w.grownBy w' none := by
  have hw3 := H.w3
  have i0 := hinv (who * 7) (by omega)
  have i1 := hinv (who * 7 + 1) (by omega)
  have i2 := hinv (who * 7 + 2) (by omega)
  have i3 := hinv (who * 7 + 3) (by omega)
  have i5 := hinv (who * 7 + 5) (by omega)
  have eA : (stepA s x).toNat = a := by omega
  have eB : (stepB s x).toNat = b := by omega
  match a, ha with
  | 0, _ =>
    have he : eff s x (pre σ who) who = upd (pre σ who) (who * 7 + 0) (pre σ who (21 + b)) := by
      simp only [eff, hc, eA, eB]
      simp []
    have hu : updT σ who (σ (21 + b)) (σ (who * 7 + 1)) (σ (who * 7 + 2)) (σ (who * 7 + 3)) ((k : Int) + 1) (σ (who * 7 + 5) - 1) 0 = upd (pre σ who) (who * 7 + 0) (pre σ who (21 + b)) := by
      apply updT_is
      all_goals first | (simp only [upd, pre, stopF]; (repeat' split) <;> first | (exfalso; omega) | assumption | rfl | omega | (simp_all; done)) | (intro i e0 e1 e2 e3 e4 e5 e6; (simp only [upd, pre, stopF]; (repeat' split) <;> first | (exfalso; omega) | assumption | rfl | omega | (simp_all; done)))
    rw [he, ← hu]
    exact rturn114_0 w s L σ who g cap g2 len cp k b At H _ _ _ _ _ rfl rfl rfl rfl h4 rfl h6 hf i5.2 hb _ rfl
  | 1, _ =>
    have he : eff s x (pre σ who) who = upd (pre σ who) (who * 7 + 1) (pre σ who (21 + b)) := by
      simp only [eff, hc, eA, eB]
      simp []
    have hu : updT σ who (σ (who * 7)) (σ (21 + b)) (σ (who * 7 + 2)) (σ (who * 7 + 3)) ((k : Int) + 1) (σ (who * 7 + 5) - 1) 0 = upd (pre σ who) (who * 7 + 1) (pre σ who (21 + b)) := by
      apply updT_is
      all_goals first | (simp only [upd, pre, stopF]; (repeat' split) <;> first | (exfalso; omega) | assumption | rfl | omega | (simp_all; done)) | (intro i e0 e1 e2 e3 e4 e5 e6; (simp only [upd, pre, stopF]; (repeat' split) <;> first | (exfalso; omega) | assumption | rfl | omega | (simp_all; done)))
    rw [he, ← hu]
    exact rturn114_1 w s L σ who g cap g2 len cp k b At H _ _ _ _ _ rfl rfl rfl rfl h4 rfl h6 hf i5.2 hb _ rfl
  | 2, _ =>
    have he : eff s x (pre σ who) who = upd (pre σ who) (who * 7 + 2) (pre σ who (21 + b)) := by
      simp only [eff, hc, eA, eB]
      simp []
    have hu : updT σ who (σ (who * 7)) (σ (who * 7 + 1)) (σ (21 + b)) (σ (who * 7 + 3)) ((k : Int) + 1) (σ (who * 7 + 5) - 1) 0 = upd (pre σ who) (who * 7 + 2) (pre σ who (21 + b)) := by
      apply updT_is
      all_goals first | (simp only [upd, pre, stopF]; (repeat' split) <;> first | (exfalso; omega) | assumption | rfl | omega | (simp_all; done)) | (intro i e0 e1 e2 e3 e4 e5 e6; (simp only [upd, pre, stopF]; (repeat' split) <;> first | (exfalso; omega) | assumption | rfl | omega | (simp_all; done)))
    rw [he, ← hu]
    exact rturn114_2 w s L σ who g cap g2 len cp k b At H _ _ _ _ _ rfl rfl rfl rfl h4 rfl h6 hf i5.2 hb _ rfl
  | 3, _ =>
    have he : eff s x (pre σ who) who = upd (pre σ who) (who * 7 + 3) (pre σ who (21 + b)) := by
      simp only [eff, hc, eA, eB]
      simp []
    have hu : updT σ who (σ (who * 7)) (σ (who * 7 + 1)) (σ (who * 7 + 2)) (σ (21 + b)) ((k : Int) + 1) (σ (who * 7 + 5) - 1) 0 = upd (pre σ who) (who * 7 + 3) (pre σ who (21 + b)) := by
      apply updT_is
      all_goals first | (simp only [upd, pre, stopF]; (repeat' split) <;> first | (exfalso; omega) | assumption | rfl | omega | (simp_all; done)) | (intro i e0 e1 e2 e3 e4 e5 e6; (simp only [upd, pre, stopF]; (repeat' split) <;> first | (exfalso; omega) | assumption | rfl | omega | (simp_all; done)))
    rw [he, ← hu]
    exact rturn114_3 w s L σ who g cap g2 len cp k b At H _ _ _ _ _ rfl rfl rfl rfl h4 rfl h6 hf i5.2 hb _ rfl

theorem rt119 {w : World} {s : ByteArray} {L : List (List Nat)} {σ : Nat → Int} {who g cap g2 len cp k x : Nat} {At : Int} {a b : Nat} (H : RTurnAt w s L σ who g cap g2 len cp k 119 (a : Int) (b : Int) At) (hc : pk s x = 119) (hA : stepA s x = (a : Int)) (hB : stepB s x = (b : Int)) (ha : a < 3) (hb : b < 4) (hinv : Inv σ) (h4 : σ (who * 7 + 4) = (k : Int)) (h6 : σ (who * 7 + 6) = 0) (hf : 0 < σ (who * 7 + 5)) :
    Calls Try.prog 15 #[.slice (some ⟨g, 0, none⟩) L.length cap, .agg (rst σ), .int .i64 (who : Int)] w fun e w' => e = .returned (.agg (rst (eff s x (pre σ who) who))) ∧ w.grownBy w' none := by
  have hw3 := H.w3
  have i0 := hinv (who * 7) (by omega)
  have i1 := hinv (who * 7 + 1) (by omega)
  have i2 := hinv (who * 7 + 2) (by omega)
  have i3 := hinv (who * 7 + 3) (by omega)
  have i5 := hinv (who * 7 + 5) (by omega)
  have eA : (stepA s x).toNat = a := by omega
  have eB : (stepB s x).toNat = b := by omega
  match b, hb with
  | 0, _ =>
    have he : eff s x (pre σ who) who = upd (pre σ who) (21 + a) (pre σ who (who * 7 + 0)) := by
      simp only [eff, hc, eA, eB]
      simp []
    have hu : updT (upd σ (21 + a) (σ (who * 7))) who (σ (who * 7)) (σ (who * 7 + 1)) (σ (who * 7 + 2)) (σ (who * 7 + 3)) ((k : Int) + 1) (σ (who * 7 + 5) - 1) 0 = upd (pre σ who) (21 + a) (pre σ who (who * 7 + 0)) := by
      apply updT_is
      all_goals first | (simp only [upd, pre, stopF]; (repeat' split) <;> first | (exfalso; omega) | assumption | rfl | omega | (simp_all; done)) | (intro i e0 e1 e2 e3 e4 e5 e6; (simp only [upd, pre, stopF]; (repeat' split) <;> first | (exfalso; omega) | assumption | rfl | omega | (simp_all; done)))
    rw [he, ← hu]
    exact rturn119_0 w s L σ who g cap g2 len cp k a At H _ _ _ _ _ rfl rfl rfl rfl h4 rfl h6 hf i5.2 ha _ rfl
  | 1, _ =>
    have he : eff s x (pre σ who) who = upd (pre σ who) (21 + a) (pre σ who (who * 7 + 1)) := by
      simp only [eff, hc, eA, eB]
      simp []
    have hu : updT (upd σ (21 + a) (σ (who * 7 + 1))) who (σ (who * 7)) (σ (who * 7 + 1)) (σ (who * 7 + 2)) (σ (who * 7 + 3)) ((k : Int) + 1) (σ (who * 7 + 5) - 1) 0 = upd (pre σ who) (21 + a) (pre σ who (who * 7 + 1)) := by
      apply updT_is
      all_goals first | (simp only [upd, pre, stopF]; (repeat' split) <;> first | (exfalso; omega) | assumption | rfl | omega | (simp_all; done)) | (intro i e0 e1 e2 e3 e4 e5 e6; (simp only [upd, pre, stopF]; (repeat' split) <;> first | (exfalso; omega) | assumption | rfl | omega | (simp_all; done)))
    rw [he, ← hu]
    exact rturn119_1 w s L σ who g cap g2 len cp k a At H _ _ _ _ _ rfl rfl rfl rfl h4 rfl h6 hf i5.2 ha _ rfl
  | 2, _ =>
    have he : eff s x (pre σ who) who = upd (pre σ who) (21 + a) (pre σ who (who * 7 + 2)) := by
      simp only [eff, hc, eA, eB]
      simp []
    have hu : updT (upd σ (21 + a) (σ (who * 7 + 2))) who (σ (who * 7)) (σ (who * 7 + 1)) (σ (who * 7 + 2)) (σ (who * 7 + 3)) ((k : Int) + 1) (σ (who * 7 + 5) - 1) 0 = upd (pre σ who) (21 + a) (pre σ who (who * 7 + 2)) := by
      apply updT_is
      all_goals first | (simp only [upd, pre, stopF]; (repeat' split) <;> first | (exfalso; omega) | assumption | rfl | omega | (simp_all; done)) | (intro i e0 e1 e2 e3 e4 e5 e6; (simp only [upd, pre, stopF]; (repeat' split) <;> first | (exfalso; omega) | assumption | rfl | omega | (simp_all; done)))
    rw [he, ← hu]
    exact rturn119_2 w s L σ who g cap g2 len cp k a At H _ _ _ _ _ rfl rfl rfl rfl h4 rfl h6 hf i5.2 ha _ rfl
  | 3, _ =>
    have he : eff s x (pre σ who) who = upd (pre σ who) (21 + a) (pre σ who (who * 7 + 3)) := by
      simp only [eff, hc, eA, eB]
      simp []
    have hu : updT (upd σ (21 + a) (σ (who * 7 + 3))) who (σ (who * 7)) (σ (who * 7 + 1)) (σ (who * 7 + 2)) (σ (who * 7 + 3)) ((k : Int) + 1) (σ (who * 7 + 5) - 1) 0 = upd (pre σ who) (21 + a) (pre σ who (who * 7 + 3)) := by
      apply updT_is
      all_goals first | (simp only [upd, pre, stopF]; (repeat' split) <;> first | (exfalso; omega) | assumption | rfl | omega | (simp_all; done)) | (intro i e0 e1 e2 e3 e4 e5 e6; (simp only [upd, pre, stopF]; (repeat' split) <;> first | (exfalso; omega) | assumption | rfl | omega | (simp_all; done)))
    rw [he, ← hu]
    exact rturn119_3 w s L σ who g cap g2 len cp k a At H _ _ _ _ _ rfl rfl rfl rfl h4 rfl h6 hf i5.2 ha _ rfl

theorem rt108 {w : World} {s : ByteArray} {L : List (List Nat)} {σ : Nat → Int} {who g cap g2 len cp k x : Nat} {At : Int} {a : Nat} {b : Int} (H : RTurnAt w s L σ who g cap g2 len cp k 108 (a : Int) b At) (hc : pk s x = 108) (hA : stepA s x = (a : Int)) (ha : a < 2) (hinv : Inv σ) (h4 : σ (who * 7 + 4) = (k : Int)) (h6 : σ (who * 7 + 6) = 0) (hf : 0 < σ (who * 7 + 5)) :
    Calls Try.prog 15 #[.slice (some ⟨g, 0, none⟩) L.length cap, .agg (rst σ), .int .i64 (who : Int)] w fun e w' => e = .returned (.agg (rst (eff s x (pre σ who) who))) ∧ w.grownBy w' none := by
  have hw3 := H.w3
  have i0 := hinv (who * 7) (by omega)
  have i1 := hinv (who * 7 + 1) (by omega)
  have i2 := hinv (who * 7 + 2) (by omega)
  have i3 := hinv (who * 7 + 3) (by omega)
  have i5 := hinv (who * 7 + 5) (by omega)
  have eA : (stepA s x).toNat = a := by omega
  have eB : True := trivial
  have he : eff s x (pre σ who) who = upd (pre σ who) (24 + a) ((who : Int) + 1) := by
    simp only [eff, hc, eA, eB]
    simp []
  have hu : updT (upd σ (24 + a) ((who : Int) + 1)) who (σ (who * 7)) (σ (who * 7 + 1)) (σ (who * 7 + 2)) (σ (who * 7 + 3)) ((k : Int) + 1) (σ (who * 7 + 5) - 1) 0 = upd (pre σ who) (24 + a) ((who : Int) + 1) := by
    apply updT_is
    all_goals first | (simp only [upd, pre, stopF]; (repeat' split) <;> first | (exfalso; omega) | assumption | rfl | omega | (simp_all; done)) | (intro i e0 e1 e2 e3 e4 e5 e6; (simp only [upd, pre, stopF]; (repeat' split) <;> first | (exfalso; omega) | assumption | rfl | omega | (simp_all; done)))
  rw [he, ← hu]
  exact rturn108 w s L σ who g cap g2 len cp k a b At H _ _ _ _ _ rfl rfl rfl rfl h4 rfl h6 hf i5.2 ha _ rfl

theorem rt117 {w : World} {s : ByteArray} {L : List (List Nat)} {σ : Nat → Int} {who g cap g2 len cp k x : Nat} {At : Int} {a : Nat} {b : Int} (H : RTurnAt w s L σ who g cap g2 len cp k 117 (a : Int) b At) (hc : pk s x = 117) (hA : stepA s x = (a : Int)) (ha : a < 2) (hinv : Inv σ) (h4 : σ (who * 7 + 4) = (k : Int)) (h6 : σ (who * 7 + 6) = 0) (hf : 0 < σ (who * 7 + 5)) :
    Calls Try.prog 15 #[.slice (some ⟨g, 0, none⟩) L.length cap, .agg (rst σ), .int .i64 (who : Int)] w fun e w' => e = .returned (.agg (rst (eff s x (pre σ who) who))) ∧ w.grownBy w' none := by
  have hw3 := H.w3
  have i0 := hinv (who * 7) (by omega)
  have i1 := hinv (who * 7 + 1) (by omega)
  have i2 := hinv (who * 7 + 2) (by omega)
  have i3 := hinv (who * 7 + 3) (by omega)
  have i5 := hinv (who * 7 + 5) (by omega)
  have eA : (stepA s x).toNat = a := by omega
  have eB : True := trivial
  have hp : pre σ who (24 + a) = σ (24 + a) := by (simp only [upd, pre, stopF]; (repeat' split) <;> first | (exfalso; omega) | assumption | rfl | omega | (simp_all; done))
  by_cases ho : σ (24 + a) = (who : Int) + 1
  · have he : eff s x (pre σ who) who = upd (pre σ who) (24 + a) 0 := by
      simp only [eff, hc, eA, eB]
      simp [hp, ho]
    have hu : updT (upd σ (24 + a) 0) who (σ (who * 7)) (σ (who * 7 + 1)) (σ (who * 7 + 2)) (σ (who * 7 + 3)) ((k : Int) + 1) (σ (who * 7 + 5) - 1) 0 = upd (pre σ who) (24 + a) 0 := by
      apply updT_is
      all_goals first | (simp only [upd, pre, stopF]; (repeat' split) <;> first | (exfalso; omega) | assumption | rfl | omega | (simp_all; done)) | (intro i e0 e1 e2 e3 e4 e5 e6; (simp only [upd, pre, stopF]; (repeat' split) <;> first | (exfalso; omega) | assumption | rfl | omega | (simp_all; done)))
    rw [he, ← hu]
    exact rturn117_own w s L σ who g cap g2 len cp k a b At H _ _ _ _ _ rfl rfl rfl rfl h4 rfl h6 hf i5.2 ha ho
  · have he : eff s x (pre σ who) who = stopF (pre σ who) who 1 := by
      simp only [eff, hc, eA, eB]
      simp [hp, ho]
    have hu : updT σ who (σ (who * 7)) (σ (who * 7 + 1)) (σ (who * 7 + 2)) (σ (who * 7 + 3)) ((k : Int)) (σ (who * 7 + 5) - 1) 1 = stopF (pre σ who) who 1 := by
      apply updT_is
      all_goals first | (simp only [upd, pre, stopF]; (repeat' split) <;> first | (exfalso; omega) | assumption | rfl | omega | (simp_all; done)) | (intro i e0 e1 e2 e3 e4 e5 e6; (simp only [upd, pre, stopF]; (repeat' split) <;> first | (exfalso; omega) | assumption | rfl | omega | (simp_all; done)))
    rw [he, ← hu]
    exact rturn117_not w s L σ who g cap g2 len cp k a b At H _ _ _ _ _ rfl rfl rfl rfl h4 rfl h6 hf i5.2 ha _ rfl ho

theorem rt122 {w : World} {s : ByteArray} {L : List (List Nat)} {σ : Nat → Int} {who g cap g2 len cp k x : Nat} {At : Int} {a b : Nat} (H : RTurnAt w s L σ who g cap g2 len cp k 122 (a : Int) (b : Int) At) (hc : pk s x = 122) (hA : stepA s x = (a : Int)) (hB : stepB s x = (b : Int)) (ha : a < 4) (hinv : Inv σ) (h4 : σ (who * 7 + 4) = (k : Int)) (h6 : σ (who * 7 + 6) = 0) (hf : 0 < σ (who * 7 + 5)) :
    Calls Try.prog 15 #[.slice (some ⟨g, 0, none⟩) L.length cap, .agg (rst σ), .int .i64 (who : Int)] w fun e w' => e = .returned (.agg (rst (eff s x (pre σ who) who))) ∧ w.grownBy w' none := by
  have hw3 := H.w3
  have i0 := hinv (who * 7) (by omega)
  have i1 := hinv (who * 7 + 1) (by omega)
  have i2 := hinv (who * 7 + 2) (by omega)
  have i3 := hinv (who * 7 + 3) (by omega)
  have i5 := hinv (who * 7 + 5) (by omega)
  have eA : (stepA s x).toNat = a := by omega
  have eB : (stepB s x).toNat = b := by omega
  match a, ha with
  | 0, _ =>
    have hp : pre σ who (who * 7 + 0) = σ (who * 7) := by (simp only [upd, pre, stopF]; (repeat' split) <;> first | (exfalso; omega) | assumption | rfl | omega | (simp_all; done))
    by_cases ho : σ (who * 7) = 0
    · have he : eff s x (pre σ who) who = upd (pre σ who) (who * 7 + 4) (b : Int) := by
        simp only [eff, hc, eA, eB]
        simp [show pre σ who (who * 7) = _ from hp, ho]
      have hu : updT σ who (0) (σ (who * 7 + 1)) (σ (who * 7 + 2)) (σ (who * 7 + 3)) ((b : Int)) (σ (who * 7 + 5) - 1) 0 = upd (pre σ who) (who * 7 + 4) (b : Int) := by
        apply updT_is
        all_goals first | (simp only [upd, pre, stopF]; (repeat' split) <;> first | (exfalso; omega) | assumption | rfl | omega | (simp_all; done)) | (intro i e0 e1 e2 e3 e4 e5 e6; (simp only [upd, pre, stopF]; (repeat' split) <;> first | (exfalso; omega) | assumption | rfl | omega | (simp_all; done)))
      rw [he, ← hu]
      exact rturn122_0_z w s L σ who g cap g2 len cp k b At H _ _ _ _ _ rfl rfl rfl rfl h4 rfl h6 hf i5.2 ho
    · have he : eff s x (pre σ who) who = pre σ who := by
        simp only [eff, hc, eA, eB]
        simp [show pre σ who (who * 7) = _ from hp, ho]
      have hu : updT σ who (σ (who * 7)) (σ (who * 7 + 1)) (σ (who * 7 + 2)) (σ (who * 7 + 3)) ((k : Int) + 1) (σ (who * 7 + 5) - 1) 0 = pre σ who := by
        apply updT_is
        all_goals first | (simp only [upd, pre, stopF]; (repeat' split) <;> first | (exfalso; omega) | assumption | rfl | omega | (simp_all; done)) | (intro i e0 e1 e2 e3 e4 e5 e6; (simp only [upd, pre, stopF]; (repeat' split) <;> first | (exfalso; omega) | assumption | rfl | omega | (simp_all; done)))
      rw [he, ← hu]
      exact rturn122_0_n w s L σ who g cap g2 len cp k b At H _ _ _ _ _ rfl rfl rfl rfl h4 rfl h6 hf i5.2 ho
  | 1, _ =>
    have hp : pre σ who (who * 7 + 1) = σ (who * 7 + 1) := by (simp only [upd, pre, stopF]; (repeat' split) <;> first | (exfalso; omega) | assumption | rfl | omega | (simp_all; done))
    by_cases ho : σ (who * 7 + 1) = 0
    · have he : eff s x (pre σ who) who = upd (pre σ who) (who * 7 + 4) (b : Int) := by
        simp only [eff, hc, eA, eB]
        simp [hp, ho]
      have hu : updT σ who (σ (who * 7)) (0) (σ (who * 7 + 2)) (σ (who * 7 + 3)) ((b : Int)) (σ (who * 7 + 5) - 1) 0 = upd (pre σ who) (who * 7 + 4) (b : Int) := by
        apply updT_is
        all_goals first | (simp only [upd, pre, stopF]; (repeat' split) <;> first | (exfalso; omega) | assumption | rfl | omega | (simp_all; done)) | (intro i e0 e1 e2 e3 e4 e5 e6; (simp only [upd, pre, stopF]; (repeat' split) <;> first | (exfalso; omega) | assumption | rfl | omega | (simp_all; done)))
      rw [he, ← hu]
      exact rturn122_1_z w s L σ who g cap g2 len cp k b At H _ _ _ _ _ rfl rfl rfl rfl h4 rfl h6 hf i5.2 ho
    · have he : eff s x (pre σ who) who = pre σ who := by
        simp only [eff, hc, eA, eB]
        simp [hp, ho]
      have hu : updT σ who (σ (who * 7)) (σ (who * 7 + 1)) (σ (who * 7 + 2)) (σ (who * 7 + 3)) ((k : Int) + 1) (σ (who * 7 + 5) - 1) 0 = pre σ who := by
        apply updT_is
        all_goals first | (simp only [upd, pre, stopF]; (repeat' split) <;> first | (exfalso; omega) | assumption | rfl | omega | (simp_all; done)) | (intro i e0 e1 e2 e3 e4 e5 e6; (simp only [upd, pre, stopF]; (repeat' split) <;> first | (exfalso; omega) | assumption | rfl | omega | (simp_all; done)))
      rw [he, ← hu]
      exact rturn122_1_n w s L σ who g cap g2 len cp k b At H _ _ _ _ _ rfl rfl rfl rfl h4 rfl h6 hf i5.2 ho
  | 2, _ =>
    have hp : pre σ who (who * 7 + 2) = σ (who * 7 + 2) := by (simp only [upd, pre, stopF]; (repeat' split) <;> first | (exfalso; omega) | assumption | rfl | omega | (simp_all; done))
    by_cases ho : σ (who * 7 + 2) = 0
    · have he : eff s x (pre σ who) who = upd (pre σ who) (who * 7 + 4) (b : Int) := by
        simp only [eff, hc, eA, eB]
        simp [hp, ho]
      have hu : updT σ who (σ (who * 7)) (σ (who * 7 + 1)) (0) (σ (who * 7 + 3)) ((b : Int)) (σ (who * 7 + 5) - 1) 0 = upd (pre σ who) (who * 7 + 4) (b : Int) := by
        apply updT_is
        all_goals first | (simp only [upd, pre, stopF]; (repeat' split) <;> first | (exfalso; omega) | assumption | rfl | omega | (simp_all; done)) | (intro i e0 e1 e2 e3 e4 e5 e6; (simp only [upd, pre, stopF]; (repeat' split) <;> first | (exfalso; omega) | assumption | rfl | omega | (simp_all; done)))
      rw [he, ← hu]
      exact rturn122_2_z w s L σ who g cap g2 len cp k b At H _ _ _ _ _ rfl rfl rfl rfl h4 rfl h6 hf i5.2 ho
    · have he : eff s x (pre σ who) who = pre σ who := by
        simp only [eff, hc, eA, eB]
        simp [hp, ho]
      have hu : updT σ who (σ (who * 7)) (σ (who * 7 + 1)) (σ (who * 7 + 2)) (σ (who * 7 + 3)) ((k : Int) + 1) (σ (who * 7 + 5) - 1) 0 = pre σ who := by
        apply updT_is
        all_goals first | (simp only [upd, pre, stopF]; (repeat' split) <;> first | (exfalso; omega) | assumption | rfl | omega | (simp_all; done)) | (intro i e0 e1 e2 e3 e4 e5 e6; (simp only [upd, pre, stopF]; (repeat' split) <;> first | (exfalso; omega) | assumption | rfl | omega | (simp_all; done)))
      rw [he, ← hu]
      exact rturn122_2_n w s L σ who g cap g2 len cp k b At H _ _ _ _ _ rfl rfl rfl rfl h4 rfl h6 hf i5.2 ho
  | 3, _ =>
    have hp : pre σ who (who * 7 + 3) = σ (who * 7 + 3) := by (simp only [upd, pre, stopF]; (repeat' split) <;> first | (exfalso; omega) | assumption | rfl | omega | (simp_all; done))
    by_cases ho : σ (who * 7 + 3) = 0
    · have he : eff s x (pre σ who) who = upd (pre σ who) (who * 7 + 4) (b : Int) := by
        simp only [eff, hc, eA, eB]
        simp [hp, ho]
      have hu : updT σ who (σ (who * 7)) (σ (who * 7 + 1)) (σ (who * 7 + 2)) (0) ((b : Int)) (σ (who * 7 + 5) - 1) 0 = upd (pre σ who) (who * 7 + 4) (b : Int) := by
        apply updT_is
        all_goals first | (simp only [upd, pre, stopF]; (repeat' split) <;> first | (exfalso; omega) | assumption | rfl | omega | (simp_all; done)) | (intro i e0 e1 e2 e3 e4 e5 e6; (simp only [upd, pre, stopF]; (repeat' split) <;> first | (exfalso; omega) | assumption | rfl | omega | (simp_all; done)))
      rw [he, ← hu]
      exact rturn122_3_z w s L σ who g cap g2 len cp k b At H _ _ _ _ _ rfl rfl rfl rfl h4 rfl h6 hf i5.2 ho
    · have he : eff s x (pre σ who) who = pre σ who := by
        simp only [eff, hc, eA, eB]
        simp [hp, ho]
      have hu : updT σ who (σ (who * 7)) (σ (who * 7 + 1)) (σ (who * 7 + 2)) (σ (who * 7 + 3)) ((k : Int) + 1) (σ (who * 7 + 5) - 1) 0 = pre σ who := by
        apply updT_is
        all_goals first | (simp only [upd, pre, stopF]; (repeat' split) <;> first | (exfalso; omega) | assumption | rfl | omega | (simp_all; done)) | (intro i e0 e1 e2 e3 e4 e5 e6; (simp only [upd, pre, stopF]; (repeat' split) <;> first | (exfalso; omega) | assumption | rfl | omega | (simp_all; done)))
      rw [he, ← hu]
      exact rturn122_3_n w s L σ who g cap g2 len cp k b At H _ _ _ _ _ rfl rfl rfl rfl h4 rfl h6 hf i5.2 ho

theorem rt106 {w : World} {s : ByteArray} {L : List (List Nat)} {σ : Nat → Int} {who g cap g2 len cp k x : Nat} {At : Int} {a : Nat} {b : Int} (H : RTurnAt w s L σ who g cap g2 len cp k 106 (a : Int) b At) (hc : pk s x = 106) (hA : stepA s x = (a : Int)) (hinv : Inv σ) (h4 : σ (who * 7 + 4) = (k : Int)) (h6 : σ (who * 7 + 6) = 0) (hf : 0 < σ (who * 7 + 5)) :
    Calls Try.prog 15 #[.slice (some ⟨g, 0, none⟩) L.length cap, .agg (rst σ), .int .i64 (who : Int)] w fun e w' => e = .returned (.agg (rst (eff s x (pre σ who) who))) ∧ w.grownBy w' none := by
  have hw3 := H.w3
  have i0 := hinv (who * 7) (by omega)
  have i1 := hinv (who * 7 + 1) (by omega)
  have i2 := hinv (who * 7 + 2) (by omega)
  have i3 := hinv (who * 7 + 3) (by omega)
  have i5 := hinv (who * 7 + 5) (by omega)
  have eA : (stepA s x).toNat = a := by omega
  have eB : True := trivial
  have he : eff s x (pre σ who) who = upd (pre σ who) (who * 7 + 4) (a : Int) := by
    simp only [eff, hc, eA, eB]
    simp []
  have hu : updT σ who (σ (who * 7)) (σ (who * 7 + 1)) (σ (who * 7 + 2)) (σ (who * 7 + 3)) ((a : Int)) (σ (who * 7 + 5) - 1) 0 = upd (pre σ who) (who * 7 + 4) (a : Int) := by
    apply updT_is
    all_goals first | (simp only [upd, pre, stopF]; (repeat' split) <;> first | (exfalso; omega) | assumption | rfl | omega | (simp_all; done)) | (intro i e0 e1 e2 e3 e4 e5 e6; (simp only [upd, pre, stopF]; (repeat' split) <;> first | (exfalso; omega) | assumption | rfl | omega | (simp_all; done)))
  rw [he, ← hu]
  exact rturn106 w s L σ who g cap g2 len cp k a b At H _ _ _ _ _ rfl rfl rfl rfl h4 rfl h6 hf i5.2

theorem rt33 {w : World} {s : ByteArray} {L : List (List Nat)} {σ : Nat → Int} {who g cap g2 len cp k x : Nat} {At : Int} {a : Nat} {b : Int} (H : RTurnAt w s L σ who g cap g2 len cp k 33 (a : Int) b At) (hc : pk s x = 33) (hA : stepA s x = (a : Int)) (ha : a < 4) (hinv : Inv σ) (h4 : σ (who * 7 + 4) = (k : Int)) (h6 : σ (who * 7 + 6) = 0) (hf : 0 < σ (who * 7 + 5)) :
    Calls Try.prog 15 #[.slice (some ⟨g, 0, none⟩) L.length cap, .agg (rst σ), .int .i64 (who : Int)] w fun e w' => e = .returned (.agg (rst (eff s x (pre σ who) who))) ∧ w.grownBy w' none := by
  have hw3 := H.w3
  have i0 := hinv (who * 7) (by omega)
  have i1 := hinv (who * 7 + 1) (by omega)
  have i2 := hinv (who * 7 + 2) (by omega)
  have i3 := hinv (who * 7 + 3) (by omega)
  have i5 := hinv (who * 7 + 5) (by omega)
  have eA : (stepA s x).toNat = a := by omega
  have eB : True := trivial
  match a, ha with
  | 0, _ =>
    have hp : pre σ who (who * 7 + 0) = σ (who * 7) := by (simp only [upd, pre, stopF]; (repeat' split) <;> first | (exfalso; omega) | assumption | rfl | omega | (simp_all; done))
    by_cases ho : σ (who * 7) = 0
    · have he : eff s x (pre σ who) who = stopF (pre σ who) who 2 := by
        simp only [eff, hc, eA, eB]
        simp [show pre σ who (who * 7) = _ from hp, ho]
      have hu : updT σ who (0) (σ (who * 7 + 1)) (σ (who * 7 + 2)) (σ (who * 7 + 3)) ((k : Int)) (σ (who * 7 + 5) - 1) 2 = stopF (pre σ who) who 2 := by
        apply updT_is
        all_goals first | (simp only [upd, pre, stopF]; (repeat' split) <;> first | (exfalso; omega) | assumption | rfl | omega | (simp_all; done)) | (intro i e0 e1 e2 e3 e4 e5 e6; (simp only [upd, pre, stopF]; (repeat' split) <;> first | (exfalso; omega) | assumption | rfl | omega | (simp_all; done)))
      rw [he, ← hu]
      exact rturn33_0_z w s L σ who g cap g2 len cp k b At H _ _ _ _ _ rfl rfl rfl rfl h4 rfl h6 hf i5.2 ho
    · have he : eff s x (pre σ who) who = pre σ who := by
        simp only [eff, hc, eA, eB]
        simp [show pre σ who (who * 7) = _ from hp, ho]
      have hu : updT σ who (σ (who * 7)) (σ (who * 7 + 1)) (σ (who * 7 + 2)) (σ (who * 7 + 3)) ((k : Int) + 1) (σ (who * 7 + 5) - 1) 0 = pre σ who := by
        apply updT_is
        all_goals first | (simp only [upd, pre, stopF]; (repeat' split) <;> first | (exfalso; omega) | assumption | rfl | omega | (simp_all; done)) | (intro i e0 e1 e2 e3 e4 e5 e6; (simp only [upd, pre, stopF]; (repeat' split) <;> first | (exfalso; omega) | assumption | rfl | omega | (simp_all; done)))
      rw [he, ← hu]
      exact rturn33_0_n w s L σ who g cap g2 len cp k b At H _ _ _ _ _ rfl rfl rfl rfl h4 rfl h6 hf i5.2 ho
  | 1, _ =>
    have hp : pre σ who (who * 7 + 1) = σ (who * 7 + 1) := by (simp only [upd, pre, stopF]; (repeat' split) <;> first | (exfalso; omega) | assumption | rfl | omega | (simp_all; done))
    by_cases ho : σ (who * 7 + 1) = 0
    · have he : eff s x (pre σ who) who = stopF (pre σ who) who 2 := by
        simp only [eff, hc, eA, eB]
        simp [hp, ho]
      have hu : updT σ who (σ (who * 7)) (0) (σ (who * 7 + 2)) (σ (who * 7 + 3)) ((k : Int)) (σ (who * 7 + 5) - 1) 2 = stopF (pre σ who) who 2 := by
        apply updT_is
        all_goals first | (simp only [upd, pre, stopF]; (repeat' split) <;> first | (exfalso; omega) | assumption | rfl | omega | (simp_all; done)) | (intro i e0 e1 e2 e3 e4 e5 e6; (simp only [upd, pre, stopF]; (repeat' split) <;> first | (exfalso; omega) | assumption | rfl | omega | (simp_all; done)))
      rw [he, ← hu]
      exact rturn33_1_z w s L σ who g cap g2 len cp k b At H _ _ _ _ _ rfl rfl rfl rfl h4 rfl h6 hf i5.2 ho
    · have he : eff s x (pre σ who) who = pre σ who := by
        simp only [eff, hc, eA, eB]
        simp [hp, ho]
      have hu : updT σ who (σ (who * 7)) (σ (who * 7 + 1)) (σ (who * 7 + 2)) (σ (who * 7 + 3)) ((k : Int) + 1) (σ (who * 7 + 5) - 1) 0 = pre σ who := by
        apply updT_is
        all_goals first | (simp only [upd, pre, stopF]; (repeat' split) <;> first | (exfalso; omega) | assumption | rfl | omega | (simp_all; done)) | (intro i e0 e1 e2 e3 e4 e5 e6; (simp only [upd, pre, stopF]; (repeat' split) <;> first | (exfalso; omega) | assumption | rfl | omega | (simp_all; done)))
      rw [he, ← hu]
      exact rturn33_1_n w s L σ who g cap g2 len cp k b At H _ _ _ _ _ rfl rfl rfl rfl h4 rfl h6 hf i5.2 ho
  | 2, _ =>
    have hp : pre σ who (who * 7 + 2) = σ (who * 7 + 2) := by (simp only [upd, pre, stopF]; (repeat' split) <;> first | (exfalso; omega) | assumption | rfl | omega | (simp_all; done))
    by_cases ho : σ (who * 7 + 2) = 0
    · have he : eff s x (pre σ who) who = stopF (pre σ who) who 2 := by
        simp only [eff, hc, eA, eB]
        simp [hp, ho]
      have hu : updT σ who (σ (who * 7)) (σ (who * 7 + 1)) (0) (σ (who * 7 + 3)) ((k : Int)) (σ (who * 7 + 5) - 1) 2 = stopF (pre σ who) who 2 := by
        apply updT_is
        all_goals first | (simp only [upd, pre, stopF]; (repeat' split) <;> first | (exfalso; omega) | assumption | rfl | omega | (simp_all; done)) | (intro i e0 e1 e2 e3 e4 e5 e6; (simp only [upd, pre, stopF]; (repeat' split) <;> first | (exfalso; omega) | assumption | rfl | omega | (simp_all; done)))
      rw [he, ← hu]
      exact rturn33_2_z w s L σ who g cap g2 len cp k b At H _ _ _ _ _ rfl rfl rfl rfl h4 rfl h6 hf i5.2 ho
    · have he : eff s x (pre σ who) who = pre σ who := by
        simp only [eff, hc, eA, eB]
        simp [hp, ho]
      have hu : updT σ who (σ (who * 7)) (σ (who * 7 + 1)) (σ (who * 7 + 2)) (σ (who * 7 + 3)) ((k : Int) + 1) (σ (who * 7 + 5) - 1) 0 = pre σ who := by
        apply updT_is
        all_goals first | (simp only [upd, pre, stopF]; (repeat' split) <;> first | (exfalso; omega) | assumption | rfl | omega | (simp_all; done)) | (intro i e0 e1 e2 e3 e4 e5 e6; (simp only [upd, pre, stopF]; (repeat' split) <;> first | (exfalso; omega) | assumption | rfl | omega | (simp_all; done)))
      rw [he, ← hu]
      exact rturn33_2_n w s L σ who g cap g2 len cp k b At H _ _ _ _ _ rfl rfl rfl rfl h4 rfl h6 hf i5.2 ho
  | 3, _ =>
    have hp : pre σ who (who * 7 + 3) = σ (who * 7 + 3) := by (simp only [upd, pre, stopF]; (repeat' split) <;> first | (exfalso; omega) | assumption | rfl | omega | (simp_all; done))
    by_cases ho : σ (who * 7 + 3) = 0
    · have he : eff s x (pre σ who) who = stopF (pre σ who) who 2 := by
        simp only [eff, hc, eA, eB]
        simp [hp, ho]
      have hu : updT σ who (σ (who * 7)) (σ (who * 7 + 1)) (σ (who * 7 + 2)) (0) ((k : Int)) (σ (who * 7 + 5) - 1) 2 = stopF (pre σ who) who 2 := by
        apply updT_is
        all_goals first | (simp only [upd, pre, stopF]; (repeat' split) <;> first | (exfalso; omega) | assumption | rfl | omega | (simp_all; done)) | (intro i e0 e1 e2 e3 e4 e5 e6; (simp only [upd, pre, stopF]; (repeat' split) <;> first | (exfalso; omega) | assumption | rfl | omega | (simp_all; done)))
      rw [he, ← hu]
      exact rturn33_3_z w s L σ who g cap g2 len cp k b At H _ _ _ _ _ rfl rfl rfl rfl h4 rfl h6 hf i5.2 ho
    · have he : eff s x (pre σ who) who = pre σ who := by
        simp only [eff, hc, eA, eB]
        simp [hp, ho]
      have hu : updT σ who (σ (who * 7)) (σ (who * 7 + 1)) (σ (who * 7 + 2)) (σ (who * 7 + 3)) ((k : Int) + 1) (σ (who * 7 + 5) - 1) 0 = pre σ who := by
        apply updT_is
        all_goals first | (simp only [upd, pre, stopF]; (repeat' split) <;> first | (exfalso; omega) | assumption | rfl | omega | (simp_all; done)) | (intro i e0 e1 e2 e3 e4 e5 e6; (simp only [upd, pre, stopF]; (repeat' split) <;> first | (exfalso; omega) | assumption | rfl | omega | (simp_all; done)))
      rw [he, ← hu]
      exact rturn33_3_n w s L σ who g cap g2 len cp k b At H _ _ _ _ _ rfl rfl rfl rfl h4 rfl h6 hf i5.2 ho
end Go.Proofs.Ytifidfgihpkgcaa

set_option linter.unusedSimpArgs false
set_option linter.unusedVariables false
namespace Go.Proofs.Ytifidfgihpkgcaa
open Go.RowKit Wv

/-- The document's turn. -/
theorem rTurn_any (s : ByteArray) (L : List (List Nat)) (σ : Nat → Int) (who base B : Nat) (tv : Value) (vs : List Value) (w : World) (hP : RProg w base B s L tv vs) (hw : who < L.length) (hG : StOk L σ) (hmay : mayB s L σ who = true) :
    Calls Try.prog 15 #[tv, .agg (rst σ), .int .i64 (who : Int)] w fun e w' => e = .returned (.agg (rst (turnF s L σ who))) ∧ w.grownBy w' none := by
  have h3 := hP.three
  have hw3 : who < 3 := by omega
  obtain ⟨hk, hf, h6⟩ := rmay_out hG hw3 hw hmay
  have h8 := hP.eight _ (List.getElem_mem hw)
  have h4 := hG.nx hw3
  have hsb : stepBad s (stp L σ who) = none := by rw [stp_in hw hk]; exact hP.good _ (List.getElem_mem hw) _ (List.getElem_mem hk)
  obtain ⟨g, cap, bo, cp, rfl, hg, hc, hr⟩ := hP.row who hw
  obtain ⟨g2, rfl⟩ : ∃ g2, bo = some ⟨g2, 0, none⟩ := by
    rcases hr.2 with ⟨_, h0⟩ | ⟨g2, c2, cur, hvv, _⟩
    · omega
    · simp at hvv; exact ⟨g2, hvv.1⟩
  obtain ⟨d0, d1, d2, d3⟩ := rstep_cells hr (nx σ who) hk
  rw [← stp_in hw hk] at d0 d1 d2 d3
  have H : RTurnAt w s L σ who g cap g2 L[who].length cp (nx σ who) (pk s (stp L σ who)) (stepA s (stp L σ who)) (stepB s (stp L σ who)) (stepAt s (stp L σ who)) :=
    ⟨hw3, hw, h3, hk, h8, hg, World.block_lt_of_cell? w _ d0, hc, d0, d1, d2, d3⟩
  unfold turnF
  generalize stp L σ who = x at *
  have hinv := hG.inv
  rcases sign_of hsb with hs | hs | hs | hs | hs | hs | hs | hs | hs | hs
  · obtain ⟨a, b, ha, hb, hA, hB, _⟩ := fields_61 hsb hs
    rw [hs, hA, hB] at H
    exact rt61 H hs hA hB ha hinv h4 h6 hf
  · obtain ⟨a, b, ha, hb, hA, hB, _⟩ := fields_122 hsb hs
    rw [hs, hA, hB] at H
    exact rt122 H hs hA hB ha hinv h4 h6 hf
  · obtain ⟨a, b, ha, hb, hA, hB, _⟩ := fields_43 hsb hs
    rw [hs, hA, hB] at H
    match a, ha with
    | 0, _ => exact rt43_0 H hs hA hB hb hinv h4 h6 hf
    | 1, _ => exact rt43_1 H hs hA hB hb hinv h4 h6 hf
    | 2, _ => exact rt43_2 H hs hA hB hb hinv h4 h6 hf
    | 3, _ => exact rt43_3 H hs hA hB hb hinv h4 h6 hf
  · obtain ⟨a, b, ha, hb, hA, hB, _⟩ := fields_45 hsb hs
    rw [hs, hA, hB] at H
    match a, ha with
    | 0, _ => exact rt45_0 H hs hA hB hb hinv h4 h6 hf
    | 1, _ => exact rt45_1 H hs hA hB hb hinv h4 h6 hf
    | 2, _ => exact rt45_2 H hs hA hB hb hinv h4 h6 hf
    | 3, _ => exact rt45_3 H hs hA hB hb hinv h4 h6 hf
  · obtain ⟨a, b, ha, hb, hA, hB, _⟩ := fields_114 hsb hs
    rw [hs, hA, hB] at H
    exact rt114 H hs hA hB ha hb hinv h4 h6 hf
  · obtain ⟨a, b, ha, hb, hA, hB, _⟩ := fields_119 hsb hs
    rw [hs, hA, hB] at H
    exact rt119 H hs hA hB ha hb hinv h4 h6 hf
  · obtain ⟨a, ha, hA, _⟩ := fields_108 hsb hs
    rw [hs, hA] at H
    exact rt108 H hs hA ha hinv h4 h6 hf
  · obtain ⟨a, ha, hA, _⟩ := fields_117 hsb hs
    rw [hs, hA] at H
    exact rt117 H hs hA ha hinv h4 h6 hf
  · obtain ⟨a, ha, hA, _⟩ := fields_106 hsb hs
    rw [hs, hA] at H
    exact rt106 H hs hA hinv h4 h6 hf
  · obtain ⟨a, ha, hA, _⟩ := fields_33 hsb hs
    rw [hs, hA] at H
    exact rt33 H hs hA ha hinv h4 h6 hf

end Go.Proofs.Ytifidfgihpkgcaa

set_option linter.unusedSimpArgs false
set_option linter.unusedVariables false
namespace Go.Proofs.Ytifidfgihpkgcaa
open Go.RowKit Wv

theorem cst_oneCell (σ : Nat → Int) : (cst σ).all (·.oneCell') = true := by
  exact rowOf_all _ _ _ (fun i => rfl)
theorem info_state (σ : Nat → Int) : (Try.prog.info? 72).map (·.size) = some (cst σ).size := by
  rw [cst_size]; kernel_rfl

/-- The blocks of a world that was just laid. -/
theorem heap3 (w : World) (A B C : Obj) : (((w.alloc A).alloc B).alloc C).heap[w.heap.size]? = some A ∧ (((w.alloc A).alloc B).alloc C).heap[w.heap.size + 1]? = some B ∧ (((w.alloc A).alloc B).alloc C).heap[w.heap.size + 2]? = some C := by
  have h1 : (w.alloc A).heap.size = w.heap.size + 1 := by simp
  have h2 : ((w.alloc A).alloc B).heap.size = w.heap.size + 2 := by simp
  refine ⟨?_, ?_, ?_⟩
  · rw [heap_alloc_old _ _ (by omega), heap_alloc_old _ _ (by omega)]; exact heap_alloc_new _ _
  · rw [heap_alloc_old _ _ (by omega), ← h1]; exact heap_alloc_new _ _
  · rw [← h2]; exact heap_alloc_new _ _

theorem grownBy_setRow {w w1 : World} {r : Option Nat} (h : w.grownBy w1 r) {g : Nat} (hg : w.heap.size ≤ g) (cs : Array Value) : w.grownBy (w1.setRow g cs) r := by
  refine ⟨h.os, h.tape, h.output, by rw [size_setRow]; exact h.size, fun k hk hr => ?_⟩
  rw [setRow_other _ _ _ _ (by omega)]
  exact h.block k hk hr
theorem grown3 (w : World) (A B C : Obj) : w.grownBy (((w.alloc A).alloc B).alloc C) none :=
  grownBy_trans (grownBy_trans (World.grownBy_alloc w A none) (World.grownBy_alloc _ B none)) (World.grownBy_alloc _ C none)
theorem grown_drew {w w1 : World} {r : Option Nat} (h : w.grownBy w1 r) : w.grownBy w1.drew r := ⟨h.os, h.tape, h.output, h.size, h.block⟩

set_option maxHeartbeats 1000000 in
set_option maxRecDepth 100000 in
theorem set_any (σ : Nat → Int) (who a d : Nat) (x0 x2 x3 x4 x6 : Int) (w : World) (hw : who < 3) (ha : a < 4) (hd : d ≤ 9) :
    Calls Try.prog 41 #[.agg (cst σ), .int .i64 (who : Int), .agg #[.int .u8 x0, .int .u8 (a : Int), .int .u8 x2, .int .u8 x3, .int .u8 x4, .int .u8 (d : Int), .int .i64 x6]] w fun e w' =>
      e = .returned (.agg (cst (upd σ (who * 7 + a) d))) ∧ w.grownBy w' none := by
  have hget := cst_get σ (who * 7 + a) (by omega)
  have hsz := cst_size σ
  go_enter Try.func41, Try.ntmps41
  go_wp2_with fail
  go_region
  all_goals
    go_wp2_with (first | (refine wpList_load_row rfl 72 (.tmp 3) rfl w.heap.size rfl 72 (cst (upd σ (who * 7 + a) d)) (0, 0) _ (by rw [← cst_set]; exact (heap3 _ _ _ _).1) Try.underlying72 rfl (info_state _) ?_) | (refine wpList_store_row rfl 72 (.tmp 6) (.tmp 16) rfl (w.heap.size + 1 + 1) (cst (upd σ (who * 7 + a) d)) rfl rfl 72 _ (heap3 _ _ _ _).2.2 (info_state _) (by rw [cst_size]; rfl) (cst_oneCell _) ?_))
    refine bodyPost_ret (v := .agg (cst (upd σ (who * 7 + a) d))) (results_cell_row Try.results41 _ _ (w.heap.size + 1 + 1) 72 _ (0, 0) _ rfl (setRow_heap _ _ _ _ 72 (0, 0) (heap3 _ _ _ _).2.2) Try.underlying72 rfl (info_state _)) rfl ⟨rfl, ?_⟩
    exact grownBy_setRow (grown_drew (grown3 _ _ _ _)) (by omega) _

end Go.Proofs.Ytifidfgihpkgcaa

