import Derived.Test.YtifidfgihpkgcaaPa18
import Derived.Test.YtifidfgihpkgcaaPa02
import Derived.Test.YtifidfgihpkgcaaPa19
import Derived.Lib.OthersKept
import Derived.Deep.DeepFit
import Derived.Test.YtifidfgihpkgcaaPa17
import Derived.Recover
import Derived.Defers
import Derived.Deep.RegionWith
set_option linter.unusedSimpArgs false
set_option linter.unusedVariables false
namespace Go.Proofs.Ytifidfgihpkgcaa.Wv

/-- A program that was read and whose steps go where they may. -/
structure PL (s : ByteArray) (L : List (List Nat)) : Prop where
  three : L.length ≤ 3
  eight : ∀ l ∈ L, l.length ≤ 8
  good : ∀ l ∈ L, ∀ x ∈ l, stepBad s x = none
  jump : ∀ l ∈ L, ∀ x ∈ l, jumpBad s l.length x = false

/-- A good state. -/
structure Ok (L : List (List Nat)) (σ : Nat → Int) : Prop where
  st : StOk L σ
  fate : ∀ who, who < 3 → σ (who * 7 + 6) ≤ 2

structure OkAt (L : List (List Nat)) (i : Nat) (v : Int) : Prop where
  lo : 0 ≤ v
  hi : v ≤ 9
  nx : ∀ w, w < L.length → i = w * 7 + 4 → v ≤ ((thOf L w).length : Int)
  fa : ∀ w, w < 3 → i = w * 7 + 6 → v ≤ 2

theorem ok_upd {L : List (List Nat)} {σ : Nat → Int} (h : Ok L σ) {i : Nat} {v : Int} (hv : OkAt L i v) : Ok L (upd σ i v) := by
  refine ⟨⟨fun j hj => ?_, fun w hw => ?_⟩, fun w hw => ?_⟩
  · unfold upd; split
    · exact ⟨hv.lo, hv.hi⟩
    · exact h.st.inv j hj
  · unfold upd; split
    · exact hv.nx w hw (by omega)
    · exact h.st.nxt w hw
  · unfold upd; split
    · exact hv.fa w hw (by omega)
    · exact h.fate w hw

theorem ok_num {L : List (List Nat)} {who a : Nat} {v : Int} (ha : a < 4) (h0 : 0 ≤ v) (h9 : v ≤ 9) : OkAt L (who * 7 + a) v := ⟨h0, h9, fun w _ e => by omega, fun w _ e => by omega⟩
theorem ok_cell {L : List (List Nat)} {a : Nat} {v : Int} (ha : a < 3) (h3 : L.length ≤ 3) (h0 : 0 ≤ v) (h9 : v ≤ 9) : OkAt L (21 + a) v := ⟨h0, h9, fun w _ e => by omega, fun w _ e => by omega⟩
theorem ok_lock {L : List (List Nat)} {a : Nat} {v : Int} (ha : a < 2) (h3 : L.length ≤ 3) (h0 : 0 ≤ v) (h9 : v ≤ 9) : OkAt L (24 + a) v := ⟨h0, h9, fun w _ e => by omega, fun w _ e => by omega⟩
theorem ok_next {L : List (List Nat)} {who : Nat} {v : Int} (h0 : 0 ≤ v) (h9 : v ≤ 9) (hl : v ≤ ((thOf L who).length : Int)) : OkAt L (who * 7 + 4) v := by
  refine ⟨h0, h9, fun w _ e => ?_, fun w _ e => by omega⟩
  have : w = who := by omega
  subst this
  exact hl

theorem ok_pre {s : ByteArray} {L : List (List Nat)} {σ : Nat → Int} {who : Nat} (hP : PL s L) (h : Ok L σ) (hw : who < L.length) (hm : mayB s L σ who = true) : Ok L (pre σ who) := by
  have h3 := hP.three
  obtain ⟨hk, hf, h6, _⟩ := may_out h.st (by omega) hw hm
  have hn := h.st.nx (show who < 3 by omega)
  have hfu := h.st.inv (who * 7 + 5) (by omega)
  have h8 := hP.eight _ (List.getElem_mem hw)
  unfold pre
  refine ok_upd (ok_upd h ⟨by omega, by omega, fun w _ e => by omega, fun w _ e => by omega⟩) (ok_next (by omega) (by omega) ?_)
  rw [thOf_in hw]; omega

theorem ok_stop {s : ByteArray} {L : List (List Nat)} {σ : Nat → Int} {who : Nat} (hP : PL s L) (h : Ok L σ) (hw : who < L.length) (h1 : 1 ≤ σ (who * 7 + 4)) (f : Int) (f1 : 0 ≤ f) (f2 : f ≤ 2) : Ok L (stopF σ who f) := by
  have h3 := hP.three
  have h4 := h.st.inv (who * 7 + 4) (by omega)
  have hn := h.st.nxt who hw
  unfold stopF
  exact ok_upd (ok_upd h ⟨by omega, by omega, fun w _ e => by omega, fun w _ e => by omega⟩) (ok_next (by omega) (by omega) (by omega))

/-- Two states that are the same but for the fuel of threads that are not there. -/
structure Agree (n : Nat) (σ τ : Nat → Int) : Prop where
  all : ∀ i, i % 7 ≠ 5 → σ i = τ i
  own : ∀ who, who < n → σ (who * 7 + 5) = τ (who * 7 + 5)
theorem Agree.upd {n : Nat} {σ τ : Nat → Int} (h : Agree n σ τ) (i : Nat) {v v' : Int} (hv : v = v') : Agree n (Wv.upd σ i v) (Wv.upd τ i v') := by
  subst hv
  refine ⟨fun j hj => ?_, fun w hw => ?_⟩
  · unfold Wv.upd; split
    · rfl
    · exact h.all j hj
  · unfold Wv.upd; split
    · rfl
    · exact h.own w hw
theorem Agree.pre {n : Nat} {σ τ : Nat → Int} (h : Agree n σ τ) {who : Nat} (hw : who < n) : Agree n (Wv.pre σ who) (Wv.pre τ who) := by
  unfold Wv.pre
  exact (h.upd _ (by rw [h.own who hw])).upd _ (by rw [h.all _ (by omega)])
theorem Agree.stop {n : Nat} {σ τ : Nat → Int} (h : Agree n σ τ) (who : Nat) (f : Int) : Agree n (stopF σ who f) (stopF τ who f) := by
  unfold stopF
  exact (h.upd _ rfl).upd _ (by rw [h.all _ (by omega)])
theorem Agree.stp {n : Nat} {σ τ : Nat → Int} (h : Agree n σ τ) (L : List (List Nat)) (who : Nat) : Wv.stp L σ who = Wv.stp L τ who := by
  unfold Wv.stp nx; rw [h.all _ (by omega)]

theorem ok_eff {s : ByteArray} {L : List (List Nat)} {σ : Nat → Int} {who x : Nat} (hP : PL s L) (h : Ok L σ) (hw : who < L.length) (h1 : 1 ≤ σ (who * 7 + 4)) (hsb : stepBad s x = none) (hj : jumpBad s (thOf L who).length x = false) : Ok L (eff s x σ who) := by
  have h3 := hP.three
  have hinv := h.st.inv
  rcases sign_of hsb with hc | hc | hc | hc | hc | hc | hc | hc | hc | hc
  · obtain ⟨a, b, ha, hb, hA, hB, _⟩ := fields_61 hsb hc
    have eA : (stepA s x).toNat = a := by omega
    have eB : (stepB s x).toNat = b := by omega
    have he : eff s x σ who = upd σ (who * 7 + a) (b : Int) := by
      simp only [eff, hc, eA, eB]
      simp
    rw [he]
    exact ok_upd h (ok_num ha (by omega) (by omega))
  · obtain ⟨a, b, ha, hb, hA, hB, _⟩ := fields_122 hsb hc
    have eA : (stepA s x).toNat = a := by omega
    have eB : (stepB s x).toNat = b := by omega
    have hjb : (b : Int) ≤ ((thOf L who).length : Int) := by
      simp only [jumpBad, hc, hB] at hj
      simp at hj
      omega
    by_cases ho : σ (who * 7 + a) = 0
    · have he : eff s x σ who = upd σ (who * 7 + 4) (b : Int) := by
        simp only [eff, hc, eA, eB]
        simp [ho]
      rw [he]
      exact ok_upd h (ok_next (by omega) (by omega) hjb)
    · have he : eff s x σ who = σ := by
        simp only [eff, hc, eA, eB]
        simp [ho]
      rw [he]
      exact h
  · obtain ⟨a, b, ha, hb, hA, hB, _⟩ := fields_43 hsb hc
    have eA : (stepA s x).toNat = a := by omega
    have eB : (stepB s x).toNat = b := by omega
    have he : eff s x σ who = upd σ (who * 7 + a) ((σ (who * 7 + a) + σ (who * 7 + b)) % 10) := by
      simp only [eff, hc, eA, eB]
      simp
    rw [he]
    have i1 := hinv (who * 7 + a) (by omega)
    have i2 := hinv (who * 7 + b) (by omega)
    exact ok_upd h (ok_num ha (by omega) (by omega))
  · obtain ⟨a, b, ha, hb, hA, hB, _⟩ := fields_45 hsb hc
    have eA : (stepA s x).toNat = a := by omega
    have eB : (stepB s x).toNat = b := by omega
    have he : eff s x σ who = upd σ (who * 7 + a) ((σ (who * 7 + a) + 10 - σ (who * 7 + b)) % 10) := by
      simp only [eff, hc, eA, eB]
      simp
    rw [he]
    exact ok_upd h (ok_num ha (by omega) (by omega))
  · obtain ⟨a, b, ha, hb, hA, hB, _⟩ := fields_114 hsb hc
    have eA : (stepA s x).toNat = a := by omega
    have eB : (stepB s x).toNat = b := by omega
    have he : eff s x σ who = upd σ (who * 7 + a) (σ (21 + b)) := by
      simp only [eff, hc, eA, eB]
      simp
    rw [he]
    have i1 := hinv (21 + b) (by omega)
    exact ok_upd h (ok_num ha (by omega) (by omega))
  · obtain ⟨a, b, ha, hb, hA, hB, _⟩ := fields_119 hsb hc
    have eA : (stepA s x).toNat = a := by omega
    have eB : (stepB s x).toNat = b := by omega
    have he : eff s x σ who = upd σ (21 + a) (σ (who * 7 + b)) := by
      simp only [eff, hc, eA, eB]
      simp
    rw [he]
    have i1 := hinv (who * 7 + b) (by omega)
    exact ok_upd h (ok_cell ha h3 (by omega) (by omega))
  · obtain ⟨a, ha, hA, _⟩ := fields_108 hsb hc
    have eA : (stepA s x).toNat = a := by omega
    have he : eff s x σ who = upd σ (24 + a) ((who : Int) + 1) := by
      simp only [eff, hc, eA]
      simp
    rw [he]
    exact ok_upd h (ok_lock ha h3 (by omega) (by omega))
  · obtain ⟨a, ha, hA, _⟩ := fields_117 hsb hc
    have eA : (stepA s x).toNat = a := by omega
    by_cases ho : σ (24 + a) = (who : Int) + 1
    · have he : eff s x σ who = upd σ (24 + a) 0 := by
        simp only [eff, hc, eA]
        simp [ho]
      rw [he]
      exact ok_upd h (ok_lock ha h3 (by omega) (by omega))
    · have he : eff s x σ who = stopF σ who 1 := by
        simp only [eff, hc, eA]
        simp [ho]
      rw [he]
      exact ok_stop hP h hw h1 1 (by omega) (by omega)
  · obtain ⟨a, ha, hA, _⟩ := fields_106 hsb hc
    have eA : (stepA s x).toNat = a := by omega
    have hjb : (a : Int) ≤ ((thOf L who).length : Int) := by
      simp only [jumpBad, hc, hA] at hj
      simp at hj
      omega
    have he : eff s x σ who = upd σ (who * 7 + 4) (a : Int) := by
      simp only [eff, hc, eA]
      simp
    rw [he]
    exact ok_upd h (ok_next (by omega) (by omega) hjb)
  · obtain ⟨a, ha, hA, _⟩ := fields_33 hsb hc
    have eA : (stepA s x).toNat = a := by omega
    by_cases ho : σ (who * 7 + a) = 0
    · have he : eff s x σ who = stopF σ who 2 := by
        simp only [eff, hc, eA]
        simp [ho]
      rw [he]
      exact ok_stop hP h hw h1 2 (by omega) (by omega)
    · have he : eff s x σ who = σ := by
        simp only [eff, hc, eA]
        simp [ho]
      rw [he]
      exact h

theorem Agree.eff {s : ByteArray} {n : Nat} {σ τ : Nat → Int} {who x : Nat} (h : Agree n σ τ) (hsb : stepBad s x = none) : Agree n (Wv.eff s x σ who) (Wv.eff s x τ who) := by
  rcases sign_of hsb with hc | hc | hc | hc | hc | hc | hc | hc | hc | hc
  · obtain ⟨a, b, ha, hb, hA, hB, _⟩ := fields_61 hsb hc
    have eA : (stepA s x).toNat = a := by omega
    have eB : (stepB s x).toNat = b := by omega
    have he : ∀ σ, Wv.eff s x σ who = Wv.upd σ (who * 7 + a) (b : Int) := fun σ => by
      simp only [Wv.eff, hc, eA, eB]
      simp
    rw [he, he]
    exact h.upd _ rfl
  · obtain ⟨a, b, ha, hb, hA, hB, _⟩ := fields_122 hsb hc
    have eA : (stepA s x).toNat = a := by omega
    have eB : (stepB s x).toNat = b := by omega
    have hr := h.all (who * 7 + a) (by omega)
    by_cases ho : σ (who * 7 + a) = 0
    · have he : ∀ σ, σ (who * 7 + a) = 0 → Wv.eff s x σ who = Wv.upd σ (who * 7 + 4) (b : Int) := fun σ ho => by
        simp only [Wv.eff, hc, eA, eB]
        simp [ho]
      rw [he _ ho, he _ (hr ▸ ho)]
      exact h.upd _ rfl
    · have he : ∀ σ, ¬ σ (who * 7 + a) = 0 → Wv.eff s x σ who = σ := fun σ ho => by
        simp only [Wv.eff, hc, eA, eB]
        simp [ho]
      rw [he _ ho, he _ (hr ▸ ho)]
      exact h
  · obtain ⟨a, b, ha, hb, hA, hB, _⟩ := fields_43 hsb hc
    have eA : (stepA s x).toNat = a := by omega
    have eB : (stepB s x).toNat = b := by omega
    have he : ∀ σ, Wv.eff s x σ who = Wv.upd σ (who * 7 + a) ((σ (who * 7 + a) + σ (who * 7 + b)) % 10) := fun σ => by
      simp only [Wv.eff, hc, eA, eB]
      simp
    rw [he, he]
    exact h.upd _ (by rw [h.all _ (by omega), h.all (who * 7 + b) (by omega)])
  · obtain ⟨a, b, ha, hb, hA, hB, _⟩ := fields_45 hsb hc
    have eA : (stepA s x).toNat = a := by omega
    have eB : (stepB s x).toNat = b := by omega
    have he : ∀ σ, Wv.eff s x σ who = Wv.upd σ (who * 7 + a) ((σ (who * 7 + a) + 10 - σ (who * 7 + b)) % 10) := fun σ => by
      simp only [Wv.eff, hc, eA, eB]
      simp
    rw [he, he]
    exact h.upd _ (by rw [h.all _ (by omega), h.all (who * 7 + b) (by omega)])
  · obtain ⟨a, b, ha, hb, hA, hB, _⟩ := fields_114 hsb hc
    have eA : (stepA s x).toNat = a := by omega
    have eB : (stepB s x).toNat = b := by omega
    have he : ∀ σ, Wv.eff s x σ who = Wv.upd σ (who * 7 + a) (σ (21 + b)) := fun σ => by
      simp only [Wv.eff, hc, eA, eB]
      simp
    rw [he, he]
    exact h.upd _ (h.all _ (by omega))
  · obtain ⟨a, b, ha, hb, hA, hB, _⟩ := fields_119 hsb hc
    have eA : (stepA s x).toNat = a := by omega
    have eB : (stepB s x).toNat = b := by omega
    have he : ∀ σ, Wv.eff s x σ who = Wv.upd σ (21 + a) (σ (who * 7 + b)) := fun σ => by
      simp only [Wv.eff, hc, eA, eB]
      simp
    rw [he, he]
    exact h.upd _ (h.all _ (by omega))
  · obtain ⟨a, ha, hA, _⟩ := fields_108 hsb hc
    have eA : (stepA s x).toNat = a := by omega
    have he : ∀ σ, Wv.eff s x σ who = Wv.upd σ (24 + a) ((who : Int) + 1) := fun σ => by
      simp only [Wv.eff, hc, eA]
      simp
    rw [he, he]
    exact h.upd _ rfl
  · obtain ⟨a, ha, hA, _⟩ := fields_117 hsb hc
    have eA : (stepA s x).toNat = a := by omega
    have hr := h.all (24 + a) (by omega)
    by_cases ho : σ (24 + a) = (who : Int) + 1
    · have he : ∀ σ, σ (24 + a) = (who : Int) + 1 → Wv.eff s x σ who = Wv.upd σ (24 + a) 0 := fun σ ho => by
        simp only [Wv.eff, hc, eA]
        simp [ho]
      rw [he _ ho, he _ (hr ▸ ho)]
      exact h.upd _ rfl
    · have he : ∀ σ, ¬ σ (24 + a) = (who : Int) + 1 → Wv.eff s x σ who = stopF σ who 1 := fun σ ho => by
        simp only [Wv.eff, hc, eA]
        simp [ho]
      rw [he _ ho, he _ (hr ▸ ho)]
      exact h.stop who 1
  · obtain ⟨a, ha, hA, _⟩ := fields_106 hsb hc
    have eA : (stepA s x).toNat = a := by omega
    have he : ∀ σ, Wv.eff s x σ who = Wv.upd σ (who * 7 + 4) (a : Int) := fun σ => by
      simp only [Wv.eff, hc, eA]
      simp
    rw [he, he]
    exact h.upd _ rfl
  · obtain ⟨a, ha, hA, _⟩ := fields_33 hsb hc
    have eA : (stepA s x).toNat = a := by omega
    have hr := h.all (who * 7 + a) (by omega)
    by_cases ho : σ (who * 7 + a) = 0
    · have he : ∀ σ, σ (who * 7 + a) = 0 → Wv.eff s x σ who = stopF σ who 2 := fun σ ho => by
        simp only [Wv.eff, hc, eA]
        simp [ho]
      rw [he _ ho, he _ (hr ▸ ho)]
      exact h.stop who 2
    · have he : ∀ σ, ¬ σ (who * 7 + a) = 0 → Wv.eff s x σ who = σ := fun σ ho => by
        simp only [Wv.eff, hc, eA]
        simp [ho]
      rw [he _ ho, he _ (hr ▸ ho)]
      exact h

theorem stp_mem {s : ByteArray} {L : List (List Nat)} {σ : Nat → Int} {who : Nat} (h3 : L.length ≤ 3) (h : Ok L σ) (hw : who < L.length) (hm : mayB s L σ who = true) : stp L σ who ∈ L[who] := by
  obtain ⟨hk, _⟩ := may_out h.st (by omega) hw hm
  rw [stp_in hw hk]; exact List.getElem_mem _
theorem ok_turn {s : ByteArray} {L : List (List Nat)} {σ : Nat → Int} {who : Nat} (hP : PL s L) (h : Ok L σ) (hw : who < L.length) (hm : mayB s L σ who = true) : Ok L (turnF s L σ who) := by
  have hmem := stp_mem hP.three h hw hm
  have h4 := h.st.inv (who * 7 + 4) (by have := hP.three; omega)
  refine ok_eff hP (ok_pre hP h hw hm) hw ?_ (hP.good _ (List.getElem_mem hw) _ hmem) (by rw [thOf_in hw]; exact hP.jump _ (List.getElem_mem hw) _ hmem)
  unfold pre; rw [upd_same]; omega
theorem Agree.waits {s : ByteArray} {L : List (List Nat)} {n : Nat} {σ τ : Nat → Int} {who : Nat} (h : Agree n σ τ) (hsb : stepBad s (Wv.stp L σ who) = none) : waitsB s L σ who = waitsB s L τ who := by
  unfold waitsB
  rw [← h.stp L who]
  by_cases hc : pk s (Wv.stp L σ who) = 108
  · obtain ⟨a, ha, hA, _⟩ := fields_108 hsb hc
    rw [h.all _ (by omega)]
  · have hb : (pk s (Wv.stp L σ who) == 108) = false := by simpa using hc
    rw [hb]; rfl
theorem mayB_end {s : ByteArray} {L : List (List Nat)} {σ : Nat → Int} {who : Nat} (h : σ (who * 7 + 4) = ((thOf L who).length : Int)) : mayB s L σ who = false := by
  unfold mayB; rw [h]; simp
theorem Agree.may {s : ByteArray} {L : List (List Nat)} {σ τ : Nat → Int} {who : Nat} (h : Agree L.length σ τ) (hP : PL s L) (hO : Ok L σ) (hw : who < L.length) : mayB s L σ who = mayB s L τ who := by
  have h4 := h.all (who * 7 + 4) (by omega)
  by_cases he : σ (who * 7 + 4) = ((thOf L who).length : Int)
  · rw [mayB_end he, mayB_end (h4 ▸ he)]
  · have hn := hO.st.nx (show who < 3 by have := hP.three; omega)
    have hx := hO.st.nxt who hw
    rw [thOf_in hw] at he hx
    have hk : nx σ who < L[who].length := by omega
    have hmem : Wv.stp L σ who ∈ L[who] := by rw [stp_in hw hk]; exact List.getElem_mem _
    unfold mayB
    rw [h.all (who * 7 + 6) (by omega), h4, h.own who hw, h.waits (hP.good _ (List.getElem_mem hw) _ hmem)]
theorem Agree.turn {s : ByteArray} {L : List (List Nat)} {σ τ : Nat → Int} {who : Nat} (h : Agree L.length σ τ) (hP : PL s L) (hO : Ok L σ) (hw : who < L.length) (hm : mayB s L σ who = true) : Agree L.length (turnF s L σ who) (turnF s L τ who) := by
  unfold turnF
  rw [← h.stp L who]
  exact (h.pre hw).eff (hP.good _ (List.getElem_mem hw) _ (stp_mem hP.three hO hw hm))
theorem Agree.over {s : ByteArray} {L : List (List Nat)} {σ τ : Nat → Int} (h : Agree L.length σ τ) (hP : PL s L) (hO : Ok L σ) : overB s L σ = overB s L τ := by
  unfold overB
  rw [Bool.eq_iff_iff]
  simp only [List.all_eq_true, List.mem_range]
  constructor
  · intro H j hj; rw [← h.may hP hO hj]; exact H j hj
  · intro H j hj; rw [h.may hP hO hj]; exact H j hj
theorem Agree.letter {L : List (List Nat)} {σ τ : Nat → Int} {who : Nat} (h : Agree L.length σ τ) (hw : who < L.length) : letterB L σ who = letterB L τ who := by
  unfold letterB
  rw [h.all (who * 7 + 6) (by omega), h.all (who * 7 + 4) (by omega), h.own who hw]
theorem Agree.wayTo {L : List (List Nat)} {σ τ : Nat → Int} (h : Agree L.length σ τ) : ∀ k, k ≤ L.length → Wv.wayTo L σ k = Wv.wayTo L τ k
  | 0, _ => rfl
  | k + 1, hk => by
    rw [Wv.wayTo, Wv.wayTo, h.wayTo k (by omega), way1, way1, h.letter (by omega), h.all (k * 7 + 4) (by omega)]
theorem Agree.way {L : List (List Nat)} {σ τ : Nat → Int} (h : Agree L.length σ τ) : wayL L σ = wayL L τ := by
  unfold wayL
  rw [h.wayTo _ (Nat.le_refl _), h.all 21 (by omega), h.all 22 (by omega), h.all 23 (by omega)]

end Go.Proofs.Ytifidfgihpkgcaa.Wv

set_option linter.unusedSimpArgs false
set_option linter.unusedVariables false
namespace Go.Proofs.Ytifidfgihpkgcaa.Wv

/-- May the turn that the row's sign at i names be made? -/
def goes (s : ByteArray) (L : List (List Nat)) (row : ByteArray) (i : Nat) (σ : Nat → Int) : Bool :=
  decide (0 ≤ pk row i - 48) && decide (pk row i - 48 < (L.length : Int)) && mayB s L σ (pk row i - 48).toNat
/-- Where the row leads from place i on (n signs are left): the text, the error, the place. -/
def runRow (s : ByteArray) (L : List (List Nat)) (row : ByteArray) : Nat → Nat → (Nat → Int) → ByteArray × Int × Int
  | 0, _, σ => if overB s L σ then (txt (wayL L σ), 0, 0) else (⟨#[]⟩, 7, 0)
  | n + 1, i, σ => if goes s L row i σ then runRow s L row n (i + 1) (turnF s L σ (pk row i - 48).toNat) else (⟨#[]⟩, 6, (i : Int))

variable {s : ByteArray} {L : List (List Nat)} {row : ByteArray}
theorem run_bad {i : Nat} {σ : Nat → Int} (hi : i < row.size) (h : goes s L row i σ = false) : runRow s L row (row.size - i) i σ = (⟨#[]⟩, 6, (i : Int)) := by
  rw [show row.size - i = (row.size - i - 1) + 1 from by omega, runRow, h]; rfl
theorem run_go {i : Nat} {σ : Nat → Int} (hi : i < row.size) (h : goes s L row i σ = true) : runRow s L row (row.size - i) i σ = runRow s L row (row.size - (i + 1)) (i + 1) (turnF s L σ (pk row i - 48).toNat) := by
  rw [show row.size - i = (row.size - (i + 1)) + 1 from by omega, runRow, h, if_pos rfl]
theorem run_end {i : Nat} {σ : Nat → Int} (hi : ¬ i < row.size) : runRow s L row (row.size - i) i σ = if overB s L σ then (txt (wayL L σ), 0, 0) else (⟨#[]⟩, 7, 0) := by
  rw [show row.size - i = 0 from by omega, runRow]
theorem goes_out {i : Nat} {σ : Nat → Int} (h : goes s L row i σ = true) : ∃ who : Nat, pk row i = 48 + (who : Int) ∧ who < L.length ∧ mayB s L σ who = true := by
  unfold goes at h
  simp at h
  obtain ⟨⟨h0, h1⟩, h2⟩ := h
  exact ⟨(pk row i - 48).toNat, by omega, by omega, h2⟩
theorem goes_no {i : Nat} {σ : Nat → Int} (h : goes s L row i σ = false) : pk row i < 48 ∨ 48 + (L.length : Int) ≤ pk row i ∨ ∃ who : Nat, pk row i = 48 + (who : Int) ∧ who < L.length ∧ mayB s L σ who = false := by
  by_cases h0 : pk row i < 48
  · exact .inl h0
  by_cases h1 : 48 + (L.length : Int) ≤ pk row i
  · exact .inr (.inl h1)
  · refine .inr (.inr ⟨(pk row i - 48).toNat, by omega, by omega, ?_⟩)
    unfold goes at h
    have b0 : decide (0 ≤ pk row i - 48) = true := by simp; omega
    have b1 : decide (pk row i - 48 < (L.length : Int)) = true := by simp; omega
    rw [b0, b1] at h
    simpa using h
/-- States that agree are led to the same. -/
theorem run_agree (hP : PL s L) : ∀ (n i : Nat) {σ τ : Nat → Int}, Ok L σ → Agree L.length σ τ → runRow s L row n i σ = runRow s L row n i τ
  | 0, i, σ, τ, hO, h => by rw [runRow, runRow, h.over hP hO, h.way]
  | n + 1, i, σ, τ, hO, h => by
    have hg : goes s L row i σ = goes s L row i τ := by
      unfold goes
      by_cases h0 : 0 ≤ pk row i - 48
      · by_cases h1 : pk row i - 48 < (L.length : Int)
        · rw [h.may hP hO (by omega)]
        · simp [h1]
      · have b0 : decide (0 ≤ pk row i - 48) = false := by simp; omega
        rw [b0]; rfl
    rw [runRow, runRow, ← hg]
    cases hb : goes s L row i σ with
    | false => rfl
    | true =>
      obtain ⟨who, h1, h2, h3⟩ := goes_out hb
      have hw : (pk row i - 48).toNat = who := by omega
      simp only [if_true, hw]
      exact run_agree hP n (i + 1) (ok_turn hP hO h2 h3) (h.turn hP hO h2 h3)
end Go.Proofs.Ytifidfgihpkgcaa.Wv

set_option linter.unusedSimpArgs false
set_option linter.unusedVariables false
namespace Go.Proofs.Ytifidfgihpkgcaa
open Go.RowKit Wv

def cells8 (l : List Int) : List Value := l.map (.int .u8 ·)
theorem cells8_len (l : List Int) : (cells8 l).length = l.length := by simp [cells8]
theorem cells8_snoc (l : List Int) (c : Int) : cells8 l ++ [.int .u8 c] = cells8 (l ++ [c]) := by simp [cells8]

/-- Where the walk of 'end' stands: the machine's box, the state's box, the builder. -/
structure EndAt (w : World) (R S : Array Value) (l : List Int) (wr : World) : Prop where
  mach : wr.heap[w.heap.size]? = some (.cells R 61 (0, 0))
  st : wr.heap[w.heap.size + 1]? = some (.cells S 72 (0, 0))
  sb : Lib.IsBuilderF 110 5 (w.heap.size + 2) (w.heap.size + 2) (cells8 l) wr
  grown : w.grownBy wr none

theorem sb_kept {T e : TypeId} {B b : Nat} {bs : List Value} {w w' : World} (h : Lib.IsBuilderF T e B b bs w) (hg : w.grownBy w' none) : Lib.IsBuilderF T e B b bs w' := by
  have key : ∀ p, Lib.BuilderAtF T e B b p bs w → Lib.BuilderAtF T e B b p bs w' := by
    rintro p ⟨hB, v, hb, ho, hne⟩
    exact ⟨hB, v, (hg.block b (Array.getElem?_eq_some_iff.1 hb).1 (by simp)).trans hb, ho.kept hg (Classical.em _), hne⟩
  exact h.elim (fun x => .inl (key _ x)) (fun x => .inr (key _ x))
theorem EndAt.later {w wr wr' : World} {R S : Array Value} {l : List Int} (h : EndAt w R S l wr) (hg : wr.grownBy wr' none) : EndAt w R S l wr' :=
  ⟨(hg.block _ (lt_of_block h.mach) (by simp)).trans h.mach, (hg.block _ (lt_of_block h.st) (by simp)).trans h.st, sb_kept h.sb hg, grownBy_trans h.grown hg⟩
theorem EndAt.wrote {w wr wr' : World} {R S : Array Value} {l l' : List Int} (h : EndAt w R S l wr) (hb : Below (w.heap.size + 2) wr wr') (hs : Lib.IsBuilderF 110 5 (w.heap.size + 2) (w.heap.size + 2) (cells8 l') wr') : EndAt w R S l' wr' :=
  ⟨(hb.block _ (by omega)).trans h.mach, (hb.block _ (by omega)).trans h.st, hs, ⟨hb.os.trans h.grown.os, hb.tape.trans h.grown.tape, hb.output.trans h.grown.output, Nat.le_trans h.grown.size hb.size, fun k hk hr => (hb.block k (by omega)).trans (h.grown.block k hk hr)⟩⟩
theorem EndAt.grownOf {w wr wr' : World} {R S : Array Value} {l : List Int} (h : EndAt w R S l wr) (hb : Below (w.heap.size + 2) wr wr') : w.grownBy wr' none :=
  ⟨hb.os.trans h.grown.os, hb.tape.trans h.grown.tape, hb.output.trans h.grown.output, Nat.le_trans h.grown.size hb.size, fun k hk hr => (hb.block k (by omega)).trans (h.grown.block k hk hr)⟩
theorem EndAt.size {w wr : World} {R S : Array Value} {l : List Int} (h : EndAt w R S l wr) : w.heap.size + 2 ≤ wr.heap.size := by
  have := lt_of_block h.st; omega
theorem EndAt.start (w : World) (R S : Array Value) : EndAt w R S [] (((w.alloc (.cells R 61)).alloc (.cells S 72)).alloc (.cells #[.pointer none, .slice none 0 0] 110)) := by
  have hs : ((w.alloc (.cells R 61)).alloc (.cells S 72)).heap.size = w.heap.size + 2 := by simp
  refine ⟨(heap3 _ _ _ _).1, (heap3 _ _ _ _).2.1, ?_, grown3 _ _ _ _⟩
  have := Lib.IsBuilderF.of (Lib.fresh_isBuilder 110 5 ((w.alloc (.cells R 61)).alloc (.cells S 72)))
  rw [hs] at this
  exact this
/-- A byte is written. -/
theorem EndAt.put {w wr : World} {R S : Array Value} {l : List Int} (h : EndAt w R S l wr) (c : Int) (hl : l.length ≤ 100) :
    Calls Try.prog 55 #[.pointer (some ⟨w.heap.size + 2, 0, none⟩), .int .u8 c] wr fun e w' => e = .returned .nilIface ∧ EndAt w R S (l ++ [c]) w' :=
  (writeByte_any _ _ _ c wr h.sb (by rw [cells8_len]; omega) h.size).mono fun e w' hh => ⟨hh.1, h.wrote hh.2.2 (by rw [← cells8_snoc]; exact hh.2.1)⟩

theorem ix0 (a b c : Int) (W : World) : (Instr.index 69 (.agg #[.int .u8 a, .int .u8 b, .int .u8 c]) (.int .i64 0)).run Try.prog W = .ok (.int .u8 a) W := by
  simp [Instr.index, run_underlying Try.underlying69, asIntOf, go_sem, part, Try.sizeOf5, Try.isAgg5]
theorem ix1 (a b c : Int) (W : World) : (Instr.index 69 (.agg #[.int .u8 a, .int .u8 b, .int .u8 c]) (.int .i64 1)).run Try.prog W = .ok (.int .u8 b) W := by
  simp [Instr.index, run_underlying Try.underlying69, asIntOf, go_sem, part, Try.sizeOf5, Try.isAgg5]
theorem ix2 (a b c : Int) (W : World) : (Instr.index 69 (.agg #[.int .u8 a, .int .u8 b, .int .u8 c]) (.int .i64 2)).run Try.prog W = .ok (.int .u8 c) W := by
  simp [Instr.index, run_underlying Try.underlying69, asIntOf, go_sem, part, Try.sizeOf5, Try.isAgg5]

set_option maxHeartbeats 1000000 in
set_option maxRecDepth 100000 in
theorem end_any (s : ByteArray) (L : List (List Nat)) (σ : Nat → Int) (base B : Nat) (tv mv : Value) (vs : List Value) (w : World) (hP : Prog w base B s L tv vs) (hmv : mv.oneCell' = true) (hG : StOk L σ) :
    Calls Try.prog 36 #[.agg #[tv, mv], .agg (cst σ)] w fun e w' => e = .returned (.string (txt (wayL L σ))) ∧ w.grownBy w' none := by
  have h3 := hP.three
  have HM : Hid (∀ W, w.grownBy W none → ∀ who, who < L.length → Calls Try.prog 54 #[.agg #[tv, mv], .agg (cst σ), .int .i64 (who : Int)] W fun e w' => e = .returned (.int .u8 (letterB L σ who)) ∧ W.grownBy w' none) :=
    fun W hW who hw => endLetter_any s L σ who base B tv mv vs W (hP.kept hW) hmv hG hw
  obtain ⟨ao, cap, rfl⟩ := ownsRow_slice hP.own.out
  clear hP
  go_enter Try.func36, Try.ntmps36
  go_wp2_with fail
  go_loopw [13] (fun iv wr => ∃ k : Nat, k ≤ L.length ∧ iv = .int .i64 (k : Int) ∧ Hid (EndAt w #[.slice ao L.length cap, mv] (cst σ) (wayTo L σ k) wr)) (fun iv _ => L.length - (intOf iv).toNat)
  case atStart => exact ⟨0, Nat.zero_le _, rfl, EndAt.start w _ _⟩
  case round =>
    obtain ⟨k, hk, rfl, hat⟩ := hrel
    obtain ⟨m0, m1, mf⟩ := blk2 hat.out.mach
    have hlen := wayTo_len L σ k
    by_cases hlt : k < L.length
    · have HC : Hid _ := HM.out wr hat.out.grown k hlt
      have h4 := hG.inv (k * 7 + 4) (by omega)
      by_cases hE : letterB L σ k = 69
      · have he : wayTo L σ (k + 1) = wayTo L σ k ++ [69] := by simp [wayTo, way1, hE]
        have HE : Hid _ := he
        clear he
        have HC2 : Hid _ := HC.out
        rw [hE] at HC2
        clear HC hE
        go_wp2_with (first | (refine wpList_load_row rfl 72 (.tmp 3) rfl (w.heap.size + 1) ?_ 72 (cst σ) (0, 0) _ ?_ Try.underlying72 rfl (info_state _) ?_; rfl; exact hat.out.st) | (go_at_call 54; go_must (refine Calls.mono HC2.out ?_; rintro e w2 ⟨rfl, hg⟩; have H2 : Hid _ := hat.out.later hg; clear hg)) | (go_at_call 55; go_must (refine Calls.mono (H2.out.put _ (by omega)) ?_; rintro e w3 ⟨rfl, h5⟩; have H3 : Hid _ := h5; clear h5)))
        go_roundw
        case rel => exact ⟨k + 1, by omega, by go_num, by rw [HE.out]; exact H3.out⟩
        case measure => simp [intOf]; omega
      · have he : wayTo L σ (k + 1) = (wayTo L σ k ++ [letterB L σ k]) ++ [48 + σ (k * 7 + 4)] := by simp [wayTo, way1, hE]
        have HE : Hid _ := he
        clear he
        have bE : (letterB L σ k == 69) = false := by simpa using hE
        clear hE
        generalize letterB L σ k = c at *
        have n1 := fun (W : World) (h : W.heap[w.heap.size + 1]? = some (.cells (cst σ) 72 (0, 0))) => (cell_of_row W (w.heap.size + 1) (k * 7 + 4) _ _ _ h).trans (cst_get σ (k * 7 + 4) (by omega))
        generalize σ (k * 7 + 4) = v at *
        go_wp2_with (first | (refine wpList_load_row rfl 72 (.tmp 3) rfl (w.heap.size + 1) ?_ 72 (cst σ) (0, 0) _ ?_ Try.underlying72 rfl (info_state _) ?_; rfl; exact hat.out.st) | (go_at_call 54; go_must (refine Calls.mono HC.out ?_; rintro e w2 ⟨rfl, hg⟩; have H2 : Hid _ := hat.out.later hg; clear hg)) | (go_at_call 55; go_must (first | (refine Calls.mono (H2.out.put c (by omega)) ?_; rintro e w3 ⟨rfl, h5⟩; have n2 := n1 w3 h5.st; have H3 : Hid _ := h5; clear h5 H2) | (refine Calls.mono (H3.out.put (48 + v) (by simp; omega)) ?_; rintro e w4 ⟨rfl, h6⟩; have H4 : Hid _ := h6; clear h6))))
        go_roundw
        case rel => exact ⟨k + 1, by omega, by go_num, by rw [HE.out]; exact H4.out⟩
        case measure => simp [intOf]; omega
    · have hkL : k = L.length := by omega
      have hat2 := hat.out
      rw [hkL] at hat2
      have hlen2 := wayTo_len L σ L.length
      have i1 := hG.inv 21 (by omega)
      have i2 := hG.inv 22 (by omega)
      have i3 := hG.inv 23 (by omega)
      have HB : Hid _ := wayL_byte hG.inv h3
      have n1 := fun (W : World) (h : W.heap[w.heap.size + 1]? = some (.cells (cst σ) 72 (0, 0))) => (cell_of_row W (w.heap.size + 1) 21 _ _ _ h).trans (cst_get σ 21 (by omega))
      have n2 := fun (W : World) (h : W.heap[w.heap.size + 1]? = some (.cells (cst σ) 72 (0, 0))) => (cell_of_row W (w.heap.size + 1) 22 _ _ _ h).trans (cst_get σ 22 (by omega))
      have n3 := fun (W : World) (h : W.heap[w.heap.size + 1]? = some (.cells (cst σ) 72 (0, 0))) => (cell_of_row W (w.heap.size + 1) 23 _ _ _ h).trans (cst_get σ 23 (by omega))
      have HW : Hid (wayL L σ = wayTo L σ L.length ++ [58, 48 + σ 21, 48 + σ 22, 48 + σ 23]) := rfl
      obtain ⟨P, hP⟩ : ∃ P, wayTo L σ L.length = P := ⟨_, rfl⟩
      obtain ⟨v1, hv1⟩ : ∃ v, σ 21 = v := ⟨_, rfl⟩
      obtain ⟨v2, hv2⟩ : ∃ v, σ 22 = v := ⟨_, rfl⟩
      obtain ⟨v3, hv3⟩ : ∃ v, σ 23 = v := ⟨_, rfl⟩
      rw [hv1] at i1 n1
      rw [hv2] at i2 n2
      rw [hv3] at i3 n3
      rw [hP] at hat2 hlen2
      rw [hP, hv1, hv2, hv3] at HW
      clear hP hv1 hv2 hv3
      have H2 : Hid _ := hat2
      clear hat hat2 hkL hG
      have x0 := ix0 v1 v2 v3
      have x1 := ix1 v1 v2 v3
      have x2 := ix2 v1 v2 v3
      go_wp2_with (go_at_call 55; go_must (refine Calls.mono (H2.out.put 58 (by omega)) ?_; rintro e w3 ⟨rfl, h5⟩; have q1 := n1 w3 h5.st; have q2 := n2 w3 h5.st; have q3 := n3 w3 h5.st; have H3 : Hid _ := h5; clear h5 H2))
      go_loopw [35] (fun iv wr => ∃ j : Nat, j ≤ 3 ∧ iv = .int .i64 (j : Int) ∧ Hid (EndAt w #[.slice ao L.length cap, mv] (cst σ) (P ++ [58] ++ [48 + v1, 48 + v2, 48 + v3].take j) wr)) (fun iv _ => 3 - (intOf iv).toNat)
      case atStart => exact ⟨0, by omega, rfl, show EndAt _ _ _ _ _ by simpa using H3.out⟩
      case round =>
        obtain ⟨j, hj3, hiv, hat2⟩ := hrel
        clear H3
        rcases (show j = 0 ∨ j = 1 ∨ j = 2 ∨ j = 3 from by omega) with hj | hj | hj | hj
        · subst hj
          simp only [Int.natCast_zero, Int.cast_ofNat_Int] at hiv
          subst hiv
          go_wp2_with (go_at_call 55; go_must (refine Calls.mono (hat2.out.put (48 + v1) (by simp; omega)) ?_; rintro e w4 ⟨rfl, h6⟩; have H4 : Hid _ := h6; clear h6))
          go_roundw
          case rel => exact ⟨1, by omega, by go_num, show EndAt _ _ _ _ _ by simpa using H4.out⟩
          case measure => simp [intOf]
        · subst hj
          simp only [Int.natCast_zero, Int.cast_ofNat_Int] at hiv
          subst hiv
          go_wp2_with (go_at_call 55; go_must (refine Calls.mono (hat2.out.put (48 + v2) (by simp; omega)) ?_; rintro e w4 ⟨rfl, h6⟩; have H4 : Hid _ := h6; clear h6))
          go_roundw
          case rel => exact ⟨2, by omega, by go_num, show EndAt _ _ _ _ _ by simpa using H4.out⟩
          case measure => simp [intOf]
        · subst hj
          simp only [Int.natCast_zero, Int.cast_ofNat_Int] at hiv
          subst hiv
          go_wp2_with (go_at_call 55; go_must (refine Calls.mono (hat2.out.put (48 + v3) (by simp; omega)) ?_; rintro e w4 ⟨rfl, h6⟩; have H4 : Hid _ := h6; clear h6))
          go_roundw
          case rel => exact ⟨3, by omega, by go_num, show EndAt _ _ _ _ _ by simpa using H4.out⟩
          case measure => simp [intOf]
        · subst hj
          simp only [Int.natCast_zero, Int.cast_ofNat_Int] at hiv
          subst hiv
          have HS : Hid _ := fun W (hW : Lib.IsBuilderF 110 5 (w.heap.size + 2) (w.heap.size + 2) (cells8 (P ++ [58] ++ [48 + v1, 48 + v2, 48 + v3].take 3)) W) => sbString_any (w.heap.size + 2) (w.heap.size + 2) ((wayL L σ).map fun c => UInt8.ofNat c.toNat) W (by rw [byteCells_txt _ HB.out, HW.out]; simpa [cells8] using hW) (by rw [HW.out]; simp)
          go_wp2_with (go_at_call 56; go_must (refine Calls.mono (HS.out _ hat2.out.sb) ?_; rintro e w4 ⟨rfl, h6⟩; have H4 : Hid _ := h6; clear h6))
          go_ret
          exact ⟨rfl, hat2.out.grownOf H4.out⟩

end Go.Proofs.Ytifidfgihpkgcaa

set_option linter.unusedSimpArgs false
set_option linter.unusedVariables false
namespace Go.Proofs.Ytifidfgihpkgcaa
open Go.RowKit Wv

/-- The beginning: the first n threads have fuel. -/
def startF (n : Nat) (fuel : Int) : Nat → Int := fun i => if i = 5 ∧ 0 < n ∨ i = 12 ∧ 1 < n ∨ i = 19 ∧ 2 < n then fuel else 0
theorem start_zero (fuel : Int) : startF 0 fuel = fun _ => 0 := by funext i; simp [startF]
theorem start_succ (k : Nat) (fuel : Int) (hk : k < 3) : upd (startF k fuel) (k * 7 + 5) fuel = startF (k + 1) fuel := by
  funext i
  unfold upd startF
  match k, hk with
  | 0, _ => by_cases h : i = 5 <;> simp [h]
  | 1, _ =>
    by_cases h : i = 12
    · simp [h]
    · by_cases h5 : i = 5 <;> simp [h, h5]
  | 2, _ =>
    by_cases h : i = 19
    · simp [h]
    · by_cases h5 : i = 5
      · simp [h, h5]
      · by_cases h12 : i = 12 <;> simp [h, h5, h12]
theorem cst_zero : cst (fun _ => 0) = #[.int .u8 0, .int .u8 0, .int .u8 0, .int .u8 0, .int .u8 0, .int .u8 0, .int .u8 0, .int .u8 0, .int .u8 0, .int .u8 0, .int .u8 0, .int .u8 0, .int .u8 0, .int .u8 0, .int .u8 0, .int .u8 0, .int .u8 0, .int .u8 0, .int .u8 0, .int .u8 0, .int .u8 0, .int .u8 0, .int .u8 0, .int .u8 0, .int .u8 0, .int .u8 0] := rfl

set_option maxHeartbeats 400000 in
theorem start_bad (n cap : Nat) (ao : Option Addr) (mv : Value) (fuel : Int) (w : World) (hmv : mv.oneCell' = true) (hf : fuel < 0 ∨ 8 < fuel) :
    Calls Try.prog 22 #[.agg #[.slice ao n cap, mv], .int .i64 fuel] w fun e w' => e = .panicked (refusal 4 0) ∧ w.grownBy w' none := by
  rcases hf with hf | hf
  · go_enter Try.func22, Try.ntmps22
    go_wp2_with fail
    exact ⟨rfl, rfl, grown2 _ _ _⟩
  · go_enter Try.func22, Try.ntmps22
    go_wp2_with fail
    exact ⟨rfl, rfl, grown2 _ _ _⟩

set_option maxHeartbeats 1000000 in
set_option maxRecDepth 100000 in
theorem start_any (n cap : Nat) (ao : Option Addr) (mv : Value) (fuel : Int) (w : World) (hmv : mv.oneCell' = true) (f0 : 0 ≤ fuel) (f8 : fuel ≤ 8) (h3 : n ≤ 3) :
    Calls Try.prog 22 #[.agg #[.slice ao n cap, mv], .int .i64 fuel] w fun e w' => e = .returned (.agg (cst (startF n fuel))) ∧ w.grownBy w' none := by
  have hd0 : decide (fuel < 0) = false := by simp; omega
  have hd8 : decide (8 < fuel) = false := by simp; omega
  go_enter Try.func22, Try.ntmps22
  go_wp2_with fail
  go_loopw [18] (fun iv wr => ∃ k : Nat, k ≤ n ∧ iv = .int .i64 (k : Int) ∧ Hid (wr.heap[w.heap.size + 1]? = some (.cells (cst (fun _ => 0)) 72 (0, 0)) ∧ wr.heap[w.heap.size + 2]? = some (.cells (cst (startF k fuel)) 72 (0, 0)) ∧ w.grownBy wr none)) (fun iv _ => n - (intOf iv).toNat)
  case atStart => exact ⟨0, Nat.zero_le _, rfl, by rw [cst_zero]; exact (heap3 _ _ _ _).2.1, by rw [start_zero, cst_zero]; exact (heap3 _ _ _ _).2.2, grown3 _ _ _ _⟩
  case round =>
    obtain ⟨k, hk, rfl, hat⟩ := hrel
    by_cases hlt : k < n
    · have c1 := cell_of_row wr (w.heap.size + 2) (k * 7 + 5) _ _ _ hat.out.2.1
      rw [cst_get _ _ (by omega)] at c1
      have fz := fun o => frozen_of_row wr (w.heap.size + 2) o _ _ hat.out.2.1
      generalize startF k fuel (k * 7 + 5) = old at *
      go_wp2_with fail
      go_roundw
      case rel =>
        refine ⟨k + 1, by omega, by go_num, ?_⟩
        refine ⟨?_, ?_, ?_⟩
        · rw [heap_setCell_ne (by omega)]; exact hat.out.1
        · rw [← start_succ k fuel (by omega), ← cst_set]; exact heap_setCell_same hat.out.2.1 _ _
        · exact grownBy_set_new hat.out.2.2 (by omega) _ _
      case measure => simp [intOf]; omega
    · have hkn : k = n := by omega
      have hst := hat.out.2.1
      rw [hkn] at hst
      have HS : Hid _ := hst
      clear hst hkn
      go_wp2_with (first | (refine wpList_load_row rfl 72 (.tmp 5) rfl (w.heap.size + 2) ?_ 72 (cst (startF n fuel)) (0, 0) _ ?_ Try.underlying72 rfl (info_state _) ?_; rfl; exact HS.out) | (refine wpList_store_row rfl 72 (.tmp 4) (.tmp 28) rfl (w.heap.size + 1) (cst (startF n fuel)) ?_ ?_ 72 _ hat.out.1 (info_state _) ?_ (cst_oneCell _) ?_; rfl; rfl; (rw [cst_size, cst_size])))
      refine bodyPost_ret (v := .agg (cst (startF n fuel))) (results_cell_row Try.results22 _ _ (w.heap.size + 1) 72 _ (0, 0) _ rfl (setRow_heap _ _ _ _ 72 (0, 0) hat.out.1) Try.underlying72 rfl (info_state _)) rfl ⟨rfl, ?_⟩
      exact grownBy_setRow hat.out.2.2 (by omega) _

end Go.Proofs.Ytifidfgihpkgcaa

set_option linter.unusedSimpArgs false
set_option linter.unusedVariables false
namespace Go.Proofs.Ytifidfgihpkgcaa
open Go.RowKit Wv

/-- Where the walk of 'play' stands: the machine's box, the state's, the iterator. -/
structure PlayAt (w : World) (R : Array Value) (S : Array Value) (row : ByteArray) (pos : Nat) (wr : World) : Prop where
  mach : wr.heap[w.heap.size]? = some (.cells R 61 (0, 0))
  st : wr.heap[w.heap.size + 1]? = some (.cells S 72 (0, 0))
  it : wr.heap[w.heap.size + 2]? = some (.stringIter row pos)
  grown : w.grownBy wr none
theorem PlayAt.later {w wr wr' : World} {R S : Array Value} {row : ByteArray} {pos : Nat} (h : PlayAt w R S row pos wr) (hg : wr.grownBy wr' none) : PlayAt w R S row pos wr' :=
  ⟨(hg.block _ (lt_of_block h.mach) (by simp)).trans h.mach, (hg.block _ (lt_of_block h.st) (by simp)).trans h.st, (hg.block _ (lt_of_block h.it) (by simp)).trans h.it, grownBy_trans h.grown hg⟩
theorem PlayAt.moved {w wr : World} {R S : Array Value} {row : ByteArray} {pos : Nat} (h : PlayAt w R S row pos wr) (pos' : Nat) : PlayAt w R S row pos' (wr.iterAt (w.heap.size + 2) row pos') := by
  refine ⟨?_, ?_, Lib.iterAt_heap _ _ _ _ _ h.it, ⟨h.grown.os, h.grown.tape, h.grown.output, ?_, fun k hk hr => ?_⟩⟩
  · rw [Lib.iterAt_other _ _ _ _ _ (by omega)]; exact h.mach
  · rw [Lib.iterAt_other _ _ _ _ _ (by omega)]; exact h.st
  · rw [Lib.iterAt_size]; exact h.grown.size
  · rw [Lib.iterAt_other _ _ _ _ _ (by omega)]; exact h.grown.block k hk hr
theorem PlayAt.put {w wr : World} {R S S' : Array Value} {row : ByteArray} {pos : Nat} (h : PlayAt w R S row pos wr) : PlayAt w R S' row pos (wr.setRow (w.heap.size + 1) S') := by
  refine ⟨?_, setRow_heap _ _ _ _ _ _ h.st, ?_, rgrown_setRow h.grown (by omega) _⟩
  · rw [setRow_other _ _ _ _ (by omega)]; exact h.mach
  · rw [setRow_other _ _ _ _ (by omega)]; exact h.it
theorem PlayAt.start (w : World) (R S : Array Value) (row : ByteArray) : PlayAt w R S row 0 (((w.alloc (.cells R 61)).alloc (.cells S 72)).alloc (.stringIter row 0)) :=
  ⟨(heap3 _ _ _ _).1, (heap3 _ _ _ _).2.1, (heap3 _ _ _ _).2.2, grown3 _ _ _ _⟩

section
variable {P : Program}
/-- A guarded read of a whole row, at an operation that is written out. -/
theorem ldg_row {ops : Array Oper} {rest : List Oper} {a : Act} {w : World} {Q : Exit → Act → World → Prop} (ty : TypeId) (x : Operand) {d : Nat} {tt : TypeId} {p : String} {af : Array Edge} {gu : Nat × Bool}
    (hw : Region.wanted { dst := some d, op := .load ty x, type := tt, pos := p, after := af, guard := some gu } (yielded ops a.tmps) = true)
    (g : Nat) (hx : a.eval x = .pointer (some ⟨g, 0, none⟩)) (cs : Array Value) (hg : w.heap[g]? = some (.cells cs ty (0, 0))) {td : TypeDesc}
    (hu : P.underlying ty = some td) (hd : (match td with | .struct _ | .array _ _ => true | _ => false) = true) (hi : (P.info? ty).map (·.size) = some cs.size)
    (h : wpList P ops Q rest (a.put (some d) (.agg cs)) w) : wpList P ops Q ({ dst := some d, op := .load ty x, type := tt, pos := p, after := af, guard := some gu } :: rest) a w :=
  wpList_load_row_g ty x rfl hw g hx ty cs (0, 0) td hg hu hd hi h
theorem st_row0 {ops : Array Oper} {rest : List Oper} {a : Act} {w : World} {Q : Exit → Act → World → Prop} (ty : TypeId) (x y : Operand) {tt : TypeId} {p : String} {af : Array Edge}
    (g : Nat) (cs : Array Value) (hx : a.eval x = .pointer (some ⟨g, 0, none⟩)) (hy : a.eval y = .agg cs) (old : Array Value) (hg : w.heap[g]? = some (.cells old ty (0, 0)))
    (hi : (P.info? ty).map (·.size) = some cs.size) (hs : old.size = cs.size) (h1 : cs.all (·.oneCell') = true)
    (h : wpList P ops Q rest a (w.setRow g cs)) : wpList P ops Q ({ dst := none, op := .store ty x y, type := tt, pos := p, after := af, guard := none } :: rest) a w :=
  st_row ty x y g cs hx hy old hg hi hs h1 h
end

def PlayPost (w : World) (r : ByteArray × Int × Int) (e : Ending) (w' : World) : Prop :=
  w.grownBy w' none ∧ ((r.2.1 = 0 ∧ e = .returned (.string r.1)) ∨ (r.2.1 ≠ 0 ∧ e = .panicked (refusal r.2.1 r.2.2)))

set_option maxHeartbeats 1000000 in
set_option maxRecDepth 100000 in
theorem play_any (s : ByteArray) (L : List (List Nat)) (σ : Nat → Int) (base B : Nat) (tv : Value) (mb : Nat) (vs : List Value) (row : ByteArray) (w : World) (hP : Prog w base B s L tv vs) (hmb : w.heap[mb]? = some (.map deedEntries 10)) (hL : PL s L) (hO : Ok L σ) (hm : row.size ≤ maxLen) :
    Calls Try.prog 21 #[.agg #[tv, .map (some mb)], .agg (cst σ), .string row] w (PlayPost w (runRow s L row row.size 0 σ)) := by
  have h3 := hP.three
  have hsl := ownsRow_slice hP.own.out
  have HP : Hid _ := hP
  have HMB : Hid _ := hmb
  have HL : Hid _ := hL
  clear hP hmb hL
  obtain ⟨ao, cap, rfl⟩ := hsl
  unfold maxLen at hm
  go_enter Try.func21, Try.ntmps21
  go_wp2_with fail
  go_loopw [] (fun wr => ∃ (pos : Nat) (τ : Nat → Int), pos ≤ row.size ∧ Hid (PlayAt w #[.slice ao L.length cap, .map (some mb)] (cst τ) row pos wr) ∧ Hid (Ok L τ ∧ runRow s L row (row.size - pos) pos τ = runRow s L row row.size 0 σ)) (fun wr => row.size - wr.iterPos (w.heap.size + 2))
  case atStart => exact ⟨0, σ, Nat.zero_le _, PlayAt.start _ _ _ _, hO, rfl⟩
  case round =>
    obtain ⟨pos, τ, hpos, hat, hro⟩ := hrel
    obtain ⟨m0, m1, mf⟩ := blk2 hat.out.mach
    have HOK : Hid _ := hro.out.1
    by_cases hp : pos < row.size
    · have hpk := pk_in hp
      have hpr := pk_range row pos
      obtain ⟨r, wd, hr, hdec⟩ : ∃ (r : Int) (wd : Nat), ((pk row pos < 128 → r = pk row pos ∧ wd = 1) ∧ (128 ≤ pk row pos → 128 ≤ r) ∧ 0 ≤ r ∧ r ≤ 2147483647) ∧ ∀ ty, (Instr.next (.pointer (some ⟨w.heap.size + 1 + 1, 0, none⟩)) true ty).run Try.prog wr = .ok (.tuple #[.bool true, .int .i64 (pos : Int), .int .i32 r]) (wr.iterAt (w.heap.size + 2) row (pos + wd)) := by
        have hd := decode_le row pos
        refine ⟨((Utf8.decode row pos).1 : Int), (Utf8.decode row pos).2, ⟨fun h => ?_, fun h => ?_, by omega, by omega⟩, fun ty => Lib.run_next_any_at wr (w.heap.size + 2) row pos ty hat.out.it hp⟩
        · rw [decode_ascii row pos hp (by omega)]; exact ⟨hpk.symm, rfl⟩
        · have := decode_high row pos hp (by omega); omega
      have hat1 := hat.out.moved (pos + wd)
      obtain ⟨w1, hw1⟩ : ∃ w1, w1 = wr.iterAt (w.heap.size + 2) row (pos + wd) := ⟨_, rfl⟩
      rw [← hw1] at hdec hat1
      clear hw1
      obtain ⟨n0, n1, nf⟩ := blk2 hat1.mach
      have HAT : Hid _ := hat1
      clear hat1
      cases hgo : goes s L row pos τ with
      | false =>
        have hru := run_bad (s := s) (L := L) hp hgo
        rw [hro.out.2] at hru
        have HR : Hid _ := hru
        clear hru
        rcases goes_no hgo with hb | hb | ⟨who, hw1, hw2, hw3⟩
        · have b0 : decide (r - 48 < 0) = true := by simp; omega
          clear hpk hpr hgo
          go_wp2_with fail
          refine ⟨rfl, HAT.out.grown, .inr ?_⟩
          rw [HR.out]
          exact ⟨by simp, rfl⟩
        · have b0 : decide (r - 48 < 0) = false := by simp; omega
          have b1 : decide ((L.length : Int) ≤ r - 48) = true := by simp; omega
          clear hpk hpr hgo
          go_wp2_with fail
          refine ⟨rfl, HAT.out.grown, .inr ?_⟩
          rw [HR.out]
          exact ⟨by simp, rfl⟩
        · have hr1 : r - 48 = (who : Int) := by omega
          have b0 : decide ((who : Int) < 0) = false := by simp
          have b1 : decide ((L.length : Int) ≤ (who : Int)) = false := by simp; omega
          have b2 : decide (L.length ≤ who) = false := by simp; omega
          have hmc := may_call (HP.out.kept HAT.out.grown) (mv := .map (some mb)) rfl HOK.out.st who hw2
          rw [hw3] at hmc
          have HMC : Hid _ := hmc
          have hr0 := hr.2.2
          clear hpk hpr hgo hmc hw3 hr
          go_wp2_with (first | (refine ldg_row 72 (.tmp 4) ?_ (w.heap.size + 1) ?_ (cst τ) ?_ Try.underlying72 rfl (info_state _) ?_; go_simp; rfl; exact HAT.out.st) | (go_at_call 33; go_must (refine Calls.mono HMC.out ?_; rintro e w2 ⟨rfl, hg2⟩; have HG2 : Hid _ := hg2; clear hg2)))
          refine ⟨rfl, grownBy_trans HAT.out.grown HG2.out, .inr ?_⟩
          rw [HR.out]
          exact ⟨by simp, rfl⟩
      | true =>
        obtain ⟨who, hw1, hw2, hw3⟩ := goes_out hgo
        have hru := run_go (s := s) (L := L) hp hgo
        rw [hro.out.2, show (pk row pos - 48).toNat = who from by omega] at hru
        have HR : Hid _ := hru
        have hwd : wd = 1 := (hr.1 (by omega)).2
        subst hwd
        have hr1 : r - 48 = (who : Int) := by have := (hr.1 (by omega)).1; omega
        have b0 : decide ((who : Int) < 0) = false := by simp
        have b1 : decide ((L.length : Int) ≤ (who : Int)) = false := by simp; omega
        have b2 : decide (L.length ≤ who) = false := by simp; omega
        have hmc := may_call (HP.out.kept HAT.out.grown) (mv := .map (some mb)) rfl HOK.out.st who hw2
        rw [hw3] at hmc
        have HMC : Hid _ := hmc
        have HT : Hid (∀ W, w.grownBy W none → Calls Try.prog 34 #[.agg #[.slice ao L.length cap, .map (some mb)], .agg (cst τ), .int .i64 (who : Int)] W fun e w' => e = .returned (.agg (cst (turnF s L τ who))) ∧ W.grownBy w' none) := fun W hW =>
          turn_any s L τ who base B _ mb vs W (HP.out.kept hW).own ((hW.block _ (lt_of_block HMB.out) (by simp)).trans HMB.out) (by omega) hw2 HOK.out.st (HP.out.eight _ (List.getElem_mem hw2)) (HP.out.good _ (List.getElem_mem hw2)) hw3
        have HOK2 : Hid _ := ok_turn HL.out HOK.out hw2 hw3
        have hr0 := hr.2.2
        clear hpk hpr hgo hmc hw3 hr hru
        go_wp2_with (first | (refine ldg_row 72 (.tmp 4) ?_ (w.heap.size + 1) ?_ (cst τ) ?_ Try.underlying72 rfl (info_state _) ?_; go_simp; rfl; exact HAT.out.st) | (go_at_call 33; go_must (refine Calls.mono HMC.out ?_; rintro e w2 ⟨rfl, hg2⟩; have hat2 := HAT.out.later hg2; obtain ⟨p0, p1, pf⟩ := blk2 hat2.mach; have HA2 : Hid _ := hat2; clear hg2 hat2)) | (refine ld_row 72 (.tmp 4) (w.heap.size + 1) ?_ (cst τ) ?_ Try.underlying72 rfl (info_state _) ?_; rfl; exact HA2.out.st) | (go_at_call 34; go_must (refine Calls.mono (HT.out _ HA2.out.grown) ?_; rintro e w3 ⟨rfl, hg3⟩; have HA3 : Hid _ := HA2.out.later hg3; clear hg3)) | (refine st_row0 72 (.tmp 4) (.tmp 41) (w.heap.size + 1) (cst (turnF s L τ who)) ?_ ?_ (cst τ) HA3.out.st (info_state _) ?_ (cst_oneCell _) ?_; rfl; rfl; (rw [cst_size, cst_size])))
        go_roundw
        case rel => exact ⟨pos + 1, turnF s L τ who, by omega, HA3.out.put, HOK2.out, HR.out.symm⟩
        case measure =>
          have hz := HA3.out.put (S' := cst (turnF s L τ who))
          simp only [World.iterPos, hz.it, hat.out.it]
          omega
    · have hnx : ∀ ty, (Instr.next (.pointer (some ⟨w.heap.size + 1 + 1, 0, none⟩)) true ty).run Try.prog wr = .ok (.tuple #[.bool false]) wr := fun ty => Lib.run_next_end_at wr (w.heap.size + 2) row pos ty hat.out.it hp
      have hru := run_end (s := s) (L := L) (σ := τ) hp
      rw [hro.out.2] at hru
      have HS : Hid _ := someMayGoOn_any s L τ base B _ (.map (some mb)) vs wr (HP.out.kept hat.out.grown) rfl HOK.out.st
      cases hov : overB s L τ with
      | false =>
        rw [hov] at hru HS
        have HR : Hid _ := hru
        clear hru hov
        go_wp2_with (first | (refine ld_row 72 (.tmp 4) (w.heap.size + 1) ?_ (cst τ) ?_ Try.underlying72 rfl (info_state _) ?_; rfl; exact hat.out.st) | (go_at_call 35; go_must (refine Calls.mono HS.out ?_; rintro e w2 ⟨rfl, hg2⟩; have HG2 : Hid _ := hg2; clear hg2)))
        refine ⟨rfl, grownBy_trans hat.out.grown HG2.out, .inr ?_⟩
        rw [HR.out]
        exact ⟨by simp, rfl⟩
      | true =>
        rw [hov] at hru HS
        have HR : Hid _ := hru
        have HE : Hid (∀ W, w.grownBy W none → Calls Try.prog 36 #[.agg #[.slice ao L.length cap, .map (some mb)], .agg (cst τ)] W fun e w' => e = .returned (.string (txt (wayL L τ))) ∧ W.grownBy w' none) := fun W hW =>
          end_any s L τ base B _ (.map (some mb)) vs W (HP.out.kept hW) rfl HOK.out.st
        clear hru hov
        go_wp2_with (first | (refine ld_row 72 (.tmp 4) (w.heap.size + 1) ?_ (cst τ) ?_ Try.underlying72 rfl (info_state _) ?_; rfl; first | exact hat.out.st | exact HA2.out.st) | (go_at_call 35; go_must (refine Calls.mono HS.out ?_; rintro e w2 ⟨rfl, hg2⟩; have hat2 := hat.out.later hg2; obtain ⟨p0, p1, pf⟩ := blk2 hat2.mach; have HA2 : Hid _ := hat2; clear hg2 hat2)) | (go_at_call 36; go_must (refine Calls.mono (HE.out _ HA2.out.grown) ?_; rintro e w3 ⟨rfl, hg3⟩; have HA3 : Hid _ := HA2.out.later hg3; clear hg3)))
        go_ret
        refine ⟨HA3.out.grown, .inl ?_⟩
        rw [HR.out]
        exact ⟨rfl, rfl⟩
end Go.Proofs.Ytifidfgihpkgcaa

set_option linter.unusedSimpArgs false
set_option linter.unusedVariables false
namespace Go.Proofs.Ytifidfgihpkgcaa
open Go.RowKit Wv

set_option maxHeartbeats 400000 in
theorem refused_nil (w : World) : Calls Try.prog 18 #[.nilIface] w fun e w' => e = .returned (.tuple #[.int .i64 0, .int .i64 0]) ∧ w' = w := by
  go_enter Try.func18, Try.ntmps18
  go_wp2
  go_ret2
  exact ⟨rfl, rfl⟩

theorem run_ta (v : Value) (w : World) : (Instr.typeAssert (.iface 83 v) 20 83 true).run Try.prog w = .ok (.tuple #[v, .bool true]) w := by
  simp [Instr.typeAssert, run_underlying Try.underlying83]

set_option maxHeartbeats 400000 in
set_option maxRecDepth 100000 in
theorem refused_some (a b : Int) (w : World) : Calls Try.prog 18 #[.iface 83 (.agg #[.int .i64 a, .int .i64 b])] w fun e w' => e = .returned (.tuple #[.int .i64 a, .int .i64 b]) ∧ w.grownBy w' none := by
  have hta := run_ta
  go_enter Try.func18, Try.ntmps18
  go_wp2
  go_quiet (fail)
  go_wp2
  go_ret2
  exact ⟨rfl, grownBy_trans (World.grownBy_alloc w _ none) (grownBy_drewN _ nq _)⟩

/-- A block of one cell. -/
structure One (w : World) (b t : Nat) (v : Value) : Prop where
  blk : w.heap[b]? = some (.cells #[v] t (0, 0))
theorem One.kept {w w' : World} {b t : Nat} {v : Value} {r : Option Nat} (h : One w b t v) (hg : w.grownBy w' r) (hne : some b ≠ r) : One w' b t v := ⟨(hg.block b (lt_of_block h.blk) hne).trans h.blk⟩

set_option maxRecDepth 100000 in
theorem catch_panicking (p q : Nat) (t1 t2 : Nat) (v1 v2 : Value) (a b : Int) (older : List PanicEntry) (w : World) (h1 : One w p t1 v1) (h2 : One w q t2 v2) (hne : p ≠ q) :
    CallsD Try.prog 17 #[.pointer (some ⟨p, 0, none⟩), .pointer (some ⟨q, 0, none⟩)] (.panicking ({ v := .iface 83 (.agg #[.int .i64 a, .int .i64 b]), recovered := false } :: older)) w fun e u' w' =>
      e = .returned (.tuple #[]) ∧ u' = .panicking ({ v := .iface 83 (.agg #[.int .i64 a, .int .i64 b]), recovered := true } :: older) ∧
      ∃ w1, w.grownBy w1 none ∧ w' = (w1.setCell ⟨p, 0, none⟩ (.int .i64 a)).setCell ⟨q, 0, none⟩ (.int .i64 b) := by
  refine callsD_of_wpS Try.func17 rfl fun c₀ cs hu => ?_
  apply wpS_region
  simp [wpOpsS, go_sem, recoverD, hu, Try.ntmps17, Exit.thenS]
  refine Calls.mono (refused_some a b w) ?_
  rintro e w1 ⟨rfl, hg⟩
  have k1 := cell_of_one (h1.kept hg (by simp)).blk
  have k2 := cell_of_one (h2.kept hg (by simp)).blk
  have z1 := free_of_one (h1.kept hg (by simp)).blk
  have z2 := free_of_one (h2.kept hg (by simp)).blk
  simp [wpOpsS, go_sem, k1, k2, z1, z2, hne, hne.symm, bodyPostS, results, Try.results17]
  exact ⟨w1, hg, rfl⟩

set_option maxRecDepth 100000 in
theorem catch_idle (p q : Nat) (t1 t2 : Nat) (v1 v2 : Value) (w : World) (h1 : One w p t1 v1) (h2 : One w q t2 v2) (hne : p ≠ q) :
    CallsD Try.prog 17 #[.pointer (some ⟨p, 0, none⟩), .pointer (some ⟨q, 0, none⟩)] .returning w fun e u' w' =>
      e = .returned (.tuple #[]) ∧ u' = .returning ∧ w' = (w.setCell ⟨p, 0, none⟩ (.int .i64 0)).setCell ⟨q, 0, none⟩ (.int .i64 0) := by
  have k1 := cell_of_one h1.blk
  have k2 := cell_of_one h2.blk
  have z1 := free_of_one h1.blk
  have z2 := free_of_one h2.blk
  refine callsD_of_wpS Try.func17 rfl fun c₀ cs hu => ?_
  apply wpS_region
  simp [wpOpsS, go_sem, recoverD, hu, Try.ntmps17, Exit.thenS]
  refine Calls.mono (refused_nil w) ?_
  rintro e w1 ⟨rfl, rfl⟩
  cases c₀
  simp_all [wpOpsS, go_sem, hne, hne.symm, bodyPostS, results, Try.results17]

theorem two_ones {w w1 : World} {v1 v2 : Value} {t1 t2 : Nat} (hg : ((w.alloc (.cells #[v1] t1)).alloc (.cells #[v2] t2)).grownBy w1 none) : One w1 w.heap.size t1 v1 ∧ One w1 (w.heap.size + 1) t2 v2 ∧ w.grownBy w1 none := by
  have hs : (w.alloc (.cells #[v1] t1)).heap.size = w.heap.size + 1 := by simp
  refine ⟨⟨?_⟩, ⟨?_⟩, grownBy_trans (grownBy_trans (World.grownBy_alloc _ _ _) (World.grownBy_alloc _ _ _)) hg⟩
  · rw [hg.block _ (by simp; omega) (by simp), heap_alloc_old _ _ (by omega)]; exact heap_alloc_new _ _
  · rw [hg.block _ (by simp) (by simp), ← hs]; exact heap_alloc_new _ _

set_option maxHeartbeats 1000000 in
set_option maxRecDepth 100000 in
theorem check_any (s : ByteArray) (w : World) (hm : s.size ≤ maxLen) :
    Calls Try.prog 6 #[.string s] w fun e w' => e = .returned (.tuple #[.int .i64 (chk s).1, .int .i64 ((chk s).2 : Int)]) ∧ w.grownBy w' none := by
  have hmf : ∀ (fn : Fn) (first cap : Array Value) (w : World), (Instr.makeFunc fn first cap).run Try.prog w = .ok (.func fn first cap) w := fun _ _ _ _ => rfl
  have HRD : Hid _ := fun W => read_any s W hm
  clear hm
  go_enter_defers Try.func6, Try.ntmps6
  go_wp2_with fail
  refine Calls.mono (HRD.out _) ?_
  rintro e w1 ⟨hg, hpost⟩
  obtain ⟨o1, o2, hgw⟩ := two_ones hg
  clear hg
  have hN : w.heap.size ≠ w.heap.size + 1 := by omega
  rcases hpost with ⟨hne, rfl⟩ | ⟨heq, L, tv, vs, mb, rfl, hM⟩
  · refine leaves_cons (f := 17) (args := #[.pointer (some ⟨w.heap.size, 0, none⟩), .pointer (some ⟨w.heap.size + 1, 0, none⟩)]) (by simp) (by simp [go_sem]) ?_
    refine CallsD.mono (catch_panicking _ _ _ _ _ _ (chk s).1 ((chk s).2 : Int) [] w1 o1 o2 hN) ?_
    rintro e u' w'' ⟨rfl, rfl, w2, hg2, rfl⟩
    have k1 := cell_of_one (o1.kept hg2 (by simp)).blk
    have k2 := cell_of_one (o2.kept hg2 (by simp)).blk
    simp [Leaves, settle, results, Try.results6, go_sem, k1, k2]
    exact grownBy_set_new (grownBy_set_new (grownBy_trans hgw hg2) (Nat.le_refl _) _ _) (Nat.le_succ _) _ _
  · have k1 := cell_of_one o1.blk
    have k2 := cell_of_one o2.blk
    have z1 := free_of_one o1.blk
    have z2 := free_of_one o2.blk
    have H1 : Hid _ := o1
    have H2 : Hid _ := o2
    clear o1 o2 hM
    have hc : chk s = (0, 0) := by
      revert heq; unfold chk; split
      · simp
      · split
        · simp
        · split <;> simp
    have HC : Hid _ := hc
    clear hc heq
    go_wp2_with fail
    have p1 : One ((w1.setCell ⟨w.heap.size, 0, none⟩ (.int .i64 0)).setCell ⟨w.heap.size + 1, 0, none⟩ (.int .i64 0)) w.heap.size 22 (.int .i64 0) :=
      One.kept ⟨one_setCell H1.out.blk⟩ (grownBy_setCell _ _ _ _) (by simp)
    have p2 : One ((w1.setCell ⟨w.heap.size, 0, none⟩ (.int .i64 0)).setCell ⟨w.heap.size + 1, 0, none⟩ (.int .i64 0)) (w.heap.size + 1) 3 (.int .i64 0) :=
      ⟨one_setCell (One.kept H2.out (grownBy_setCell _ w.heap.size 0 (.int .i64 0)) (by simp)).blk⟩
    refine leaves_cons (f := 17) (args := #[.pointer (some ⟨w.heap.size, 0, none⟩), .pointer (some ⟨w.heap.size + 1, 0, none⟩)]) (by simp) (by simp [go_sem]) ?_
    refine CallsD.mono (catch_idle _ _ _ _ _ _ _ p1 p2 hN) ?_
    rintro e u' w'' ⟨rfl, rfl, rfl⟩
    rw [HC.out]
    have j1 := cell_of_one p1.blk
    have j2 := cell_of_one p2.blk
    have hge := Nat.le_refl w.heap.size
    have hge1 := Nat.le_succ w.heap.size
    have hgf := grownBy_set_new (grownBy_set_new (grownBy_set_new (grownBy_set_new hgw hge 0 (.int .i64 0)) hge1 0 (.int .i64 0)) hge 0 (.int .i64 0)) hge1 0 (.int .i64 0)
    simp [Leaves, settle, results, Try.results6, go_sem, j1, j2]
    exact hgf

end Go.Proofs.Ytifidfgihpkgcaa

set_option linter.unusedSimpArgs false
set_option linter.unusedVariables false
namespace Go.Proofs.Ytifidfgihpkgcaa
open Go.RowKit Wv

set_option maxRecDepth 100000 in
theorem catchPlay_panicking (p q : Nat) (t1 t2 : Nat) (v1 v2 : Value) (a b : Int) (older : List PanicEntry) (w : World) (h1 : One w p t1 v1) (h2 : One w q t2 v2) (hne : p ≠ q) :
    CallsD Try.prog 20 #[.pointer (some ⟨p, 0, none⟩), .pointer (some ⟨q, 0, none⟩)] (.panicking ({ v := .iface 83 (.agg #[.int .i64 a, .int .i64 b]), recovered := false } :: older)) w fun e u' w' =>
      e = .returned (.tuple #[]) ∧ u' = .panicking ({ v := .iface 83 (.agg #[.int .i64 a, .int .i64 b]), recovered := true } :: older) ∧
      ∃ w1, w.grownBy w1 none ∧ w' = (w1.setCell ⟨p, 0, none⟩ (.int .i64 a)).setCell ⟨q, 0, none⟩ (.int .i64 b) := by
  refine callsD_of_wpS Try.func20 rfl fun c₀ cs hu => ?_
  apply wpS_region
  simp [wpOpsS, go_sem, recoverD, hu, Try.ntmps20, Exit.thenS]
  refine Calls.mono (refused_some a b w) ?_
  rintro e w1 ⟨rfl, hg⟩
  have k1 := cell_of_one (h1.kept hg (by simp)).blk
  have k2 := cell_of_one (h2.kept hg (by simp)).blk
  have z1 := free_of_one (h1.kept hg (by simp)).blk
  have z2 := free_of_one (h2.kept hg (by simp)).blk
  simp [wpOpsS, go_sem, k1, k2, z1, z2, hne, hne.symm, bodyPostS, results, Try.results20]
  exact ⟨w1, hg, rfl⟩

set_option maxRecDepth 100000 in
theorem catchPlay_idle (p q : Nat) (t1 t2 : Nat) (v1 v2 : Value) (w : World) (h1 : One w p t1 v1) (h2 : One w q t2 v2) (hne : p ≠ q) :
    CallsD Try.prog 20 #[.pointer (some ⟨p, 0, none⟩), .pointer (some ⟨q, 0, none⟩)] .returning w fun e u' w' =>
      e = .returned (.tuple #[]) ∧ u' = .returning ∧ w' = (w.setCell ⟨p, 0, none⟩ (.int .i64 0)).setCell ⟨q, 0, none⟩ (.int .i64 0) := by
  have k1 := cell_of_one h1.blk
  have k2 := cell_of_one h2.blk
  have z1 := free_of_one h1.blk
  have z2 := free_of_one h2.blk
  refine callsD_of_wpS Try.func20 rfl fun c₀ cs hu => ?_
  apply wpS_region
  simp [wpOpsS, go_sem, recoverD, hu, Try.ntmps20, Exit.thenS]
  refine Calls.mono (refused_nil w) ?_
  rintro e w1 ⟨rfl, rfl⟩
  cases c₀
  simp_all [wpOpsS, go_sem, hne, hne.symm, bodyPostS, results, Try.results20]


/-- What Play answers. -/
def playV (s : ByteArray) (fuel : Int) (row : ByteArray) : ByteArray × Int × Int :=
  if (chk s).1 = 0 then (if fuel < 0 ∨ 8 < fuel then (⟨#[]⟩, 4, 0) else match Wv.rd s 2 0 [] with
    | .ok L => runRow s L row row.size 0 (startF L.length fuel)
    | .error _ => (⟨#[]⟩, 0, 0)) else (⟨#[]⟩, (chk s).1, ((chk s).2 : Int))

theorem jumps_all {s : ByteArray} : ∀ {L : List (List Nat)}, jumps s L = none → ∀ l ∈ L, ∀ x ∈ l, jumpBad s l.length x = false
  | [], _, l, hl => by simp at hl
  | m :: r, h, l, hl => by
    have j1 : ∀ (n : Nat) (k : List Nat), jump1 s n k = none → ∀ x ∈ k, jumpBad s n x = false := by
      intro n k
      induction k with
      | nil => intro _ x hx; simp at hx
      | cons y ys ih =>
        intro hk x hx
        rw [jump1] at hk
        split at hk
        · cases hk
        · rename_i hb
          rcases List.mem_cons.1 hx with rfl | hx
          · simpa using hb
          · exact ih hk x hx
    rw [jumps] at h
    split at h
    · cases h
    · rename_i hj
      rcases List.mem_cons.1 hl with rfl | hl
      · exact j1 _ _ hj
      · exact jumps_all h l hl
theorem chk_zero {s : ByteArray} (h : (chk s).1 = 0) : chk s = (0, 0) ∧ ¬ 150 < s.size ∧ ∃ L, Wv.rd s 2 0 [] = .ok L ∧ PL s L := by
  by_cases hb : 150 < s.size
  · rw [chk_long hb] at h; simp at h
  · cases hr : Wv.rd s 2 0 [] with
    | error p => rw [chk_text hb hr] at h; simp at h
    | ok L =>
      cases hj : jumps s L with
      | some p => rw [chk_jump hb hr hj] at h; simp at h
      | none =>
        have hg := rd_good hr (by simp)
        exact ⟨chk_ok hb hr hj, hb, L, rfl, ⟨by simpa using hg.2, fun l hl => (hg.1 l hl).2, fun l hl => (hg.1 l hl).1, jumps_all hj⟩⟩
theorem ok_start (L : List (List Nat)) (n : Nat) (fuel : Int) (h3 : L.length ≤ 3) (f0 : 0 ≤ fuel) (f8 : fuel ≤ 8) : Ok L (startF n fuel) := by
  refine ⟨⟨fun i hi => ?_, fun w hw => ?_⟩, fun w hw => ?_⟩
  · unfold startF; split <;> omega
  · unfold startF; split <;> omega
  · unfold startF; split <;> omega
theorem prog_of {w : World} {base : Nat} {s : ByteArray} {L : List (List Nat)} {tv : Value} {vs : List Value} {mb : Nat} (h : Machine w base s L tv vs mb) (hL : PL s L) : Prog w base w.heap.size s L tv vs :=
  ⟨h.own, hL.three, hL.eight, hL.good⟩
end Go.Proofs.Ytifidfgihpkgcaa

