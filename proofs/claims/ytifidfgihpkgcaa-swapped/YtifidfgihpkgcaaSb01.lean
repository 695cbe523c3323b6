import Derived.Test.YtifidfgihpkgcaaPa20
import Derived.Test.YtifidfgihpkgcaaPa21
set_option linter.unusedSimpArgs false
set_option linter.unusedVariables false
namespace Go.Proofs.Ytifidfgihpkgcaa.Wv

def cellOf (s : ByteArray) (x : Nat) : Int := if pk s x = 114 then stepB s x else if pk s x = 119 then stepA s x else -1
def lockOf (s : ByteArray) (x : Nat) : Int := if pk s x = 108 ∨ pk s x = 117 then stepA s x else -1
def isW (s : ByteArray) (x : Nat) : Bool := pk s x == 119
/-- Have two turns to do with one another? -/
def boundB (s : ByteArray) (n x m y : Nat) : Bool := n == m || (decide (0 ≤ cellOf s x) && cellOf s x == cellOf s y && (isW s x || isW s y)) || (decide (0 ≤ lockOf s x) && lockOf s x == lockOf s y)

def ownI (who i : Nat) : Prop := who * 7 ≤ i ∧ i < who * 7 + 7
/-- What a step writes and reads beside its thread's own. -/
def wrI (s : ByteArray) (x i : Nat) : Prop := (pk s x = 119 ∧ i = 21 + (stepA s x).toNat) ∨ ((pk s x = 108 ∨ pk s x = 117) ∧ i = 24 + (stepA s x).toNat)
def rdI (s : ByteArray) (x i : Nat) : Prop := (pk s x = 114 ∧ i = 21 + (stepB s x).toNat) ∨ ((pk s x = 108 ∨ pk s x = 117) ∧ i = 24 + (stepA s x).toNat)

theorem upd_at (σ : Nat → Int) (i : Nat) (v : Int) (j : Nat) : upd σ i v j = if j = i then v else σ j := rfl
theorem upd_dep {σ τ : Nat → Int} {j i : Nat} {v v' : Int} (hv : v = v') (h : i ≠ j → σ i = τ i) : upd σ j v i = upd τ j v' i := by
  rw [upd_at, upd_at]
  by_cases hi : i = j
  · rw [if_pos hi, if_pos hi, hv]
  · rw [if_neg hi, if_neg hi]; exact h hi
theorem stop_dep {σ τ : Nat → Int} {who i : Nat} {f : Int} (h : ∀ j, ownI who j → σ j = τ j) (hi : σ i = τ i) : stopF σ who f i = stopF τ who f i := by
  unfold stopF
  exact upd_dep (by rw [h _ ⟨by omega, by omega⟩]) (fun _ => upd_dep rfl (fun _ => hi))
theorem stop_frame {σ : Nat → Int} {who i : Nat} {f : Int} (hi : ¬ ownI who i) : stopF σ who f i = σ i := by
  unfold stopF
  rw [upd_other _ _ (fun e => hi ⟨by omega, by omega⟩), upd_other _ _ (fun e => hi ⟨by omega, by omega⟩)]
theorem pre_frame {σ : Nat → Int} {who i : Nat} (hi : ¬ ownI who i) : pre σ who i = σ i := by
  unfold pre
  rw [upd_other _ _ (fun e => hi ⟨by omega, by omega⟩), upd_other _ _ (fun e => hi ⟨by omega, by omega⟩)]
theorem pre_dep {σ τ : Nat → Int} {who i : Nat} (h : ∀ j, ownI who j → σ j = τ j) (hi : σ i = τ i) : pre σ who i = pre τ who i := by
  unfold pre
  exact upd_dep (by rw [h _ ⟨by omega, by omega⟩]) (fun _ => upd_dep (by rw [h _ ⟨by omega, by omega⟩]) (fun _ => hi))

theorem eff_frame {s : ByteArray} {σ : Nat → Int} {who x i : Nat} (hsb : stepBad s x = none) (ho : ¬ ownI who i) (hw : ¬ wrI s x i) : eff s x σ who i = σ i := by
  have hne : ∀ k, k < 7 → i ≠ who * 7 + k := fun k hk e => ho ⟨by omega, by omega⟩
  rcases sign_of hsb with hc | hc | hc | hc | hc | hc | hc | hc | hc | hc
  · obtain ⟨a, b, ha, hb, hA, hB, _⟩ := fields_61 hsb hc
    have eA : (stepA s x).toNat = a := by omega
    have eB : (stepB s x).toNat = b := by omega
    have he : ∀ σ, eff s x σ who = upd σ (who * 7 + a) (b : Int) := fun σ => by
      simp only [eff, hc, eA, eB]
      simp
    rw [he, upd_other _ _ (hne a (by omega))]
  · obtain ⟨a, b, ha, hb, hA, hB, _⟩ := fields_122 hsb hc
    have eA : (stepA s x).toNat = a := by omega
    have eB : (stepB s x).toNat = b := by omega
    by_cases hz : σ (who * 7 + a) = 0
    · have he : ∀ σ, σ (who * 7 + a) = 0 → eff s x σ who = upd σ (who * 7 + 4) (b : Int) := fun σ ho => by
        simp only [eff, hc, eA, eB]
        simp [ho]
      rw [he _ hz, upd_other _ _ (hne 4 (by omega))]
    · have he : ∀ σ, ¬ σ (who * 7 + a) = 0 → eff s x σ who = σ := fun σ ho => by
        simp only [eff, hc, eA, eB]
        simp [ho]
      rw [he _ hz]
  · obtain ⟨a, b, ha, hb, hA, hB, _⟩ := fields_43 hsb hc
    have eA : (stepA s x).toNat = a := by omega
    have eB : (stepB s x).toNat = b := by omega
    have he : ∀ σ, eff s x σ who = upd σ (who * 7 + a) ((σ (who * 7 + a) + σ (who * 7 + b)) % 10) := fun σ => by
      simp only [eff, hc, eA, eB]
      simp
    rw [he, upd_other _ _ (hne a (by omega))]
  · obtain ⟨a, b, ha, hb, hA, hB, _⟩ := fields_45 hsb hc
    have eA : (stepA s x).toNat = a := by omega
    have eB : (stepB s x).toNat = b := by omega
    have he : ∀ σ, eff s x σ who = upd σ (who * 7 + a) ((σ (who * 7 + a) + 10 - σ (who * 7 + b)) % 10) := fun σ => by
      simp only [eff, hc, eA, eB]
      simp
    rw [he, upd_other _ _ (hne a (by omega))]
  · obtain ⟨a, b, ha, hb, hA, hB, _⟩ := fields_114 hsb hc
    have eA : (stepA s x).toNat = a := by omega
    have eB : (stepB s x).toNat = b := by omega
    have he : ∀ σ, eff s x σ who = upd σ (who * 7 + a) (σ (21 + b)) := fun σ => by
      simp only [eff, hc, eA, eB]
      simp
    rw [he, upd_other _ _ (hne a (by omega))]
  · obtain ⟨a, b, ha, hb, hA, hB, _⟩ := fields_119 hsb hc
    have eA : (stepA s x).toNat = a := by omega
    have eB : (stepB s x).toNat = b := by omega
    have he : ∀ σ, eff s x σ who = upd σ (21 + a) (σ (who * 7 + b)) := fun σ => by
      simp only [eff, hc, eA, eB]
      simp
    rw [he, upd_other _ _ (fun e => hw (.inl ⟨hc, by rw [eA]; exact e⟩))]
  · obtain ⟨a, ha, hA, _⟩ := fields_108 hsb hc
    have eA : (stepA s x).toNat = a := by omega
    have he : ∀ σ, eff s x σ who = upd σ (24 + a) ((who : Int) + 1) := fun σ => by
      simp only [eff, hc, eA]
      simp
    rw [he, upd_other _ _ (fun e => hw (.inr ⟨.inl hc, by rw [eA]; exact e⟩))]
  · obtain ⟨a, ha, hA, _⟩ := fields_117 hsb hc
    have eA : (stepA s x).toNat = a := by omega
    by_cases hz : σ (24 + a) = (who : Int) + 1
    · have he : ∀ σ, σ (24 + a) = (who : Int) + 1 → eff s x σ who = upd σ (24 + a) 0 := fun σ ho => by
        simp only [eff, hc, eA]
        simp [ho]
      rw [he _ hz, upd_other _ _ (fun e => hw (.inr ⟨.inr hc, by rw [eA]; exact e⟩))]
    · have he : ∀ σ, ¬ σ (24 + a) = (who : Int) + 1 → eff s x σ who = stopF σ who 1 := fun σ ho => by
        simp only [eff, hc, eA]
        simp [ho]
      rw [he _ hz, stop_frame ho]
  · obtain ⟨a, ha, hA, _⟩ := fields_106 hsb hc
    have eA : (stepA s x).toNat = a := by omega
    have he : ∀ σ, eff s x σ who = upd σ (who * 7 + 4) (a : Int) := fun σ => by
      simp only [eff, hc, eA]
      simp
    rw [he, upd_other _ _ (hne 4 (by omega))]
  · obtain ⟨a, ha, hA, _⟩ := fields_33 hsb hc
    have eA : (stepA s x).toNat = a := by omega
    by_cases hz : σ (who * 7 + a) = 0
    · have he : ∀ σ, σ (who * 7 + a) = 0 → eff s x σ who = stopF σ who 2 := fun σ ho => by
        simp only [eff, hc, eA]
        simp [ho]
      rw [he _ hz, stop_frame ho]
    · have he : ∀ σ, ¬ σ (who * 7 + a) = 0 → eff s x σ who = σ := fun σ ho => by
        simp only [eff, hc, eA]
        simp [ho]
      rw [he _ hz]

theorem eff_dep {s : ByteArray} {σ τ : Nat → Int} {who x : Nat} (hsb : stepBad s x = none) (h : ∀ j, ownI who j → σ j = τ j) (hr : ∀ j, rdI s x j → σ j = τ j) : ∀ i, ownI who i ∨ wrI s x i → eff s x σ who i = eff s x τ who i := by
  intro i hi
  have hn : ∀ k, k < 7 → σ (who * 7 + k) = τ (who * 7 + k) := fun k hk => h _ ⟨by omega, by omega⟩
  rcases sign_of hsb with hc | hc | hc | hc | hc | hc | hc | hc | hc | hc
  · obtain ⟨a, b, ha, hb, hA, hB, _⟩ := fields_61 hsb hc
    have eA : (stepA s x).toNat = a := by omega
    have eB : (stepB s x).toNat = b := by omega
    have he : ∀ σ, eff s x σ who = upd σ (who * 7 + a) (b : Int) := fun σ => by
      simp only [eff, hc, eA, eB]
      simp
    have hio : ownI who i := by
      rcases hi with hi | hi
      · exact hi
      · rcases hi with ⟨h1, _⟩ | ⟨h1 | h1, _⟩ <;> (rw [hc] at h1; omega)
    rw [he, he]
    exact upd_dep (rfl) (fun _ => h i hio)
  · obtain ⟨a, b, ha, hb, hA, hB, _⟩ := fields_122 hsb hc
    have eA : (stepA s x).toNat = a := by omega
    have eB : (stepB s x).toNat = b := by omega
    have hio : ownI who i := by
      rcases hi with hi | hi
      · exact hi
      · rcases hi with ⟨h1, _⟩ | ⟨h1 | h1, _⟩ <;> (rw [hc] at h1; omega)
    by_cases hz : σ (who * 7 + a) = 0
    · have he : ∀ σ, σ (who * 7 + a) = 0 → eff s x σ who = upd σ (who * 7 + 4) (b : Int) := fun σ ho => by
        simp only [eff, hc, eA, eB]
        simp [ho]
      rw [he _ hz, he _ ((hn a (by omega)) ▸ hz)]
      exact upd_dep rfl (fun _ => h i hio)
    · have he : ∀ σ, ¬ σ (who * 7 + a) = 0 → eff s x σ who = σ := fun σ ho => by
        simp only [eff, hc, eA, eB]
        simp [ho]
      rw [he _ hz, he _ ((hn a (by omega)) ▸ hz)]
      exact h i hio
  · obtain ⟨a, b, ha, hb, hA, hB, _⟩ := fields_43 hsb hc
    have eA : (stepA s x).toNat = a := by omega
    have eB : (stepB s x).toNat = b := by omega
    have he : ∀ σ, eff s x σ who = upd σ (who * 7 + a) ((σ (who * 7 + a) + σ (who * 7 + b)) % 10) := fun σ => by
      simp only [eff, hc, eA, eB]
      simp
    have hio : ownI who i := by
      rcases hi with hi | hi
      · exact hi
      · rcases hi with ⟨h1, _⟩ | ⟨h1 | h1, _⟩ <;> (rw [hc] at h1; omega)
    rw [he, he]
    exact upd_dep (by rw [hn a (by omega), hn b (by omega)]) (fun _ => h i hio)
  · obtain ⟨a, b, ha, hb, hA, hB, _⟩ := fields_45 hsb hc
    have eA : (stepA s x).toNat = a := by omega
    have eB : (stepB s x).toNat = b := by omega
    have he : ∀ σ, eff s x σ who = upd σ (who * 7 + a) ((σ (who * 7 + a) + 10 - σ (who * 7 + b)) % 10) := fun σ => by
      simp only [eff, hc, eA, eB]
      simp
    have hio : ownI who i := by
      rcases hi with hi | hi
      · exact hi
      · rcases hi with ⟨h1, _⟩ | ⟨h1 | h1, _⟩ <;> (rw [hc] at h1; omega)
    rw [he, he]
    exact upd_dep (by rw [hn a (by omega), hn b (by omega)]) (fun _ => h i hio)
  · obtain ⟨a, b, ha, hb, hA, hB, _⟩ := fields_114 hsb hc
    have eA : (stepA s x).toNat = a := by omega
    have eB : (stepB s x).toNat = b := by omega
    have he : ∀ σ, eff s x σ who = upd σ (who * 7 + a) (σ (21 + b)) := fun σ => by
      simp only [eff, hc, eA, eB]
      simp
    have hio : ownI who i := by
      rcases hi with hi | hi
      · exact hi
      · rcases hi with ⟨h1, _⟩ | ⟨h1 | h1, _⟩ <;> (rw [hc] at h1; omega)
    rw [he, he]
    exact upd_dep (hr _ (.inl ⟨hc, by rw [eB]⟩)) (fun _ => h i hio)
  · obtain ⟨a, b, ha, hb, hA, hB, _⟩ := fields_119 hsb hc
    have eA : (stepA s x).toNat = a := by omega
    have eB : (stepB s x).toNat = b := by omega
    have he : ∀ σ, eff s x σ who = upd σ (21 + a) (σ (who * 7 + b)) := fun σ => by
      simp only [eff, hc, eA, eB]
      simp
    rw [he, he]
    refine upd_dep (hn b (by omega)) (fun hne => ?_)
    rcases hi with hi | hi
    · exact h i hi
    · rcases hi with ⟨_, h2⟩ | ⟨h1 | h1, _⟩
      · rw [eA] at h2; exact absurd h2 hne
      · rw [hc] at h1; omega
      · rw [hc] at h1; omega
  · obtain ⟨a, ha, hA, _⟩ := fields_108 hsb hc
    have eA : (stepA s x).toNat = a := by omega
    have he : ∀ σ, eff s x σ who = upd σ (24 + a) ((who : Int) + 1) := fun σ => by
      simp only [eff, hc, eA]
      simp
    rw [he, he]
    refine upd_dep rfl (fun hne => ?_)
    rcases hi with hi | hi
    · exact h i hi
    · rcases hi with ⟨h1, _⟩ | ⟨_, h2⟩
      · rw [hc] at h1; omega
      · rw [eA] at h2; exact absurd h2 hne
  · obtain ⟨a, ha, hA, _⟩ := fields_117 hsb hc
    have eA : (stepA s x).toNat = a := by omega
    have hl : σ (24 + a) = τ (24 + a) := hr _ (.inr ⟨.inr hc, by rw [eA]⟩)
    have hio : σ i = τ i := by
      rcases hi with hi | hi
      · exact h i hi
      · rcases hi with ⟨h1, _⟩ | ⟨_, h2⟩
        · rw [hc] at h1; omega
        · rw [eA] at h2; rw [h2]; exact hl
    by_cases hz : σ (24 + a) = (who : Int) + 1
    · have he : ∀ σ, σ (24 + a) = (who : Int) + 1 → eff s x σ who = upd σ (24 + a) 0 := fun σ ho => by
        simp only [eff, hc, eA]
        simp [ho]
      rw [he _ hz, he _ (hl ▸ hz)]
      exact upd_dep rfl (fun _ => hio)
    · have he : ∀ σ, ¬ σ (24 + a) = (who : Int) + 1 → eff s x σ who = stopF σ who 1 := fun σ ho => by
        simp only [eff, hc, eA]
        simp [ho]
      rw [he _ hz, he _ (hl ▸ hz)]
      exact stop_dep h hio
  · obtain ⟨a, ha, hA, _⟩ := fields_106 hsb hc
    have eA : (stepA s x).toNat = a := by omega
    have he : ∀ σ, eff s x σ who = upd σ (who * 7 + 4) (a : Int) := fun σ => by
      simp only [eff, hc, eA]
      simp
    have hio : ownI who i := by
      rcases hi with hi | hi
      · exact hi
      · rcases hi with ⟨h1, _⟩ | ⟨h1 | h1, _⟩ <;> (rw [hc] at h1; omega)
    rw [he, he]
    exact upd_dep (rfl) (fun _ => h i hio)
  · obtain ⟨a, ha, hA, _⟩ := fields_33 hsb hc
    have eA : (stepA s x).toNat = a := by omega
    have hio : ownI who i := by
      rcases hi with hi | hi
      · exact hi
      · rcases hi with ⟨h1, _⟩ | ⟨h1 | h1, _⟩ <;> (rw [hc] at h1; omega)
    by_cases hz : σ (who * 7 + a) = 0
    · have he : ∀ σ, σ (who * 7 + a) = 0 → eff s x σ who = stopF σ who 2 := fun σ ho => by
        simp only [eff, hc, eA]
        simp [ho]
      rw [he _ hz, he _ ((hn a (by omega)) ▸ hz)]
      exact stop_dep h (h i hio)
    · have he : ∀ σ, ¬ σ (who * 7 + a) = 0 → eff s x σ who = σ := fun σ ho => by
        simp only [eff, hc, eA]
        simp [ho]
      rw [he _ hz, he _ ((hn a (by omega)) ▸ hz)]
      exact h i hio

theorem rd_not_own {s : ByteArray} {who x j : Nat} (hsb : stepBad s x = none) (hw : who < 3) (h : rdI s x j) : ¬ ownI who j := by
  intro ho
  obtain ⟨h1, h2⟩ := ho
  rcases h with ⟨_, h⟩ | ⟨_, h⟩ <;> omega
theorem wr_not_own {s : ByteArray} {who x j : Nat} (hw : who < 3) (h : wrI s x j) : ¬ ownI who j := by
  intro ho
  obtain ⟨h1, h2⟩ := ho
  rcases h with ⟨_, h⟩ | ⟨_, h⟩ <;> omega
/-- What a turn of who at the step x changes; what it hangs on. -/
theorem turn_frame {s : ByteArray} {L : List (List Nat)} {σ : Nat → Int} {who i : Nat} (hsb : stepBad s (stp L σ who) = none) (ho : ¬ ownI who i) (hw : ¬ wrI s (stp L σ who) i) : turnF s L σ who i = σ i := by
  unfold turnF
  rw [eff_frame hsb ho hw, pre_frame ho]
theorem stp_dep {L : List (List Nat)} {σ τ : Nat → Int} {who : Nat} (h : ∀ j, ownI who j → σ j = τ j) : stp L σ who = stp L τ who := by
  unfold stp nx; rw [h _ ⟨by omega, by omega⟩]
theorem turn_dep {s : ByteArray} {L : List (List Nat)} {σ τ : Nat → Int} {who : Nat} (hsb : stepBad s (stp L σ who) = none) (h : ∀ j, ownI who j → σ j = τ j) (hr : ∀ j, rdI s (stp L σ who) j → σ j = τ j) :
    ∀ i, ownI who i ∨ wrI s (stp L σ who) i → turnF s L σ who i = turnF s L τ who i := by
  intro i hi
  unfold turnF
  rw [← stp_dep (L := L) h]
  exact eff_dep hsb (fun j hj => pre_dep h (h j hj)) (fun j hj => pre_dep h (hr j hj)) i hi
theorem may_dep {s : ByteArray} {L : List (List Nat)} {σ τ : Nat → Int} {who : Nat} (h : ∀ j, ownI who j → σ j = τ j) (hr : ∀ j, rdI s (stp L σ who) j → σ j = τ j) : mayB s L σ who = mayB s L τ who := by
  unfold mayB
  have hn : ∀ k, k < 7 → σ (who * 7 + k) = τ (who * 7 + k) := fun k hk => h _ ⟨by omega, by omega⟩
  have hw : waitsB s L σ who = waitsB s L τ who := by
    unfold waitsB
    rw [← stp_dep (L := L) h]
    by_cases hc : pk s (stp L σ who) = 108
    · rw [hr _ (.inr ⟨.inl hc, rfl⟩)]
    · have hb : (pk s (stp L σ who) == 108) = false := by simpa using hc
      rw [hb]; rfl
  rw [hn 6 (by omega), hn 4 (by omega), hn 5 (by omega), hw]

/-- Steps that have nothing to do with one another: neither writes what the other reads or writes. -/
theorem free_rd {s : ByteArray} {n x m y : Nat} (hx : stepBad s x = none) (hy : stepBad s y = none) (hb : boundB s n x m y = false) : (∀ j, rdI s y j → ¬ wrI s x j) ∧ (∀ j, rdI s x j → ¬ wrI s y j) ∧ (∀ j, wrI s x j → ¬ wrI s y j) := by
  have cx : pk s x = 119 → cellOf s x = stepA s x ∧ isW s x = true := fun h => by simp [cellOf, isW, h]
  have cy : pk s y = 119 → cellOf s y = stepA s y ∧ isW s y = true := fun h => by simp [cellOf, isW, h]
  have rx : pk s x = 114 → cellOf s x = stepB s x := fun h => by simp [cellOf, h]
  have ry : pk s y = 114 → cellOf s y = stepB s y := fun h => by simp [cellOf, h]
  have lx : (pk s x = 108 ∨ pk s x = 117) → lockOf s x = stepA s x := fun h => by simp [lockOf, h]
  have ly : (pk s y = 108 ∨ pk s y = 117) → lockOf s y = stepA s y := fun h => by simp [lockOf, h]
  have ax : pk s x = 119 → ∃ a : Nat, a < 3 ∧ stepA s x = a := fun h => by obtain ⟨a, b, ha, _, hA, _⟩ := fields_119 hx h; exact ⟨a, ha, hA⟩
  have ay : pk s y = 119 → ∃ a : Nat, a < 3 ∧ stepA s y = a := fun h => by obtain ⟨a, b, ha, _, hA, _⟩ := fields_119 hy h; exact ⟨a, ha, hA⟩
  have bx : pk s x = 114 → ∃ a : Nat, a < 3 ∧ stepB s x = a := fun h => by obtain ⟨a, b, _, hb, _, hB, _⟩ := fields_114 hx h; exact ⟨b, hb, hB⟩
  have by' : pk s y = 114 → ∃ a : Nat, a < 3 ∧ stepB s y = a := fun h => by obtain ⟨a, b, _, hb, _, hB, _⟩ := fields_114 hy h; exact ⟨b, hb, hB⟩
  have kx : (pk s x = 108 ∨ pk s x = 117) → ∃ a : Nat, a < 2 ∧ stepA s x = a := fun h => by
    rcases h with h | h
    · obtain ⟨a, ha, hA, _⟩ := fields_108 hx h; exact ⟨a, ha, hA⟩
    · obtain ⟨a, ha, hA, _⟩ := fields_117 hx h; exact ⟨a, ha, hA⟩
  have ky : (pk s y = 108 ∨ pk s y = 117) → ∃ a : Nat, a < 2 ∧ stepA s y = a := fun h => by
    rcases h with h | h
    · obtain ⟨a, ha, hA, _⟩ := fields_108 hy h; exact ⟨a, ha, hA⟩
    · obtain ⟨a, ha, hA, _⟩ := fields_117 hy h; exact ⟨a, ha, hA⟩
  unfold boundB at hb
  simp only [Bool.or_eq_false_iff, Bool.and_eq_false_iff, decide_eq_false_iff_not, beq_eq_false_iff_ne, ne_eq] at hb
  obtain ⟨⟨_, hcell⟩, hlock⟩ := hb
  have noLock : (pk s x = 108 ∨ pk s x = 117) → (pk s y = 108 ∨ pk s y = 117) → (stepA s x).toNat ≠ (stepA s y).toNat := fun h1 h2 e => by
    obtain ⟨a, _, e1⟩ := kx h1
    obtain ⟨b, _, e2⟩ := ky h2
    rw [lx h1, ly h2] at hlock
    rcases hlock with h | h <;> omega
  refine ⟨fun j hr hw => ?_, fun j hr hw => ?_, fun j hr hw => ?_⟩
  · rcases hr with ⟨h1, e1⟩ | ⟨h1, e1⟩ <;> rcases hw with ⟨h2, e2⟩ | ⟨h2, e2⟩
    · obtain ⟨a, _, f1⟩ := by' h1
      obtain ⟨b, _, f2⟩ := ax h2
      rw [ry h1, (cx h2).1, (cx h2).2] at hcell
      rcases hcell with (h | h) | h
      · omega
      · omega
      · simp at h
    · obtain ⟨a, _, f1⟩ := by' h1
      obtain ⟨b, _, f2⟩ := kx h2
      omega
    · obtain ⟨a, _, f1⟩ := ky h1
      obtain ⟨b, _, f2⟩ := ax h2
      omega
    · exact noLock h2 h1 (by omega)
  · rcases hr with ⟨h1, e1⟩ | ⟨h1, e1⟩ <;> rcases hw with ⟨h2, e2⟩ | ⟨h2, e2⟩
    · obtain ⟨a, _, f1⟩ := bx h1
      obtain ⟨b, _, f2⟩ := ay h2
      rw [rx h1, (cy h2).1, (cy h2).2] at hcell
      rcases hcell with (h | h) | h
      · omega
      · omega
      · simp at h
    · obtain ⟨a, _, f1⟩ := bx h1
      obtain ⟨b, _, f2⟩ := ky h2
      omega
    · obtain ⟨a, _, f1⟩ := kx h1
      obtain ⟨b, _, f2⟩ := ay h2
      omega
    · exact noLock h1 h2 (by omega)
  · rcases hr with ⟨h1, e1⟩ | ⟨h1, e1⟩ <;> rcases hw with ⟨h2, e2⟩ | ⟨h2, e2⟩
    · obtain ⟨a, _, f1⟩ := ax h1
      obtain ⟨b, _, f2⟩ := ay h2
      rw [(cx h1).1, (cx h1).2, (cy h2).1] at hcell
      rcases hcell with (h | h) | h
      · omega
      · omega
      · simp at h
    · obtain ⟨a, _, f1⟩ := ax h1
      obtain ⟨b, _, f2⟩ := ky h2
      omega
    · obtain ⟨a, _, f1⟩ := kx h1
      obtain ⟨b, _, f2⟩ := ay h2
      omega
    · exact noLock h1 h2 (by omega)

/-- Two turns that have nothing to do with one another change their order. -/
theorem swap_turns {s : ByteArray} {L : List (List Nat)} {σ : Nat → Int} {n m : Nat} (hP : PL s L) (hO : Ok L σ) (hn : n < L.length) (hm : m < L.length) (h1 : mayB s L σ n = true) (h2 : mayB s L (turnF s L σ n) m = true)
    (hb : boundB s n (stp L σ n) m (stp L (turnF s L σ n) m) = false) :
    mayB s L σ m = true ∧ mayB s L (turnF s L σ m) n = true ∧ turnF s L (turnF s L σ m) n = turnF s L (turnF s L σ n) m := by
  have h3 := hP.three
  have hO1 := ok_turn hP hO hn h1
  have hx : stepBad s (stp L σ n) = none := hP.good _ (List.getElem_mem hn) _ (stp_mem h3 hO hn h1)
  have hy : stepBad s (stp L (turnF s L σ n) m) = none := hP.good _ (List.getElem_mem hm) _ (stp_mem h3 hO1 hm h2)
  have hne : n ≠ m := fun e => by
    unfold boundB at hb
    simp [e] at hb
  have own_ne : ∀ j, ownI n j → ¬ ownI m j := fun j h h' => by
    obtain ⟨a, b⟩ := h
    obtain ⟨c, d⟩ := h'
    omega
  obtain ⟨f1, f2, f3⟩ := free_rd hx hy hb
  -- what the first turn leaves of the second thread
  have hA : ∀ j, ownI m j → turnF s L σ n j = σ j := fun j hj => turn_frame hx (fun h => own_ne j h hj) (fun h => wr_not_own (by omega) h hj)
  have es : stp L (turnF s L σ n) m = stp L σ m := stp_dep hA
  rw [es] at hy hb f1 f2 f3
  have hR : ∀ j, rdI s (stp L σ m) j → turnF s L σ n j = σ j := fun j hj => turn_frame hx (rd_not_own hy (by omega) hj) (f1 j hj)
  have hm0 : mayB s L σ m = true := by
    rw [← h2]
    exact may_dep (fun j hj => (hA j hj).symm) (fun j hj => (hR j hj).symm)
  -- what the second leaves of the first
  have hA' : ∀ j, ownI n j → turnF s L σ m j = σ j := fun j hj => turn_frame hy (fun h => own_ne j hj h) (fun h => wr_not_own (by omega) h hj)
  have hR' : ∀ j, rdI s (stp L σ n) j → turnF s L σ m j = σ j := fun j hj => turn_frame hy (rd_not_own hx (by omega) hj) (f2 j hj)
  have es' : stp L (turnF s L σ m) n = stp L σ n := stp_dep hA'
  refine ⟨hm0, ?_, ?_⟩
  · rw [← h1]
    exact (may_dep (fun j hj => (hA' j hj).symm) (fun j hj => (hR' j hj).symm)).symm
  · funext i
    by_cases hi : ownI n i ∨ wrI s (stp L σ n) i
    · have e1 : turnF s L σ n i = turnF s L (turnF s L σ m) n i := turn_dep hx (fun j hj => (hA' j hj).symm) (fun j hj => (hR' j hj).symm) i hi
      have e2 : turnF s L (turnF s L σ n) m i = turnF s L σ n i := turn_frame (by rw [es]; exact hy) (fun h => by
          rcases hi with hi | hi
          · exact own_ne i hi h
          · exact wr_not_own (by omega) hi h) (fun h => by
          rw [es] at h
          rcases hi with hi | hi
          · exact wr_not_own (by omega) h hi
          · exact f3 i hi h)
      rw [e2, ← e1]
    · by_cases hj : ownI m i ∨ wrI s (stp L σ m) i
      · have e1 : turnF s L σ m i = turnF s L (turnF s L σ n) m i := turn_dep hy (fun j hj => (hA j hj).symm) (fun j hj => (hR j hj).symm) i hj
        have e2 : turnF s L (turnF s L σ m) n i = turnF s L σ m i := turn_frame (by rw [es']; exact hx) (fun h => hi (.inl h)) (fun h => by rw [es'] at h; exact hi (.inr h))
        rw [e2, e1]
      · have e1 : turnF s L (turnF s L σ m) n i = turnF s L σ m i := turn_frame (by rw [es']; exact hx) (fun h => hi (.inl h)) (fun h => by rw [es'] at h; exact hi (.inr h))
        have e2 : turnF s L (turnF s L σ n) m i = turnF s L σ n i := turn_frame (by rw [es]; exact hy) (fun h => hj (.inl h)) (fun h => by rw [es] at h; exact hj (.inr h))
        rw [e1, e2, turn_frame hy (fun h => hj (.inl h)) (fun h => hj (.inr h)), turn_frame hx (fun h => hi (.inl h)) (fun h => hi (.inr h))]

theorem eff_fuel {s : ByteArray} {σ : Nat → Int} {who x i : Nat} (hsb : stepBad s x = none) (hi : i % 7 = 5) : eff s x σ who i = σ i := by
  rcases sign_of hsb with hc | hc | hc | hc | hc | hc | hc | hc | hc | hc
  · obtain ⟨a, b, ha, hb, hA, hB, _⟩ := fields_61 hsb hc
    have eA : (stepA s x).toNat = a := by omega
    have eB : (stepB s x).toNat = b := by omega
    have he : ∀ σ, eff s x σ who = upd σ (who * 7 + a) (b : Int) := fun σ => by
      simp only [eff, hc, eA, eB]
      simp
    rw [he, upd_other _ _ (by omega)]
  · obtain ⟨a, b, ha, hb, hA, hB, _⟩ := fields_122 hsb hc
    have eA : (stepA s x).toNat = a := by omega
    have eB : (stepB s x).toNat = b := by omega
    by_cases hz : σ (who * 7 + a) = 0
    · have he : ∀ σ, σ (who * 7 + a) = 0 → eff s x σ who = upd σ (who * 7 + 4) (b : Int) := fun σ ho => by
        simp only [eff, hc, eA, eB]
        simp [ho]
      rw [he _ hz, upd_other _ _ (by omega)]
    · have he : ∀ σ, ¬ σ (who * 7 + a) = 0 → eff s x σ who = σ := fun σ ho => by
        simp only [eff, hc, eA, eB]
        simp [ho]
      rw [he _ hz]
  · obtain ⟨a, b, ha, hb, hA, hB, _⟩ := fields_43 hsb hc
    have eA : (stepA s x).toNat = a := by omega
    have eB : (stepB s x).toNat = b := by omega
    have he : ∀ σ, eff s x σ who = upd σ (who * 7 + a) ((σ (who * 7 + a) + σ (who * 7 + b)) % 10) := fun σ => by
      simp only [eff, hc, eA, eB]
      simp
    rw [he, upd_other _ _ (by omega)]
  · obtain ⟨a, b, ha, hb, hA, hB, _⟩ := fields_45 hsb hc
    have eA : (stepA s x).toNat = a := by omega
    have eB : (stepB s x).toNat = b := by omega
    have he : ∀ σ, eff s x σ who = upd σ (who * 7 + a) ((σ (who * 7 + a) + 10 - σ (who * 7 + b)) % 10) := fun σ => by
      simp only [eff, hc, eA, eB]
      simp
    rw [he, upd_other _ _ (by omega)]
  · obtain ⟨a, b, ha, hb, hA, hB, _⟩ := fields_114 hsb hc
    have eA : (stepA s x).toNat = a := by omega
    have eB : (stepB s x).toNat = b := by omega
    have he : ∀ σ, eff s x σ who = upd σ (who * 7 + a) (σ (21 + b)) := fun σ => by
      simp only [eff, hc, eA, eB]
      simp
    rw [he, upd_other _ _ (by omega)]
  · obtain ⟨a, b, ha, hb, hA, hB, _⟩ := fields_119 hsb hc
    have eA : (stepA s x).toNat = a := by omega
    have eB : (stepB s x).toNat = b := by omega
    have he : ∀ σ, eff s x σ who = upd σ (21 + a) (σ (who * 7 + b)) := fun σ => by
      simp only [eff, hc, eA, eB]
      simp
    rw [he, upd_other _ _ (by omega)]
  · obtain ⟨a, ha, hA, _⟩ := fields_108 hsb hc
    have eA : (stepA s x).toNat = a := by omega
    have he : ∀ σ, eff s x σ who = upd σ (24 + a) ((who : Int) + 1) := fun σ => by
      simp only [eff, hc, eA]
      simp
    rw [he, upd_other _ _ (by omega)]
  · obtain ⟨a, ha, hA, _⟩ := fields_117 hsb hc
    have eA : (stepA s x).toNat = a := by omega
    by_cases hz : σ (24 + a) = (who : Int) + 1
    · have he : ∀ σ, σ (24 + a) = (who : Int) + 1 → eff s x σ who = upd σ (24 + a) 0 := fun σ ho => by
        simp only [eff, hc, eA]
        simp [ho]
      rw [he _ hz, upd_other _ _ (by omega)]
    · have he : ∀ σ, ¬ σ (24 + a) = (who : Int) + 1 → eff s x σ who = stopF σ who 1 := fun σ ho => by
        simp only [eff, hc, eA]
        simp [ho]
      rw [he _ hz, stopF, upd_other _ _ (by omega), upd_other _ _ (by omega)]
  · obtain ⟨a, ha, hA, _⟩ := fields_106 hsb hc
    have eA : (stepA s x).toNat = a := by omega
    have he : ∀ σ, eff s x σ who = upd σ (who * 7 + 4) (a : Int) := fun σ => by
      simp only [eff, hc, eA]
      simp
    rw [he, upd_other _ _ (by omega)]
  · obtain ⟨a, ha, hA, _⟩ := fields_33 hsb hc
    have eA : (stepA s x).toNat = a := by omega
    by_cases hz : σ (who * 7 + a) = 0
    · have he : ∀ σ, σ (who * 7 + a) = 0 → eff s x σ who = stopF σ who 2 := fun σ ho => by
        simp only [eff, hc, eA]
        simp [ho]
      rw [he _ hz, stopF, upd_other _ _ (by omega), upd_other _ _ (by omega)]
    · have he : ∀ σ, ¬ σ (who * 7 + a) = 0 → eff s x σ who = σ := fun σ ho => by
        simp only [eff, hc, eA]
        simp [ho]
      rw [he _ hz]

/-- All the fuel that is left. -/
def fuelOf (σ : Nat → Int) : Int := σ 5 + σ 12 + σ 19
theorem turn_fuel {s : ByteArray} {L : List (List Nat)} {σ : Nat → Int} {who : Nat} (hsb : stepBad s (stp L σ who) = none) (hw : who < 3) : fuelOf (turnF s L σ who) = fuelOf σ - 1 := by
  unfold fuelOf turnF
  rw [eff_fuel (i := 5) hsb (by omega), eff_fuel (i := 12) hsb (by omega), eff_fuel (i := 19) hsb (by omega)]
  generalize stp L σ who = x at hsb
  clear hsb
  unfold pre
  rcases (show who = 0 ∨ who = 1 ∨ who = 2 from by omega) with h | h | h <;> subst h <;> simp [upd] <;> omega
end Go.Proofs.Ytifidfgihpkgcaa.Wv

set_option linter.unusedSimpArgs false
set_option linter.unusedVariables false
namespace Go.Proofs.Ytifidfgihpkgcaa.Wv

/-- The thread that the row's sign at i names; the states along a row. -/
def whoAt (row : ByteArray) (i : Nat) : Nat := (pk row i - 48).toNat
def stFrom (s : ByteArray) (L : List (List Nat)) (row : ByteArray) (i : Nat) (σ : Nat → Int) : Nat → (Nat → Int)
  | 0 => σ
  | j + 1 => turnF s L (stFrom s L row i σ j) (whoAt row (i + j))
variable {s : ByteArray} {L : List (List Nat)} {row row' : ByteArray}
theorem stFrom_shift (i : Nat) (σ : Nat → Int) : ∀ j, stFrom s L row i σ (j + 1) = stFrom s L row (i + 1) (turnF s L σ (whoAt row i)) j
  | 0 => rfl
  | j + 1 => by
    rw [stFrom, stFrom_shift i σ j, stFrom, show i + (j + 1) = i + 1 + j from by omega]
theorem run_iff : ∀ (n i : Nat) (σ : Nat → Int) (t : ByteArray), runRow s L row n i σ = (t, 0, 0) ↔ (∀ j, j < n → goes s L row (i + j) (stFrom s L row i σ j) = true) ∧ overB s L (stFrom s L row i σ n) = true ∧ t = txt (wayL L (stFrom s L row i σ n))
  | 0, i, σ, t => by
    rw [runRow, stFrom]
    cases overB s L σ with
    | true =>
      rw [if_pos rfl]
      constructor
      · intro h
        simp at h
        exact ⟨fun j hj => absurd hj (by omega), rfl, h.symm⟩
      · intro h
        rw [h.2.2]
    | false => simp
  | n + 1, i, σ, t => by
    rw [runRow]
    cases hg : goes s L row i σ with
    | false =>
      constructor
      · intro h
        simp at h
      · intro h
        have := h.1 0 (by omega)
        rw [Nat.add_zero, stFrom, hg] at this
        cases this
    | true =>
      rw [if_pos rfl, run_iff n (i + 1) _ t]
      have e : ∀ j, stFrom s L row (i + 1) (turnF s L σ (pk row i - 48).toNat) j = stFrom s L row i σ (j + 1) := fun j => (stFrom_shift i σ j).symm
      rw [e n]
      constructor
      · intro h
        refine ⟨fun j hj => ?_, h.2⟩
        cases j with
        | zero => exact hg
        | succ j =>
          have := h.1 j (by omega)
          rw [e j, show i + 1 + j = i + (j + 1) from by omega] at this
          exact this
      · intro h
        refine ⟨fun j hj => ?_, h.2⟩
        have := h.1 (j + 1) (by omega)
        rw [e j, show i + 1 + j = i + (j + 1) from by omega]
        exact this
theorem st_ok (hP : PL s L) {σ : Nat → Int} (hO : Ok L σ) (i : Nat) : ∀ n, (∀ j, j < n → goes s L row (i + j) (stFrom s L row i σ j) = true) → Ok L (stFrom s L row i σ n)
  | 0, _ => hO
  | n + 1, h => by
    have h1 := st_ok hP hO i n (fun j hj => h j (by omega))
    obtain ⟨who, e1, e2, e3⟩ := goes_out (h n (by omega))
    rw [stFrom, show whoAt row (i + n) = who from by unfold whoAt; omega]
    exact ok_turn hP h1 e2 e3
theorem goes_mk {i who : Nat} {σ : Nat → Int} (h1 : pk row i = 48 + (who : Int)) (h2 : who < L.length) (h3 : mayB s L σ who = true) : goes s L row i σ = true := by
  unfold goes
  rw [show (pk row i - 48).toNat = who from by omega, h3]
  simp; omega

/-- Rows that differ in the order of two signs. -/
structure Swaps (row row' : ByteArray) (k : Nat) : Prop where
  size : row'.size = row.size
  lt : k + 1 < row.size
  one : pk row' k = pk row (k + 1)
  two : pk row' (k + 1) = pk row k
  rest : ∀ j, j ≠ k → j ≠ k + 1 → pk row' j = pk row j

theorem goes_pk {i : Nat} {σ : Nat → Int} (h : pk row' i = pk row i) : goes s L row' i σ = goes s L row i σ := by unfold goes; rw [h]

theorem swap_run (hP : PL s L) {σ : Nat → Int} (hO : Ok L σ) {k : Nat} (h : Swaps row row' k) {t : ByteArray} (hr : runRow s L row row.size 0 σ = (t, 0, 0))
    (hb : boundB s (whoAt row k) (stp L (stFrom s L row 0 σ k) (whoAt row k)) (whoAt row (k + 1)) (stp L (stFrom s L row 0 σ (k + 1)) (whoAt row (k + 1))) = false) :
    runRow s L row' row'.size 0 σ = (t, 0, 0) := by
  rw [run_iff] at hr ⊢
  simp only [Nat.zero_add] at hr ⊢
  rw [h.size]
  obtain ⟨hg, ho, ht⟩ := hr
  have hlt := h.lt
  have hok : ∀ n, n ≤ row.size → Ok L (stFrom s L row 0 σ n) := fun n hn => st_ok hP hO 0 n (fun j hj => by rw [Nat.zero_add]; exact hg j (by omega))
  have w1 : ∀ j, j ≠ k → j ≠ k + 1 → whoAt row' j = whoAt row j := fun j h1 h2 => by unfold whoAt; rw [h.rest j h1 h2]
  have ahead : ∀ j, j ≤ k → stFrom s L row' 0 σ j = stFrom s L row 0 σ j := by
    intro j
    induction j with
    | zero => intro _; rfl
    | succ j ih =>
      intro hj
      rw [stFrom, stFrom, ih (by omega), Nat.zero_add, w1 j (by omega) (by omega)]
  obtain ⟨n, n1, n2, n3⟩ := goes_out (hg k (by omega))
  obtain ⟨m, m1, m2, m3⟩ := goes_out (hg (k + 1) (by omega))
  have wn : whoAt row k = n := by unfold whoAt; omega
  have wm : whoAt row (k + 1) = m := by unfold whoAt; omega
  have wn' : whoAt row' (k + 1) = n := by unfold whoAt; rw [h.two]; omega
  have wm' : whoAt row' k = m := by unfold whoAt; rw [h.one]; omega
  have e1 : stFrom s L row 0 σ (k + 1) = turnF s L (stFrom s L row 0 σ k) n := by rw [stFrom, Nat.zero_add, wn]
  rw [wn, wm, e1] at hb
  rw [e1] at m3
  obtain ⟨s1, s2, s3⟩ := swap_turns hP (hok k (by omega)) n2 m2 n3 m3 hb
  have f1 : stFrom s L row' 0 σ (k + 1) = turnF s L (stFrom s L row 0 σ k) m := by rw [stFrom, Nat.zero_add, wm', ahead k (Nat.le_refl _)]
  have f2 : stFrom s L row' 0 σ (k + 2) = stFrom s L row 0 σ (k + 2) := by
    have g1 : stFrom s L row' 0 σ (k + 2) = turnF s L (stFrom s L row' 0 σ (k + 1)) (whoAt row' (0 + (k + 1))) := rfl
    have g2 : stFrom s L row 0 σ (k + 2) = turnF s L (stFrom s L row 0 σ (k + 1)) (whoAt row (0 + (k + 1))) := rfl
    rw [g1, g2, f1, e1, Nat.zero_add, wn', wm, s3]
  have behind : ∀ d, stFrom s L row' 0 σ (k + 2 + d) = stFrom s L row 0 σ (k + 2 + d) := by
    intro d
    induction d with
    | zero => exact f2
    | succ d ih =>
      rw [show k + 2 + (d + 1) = (k + 2 + d) + 1 from by omega, stFrom, stFrom, ih, Nat.zero_add, w1 _ (by omega) (by omega)]
  have eqAt : ∀ j, j ≠ k + 1 → stFrom s L row' 0 σ j = stFrom s L row 0 σ j := fun j hj => by
    rcases Nat.lt_or_ge k j with h1 | h1
    · rw [show j = k + 2 + (j - (k + 2)) from by omega]; exact behind _
    · exact ahead j h1
  refine ⟨fun j hj => ?_, ?_, ?_⟩
  · by_cases h1 : j = k
    · rw [h1, ahead k (Nat.le_refl _)]
      exact goes_mk (by rw [h.one]; exact m1) m2 s1
    · by_cases h2 : j = k + 1
      · rw [h2, f1]
        exact goes_mk (by rw [h.two]; exact n1) n2 s2
      · rw [eqAt j h2, goes_pk (h.rest j h1 h2)]
        exact hg j hj
  · rw [eqAt _ (by omega)]; exact ho
  · rw [eqAt _ (by omega)]; exact ht

theorem st_fuel (hP : PL s L) {σ : Nat → Int} (hO : Ok L σ) (i : Nat) : ∀ n, (∀ j, j < n → goes s L row (i + j) (stFrom s L row i σ j) = true) → fuelOf (stFrom s L row i σ n) = fuelOf σ - (n : Int)
  | 0, _ => by rw [stFrom]; omega
  | n + 1, h => by
    have h1 := st_ok hP hO i n (fun j hj => h j (by omega))
    have h2 := st_fuel hP hO i n (fun j hj => h j (by omega))
    obtain ⟨who, e1, e2, e3⟩ := goes_out (h n (by omega))
    rw [stFrom, show whoAt row (i + n) = who from by unfold whoAt; omega, turn_fuel (hP.good _ (List.getElem_mem e2) _ (stp_mem hP.three h1 e2 e3)) (by have := hP.three; omega), h2]
    omega
/-- A row that can be played is short. -/
theorem run_short (hP : PL s L) {σ : Nat → Int} (hO : Ok L σ) {t : ByteArray} (hr : runRow s L row row.size 0 σ = (t, 0, 0)) : (row.size : Int) ≤ fuelOf σ := by
  rw [run_iff] at hr
  have h1 := st_fuel hP hO 0 row.size hr.1
  have h2 := (st_ok hP hO 0 row.size hr.1).st.inv
  have a := h2 5 (by omega)
  have b := h2 12 (by omega)
  have c := h2 19 (by omega)
  unfold fuelOf at h1 ⊢
  omega
end Go.Proofs.Ytifidfgihpkgcaa.Wv

set_option linter.unusedSimpArgs false
set_option linter.unusedVariables false
namespace Go.Proofs.Ytifidfgihpkgcaa
open Go.RowKit Wv

set_option maxHeartbeats 400000 in
theorem good_any (s : ByteArray) (fuel : Int) (w : World) (hm : s.size ≤ maxLen) :
    Calls Try.prog 11 #[.string s, .int .i64 fuel] w fun e w' => e = .returned (.bool ((givB s fuel).1 == 0)) ∧ w.grownBy w' none := by
  have HG : Hid _ := rGiven_any s fuel w hm
  clear hm
  generalize (givB s fuel).1 = e at *
  generalize (givB s fuel).2 = p at *
  go_enter Try.func11, Try.ntmps11
  go_wp2_with (go_at_call 23; go_must (refine Calls.mono HG.out ?_; rintro e1 w1 ⟨rfl, hg⟩))
  go_ret
  exact ⟨rfl, hg⟩

/-- A step of the document, as a value. -/
def stepV (c A B At : Int) : Value := .agg #[.int .u8 c, .int .i64 A, .int .i64 B, .int .i64 At]

set_option maxHeartbeats 400000 in
theorem rcell_any (s : ByteArray) (x : Nat) (At : Int) (w : World) :
    Calls Try.prog 28 #[.agg #[.int .u8 (pk s x), .int .i64 (stepA s x), .int .i64 (stepB s x), .int .i64 At]] w fun e w' => e = .returned (.tuple #[.int .i64 (cellOf s x), .bool (isW s x)]) ∧ w.grownBy w' none := by
  unfold cellOf isW
  generalize stepA s x = A
  generalize stepB s x = B
  generalize pk s x = c
  by_cases h1 : c = 114
  · subst h1
    rw [if_pos rfl]
    go_enter Try.func28, Try.ntmps28
    go_wp2_with fail
    go_ret2
    exact ⟨rfl, World.grownBy_alloc _ _ _⟩
  · rw [if_neg h1]
    have b1 : (c == 114) = false := by simpa using h1
    by_cases h2 : c = 119
    · subst h2
      rw [if_pos rfl]
      clear b1 h1
      go_enter Try.func28, Try.ntmps28
      go_wp2_with fail
      go_ret2
      exact ⟨rfl, World.grownBy_alloc _ _ _⟩
    · rw [if_neg h2]
      have b2 : (c == 119) = false := by simpa using h2
      rw [b2]
      clear h1 h2
      go_enter Try.func28, Try.ntmps28
      go_wp2_with fail
      go_ret2
      exact ⟨rfl, World.grownBy_alloc _ _ _⟩

set_option maxHeartbeats 400000 in
theorem rlock_any (s : ByteArray) (x : Nat) (At : Int) (w : World) :
    Calls Try.prog 29 #[.agg #[.int .u8 (pk s x), .int .i64 (stepA s x), .int .i64 (stepB s x), .int .i64 At]] w fun e w' => e = .returned (.int .i64 (lockOf s x)) ∧ w.grownBy w' none := by
  unfold lockOf
  generalize stepA s x = A
  generalize stepB s x = B
  generalize pk s x = c
  by_cases h1 : c = 108
  · subst h1
    rw [if_pos (.inl rfl)]
    go_enter Try.func29, Try.ntmps29
    go_wp2_with fail
    go_ret
    exact ⟨rfl, World.grownBy_alloc _ _ _⟩
  · have b1 : (c == 108) = false := by simpa using h1
    by_cases h2 : c = 117
    · subst h2
      rw [if_pos (.inr rfl)]
      clear b1 h1
      go_enter Try.func29, Try.ntmps29
      go_wp2_with fail
      go_ret
      exact ⟨rfl, World.grownBy_alloc _ _ _⟩
    · rw [if_neg (by omega)]
      have b2 : (c == 117) = false := by simpa using h2
      clear h1 h2
      go_enter Try.func29, Try.ntmps29
      go_wp2_with fail
      go_ret
      exact ⟨rfl, World.grownBy_alloc _ _ _⟩

theorem blk5 {w : World} {b : Nat} {v0 v1 v2 v3 v4 : Value} {t : TypeId} (h : w.heap[b]? = some (.cells #[v0, v1, v2, v3, v4] t (0, 0))) :
    w.cell? ⟨b, 0, none⟩ = some v0 ∧ w.cell? ⟨b, 1, none⟩ = some v1 ∧ w.cell? ⟨b, 2, none⟩ = some v2 ∧ w.cell? ⟨b, 3, none⟩ = some v3 ∧ w.cell? ⟨b, 4, none⟩ = some v4 := by
  refine ⟨?_, ?_, ?_, ?_, ?_⟩ <;> simp [World.cell?, h]
/-- Two boxes stand. -/
structure B2 (w : World) (A B : Obj) (W : World) : Prop where
  one : W.heap[w.heap.size]? = some A
  two : W.heap[w.heap.size + 1]? = some B
  grown : w.grownBy W none
theorem B2.start (w : World) (A B : Obj) : B2 w A B ((w.alloc A).alloc B) := ⟨(heap2 _ _ _).1, (heap2 _ _ _).2, grown2 _ _ _⟩
theorem B2.later {w W W' : World} {A B : Obj} (h : B2 w A B W) (g : W.grownBy W' none) : B2 w A B W' :=
  ⟨(g.block _ (lt_of_block h.one) (by simp)).trans h.one, (g.block _ (lt_of_block h.two) (by simp)).trans h.two, grownBy_trans h.grown g⟩

def madeC (s : ByteArray) (n x : Nat) : List Value := .int .i64 (n : Int) :: rcells s x

set_option maxHeartbeats 1000000 in
set_option maxRecDepth 100000 in
theorem rBound_any (s : ByteArray) (n x m y : Nat) (w : World) :
    Calls Try.prog 16 #[.agg (madeC s n x).toArray, .agg (madeC s m y).toArray] w fun e w' => e = .returned (.bool (boundB s n x m y)) ∧ w.grownBy w' none := by
  have C1 : Hid _ := fun W => rcell_any s x (stepAt s x : Int) W
  have C2 : Hid _ := fun W => rcell_any s y (stepAt s y : Int) W
  have K1 : Hid _ := fun W => rlock_any s x (stepAt s x : Int) W
  have K2 : Hid _ := fun W => rlock_any s y (stepAt s y : Int) W
  have hbb : boundB s n x m y = ((n : Int) == (m : Int) || (decide (0 ≤ cellOf s x) && cellOf s x == cellOf s y && (isW s x || isW s y)) || (decide (0 ≤ lockOf s x) && lockOf s x == lockOf s y)) := by
    unfold boundB
    rw [show ((n : Int) == (m : Int)) = (n == m) from by
      by_cases h : n = m
      · subst h; simp
      · have h' : ¬ (n : Int) = (m : Int) := by omega
        rw [beq_eq_false_iff_ne.2 h, beq_eq_false_iff_ne.2 h']]
  rw [hbb]
  clear hbb
  unfold madeC rcells
  generalize cellOf s x = c1 at *
  generalize cellOf s y = c2 at *
  generalize lockOf s x = k1 at *
  generalize lockOf s y = k2 at *
  generalize isW s x = b1 at *
  generalize isW s y = b2 at *
  cases hE : ((n : Int) == (m : Int)) with
  | true =>
    go_enter Try.func16, Try.ntmps16
    go_wp2_with (first | (go_at_call 28; go_must (first | (refine Calls.mono (C1.out _) ?_; rintro e1 w1 ⟨rfl, hg1⟩; have h1 := (B2.start w _ _).later hg1; have HB1 : Hid _ := h1; obtain ⟨p0, p1, p2, p3, p4⟩ := blk5 h1.one; obtain ⟨q0, q1, q2, q3, q4⟩ := blk5 h1.two; clear C1 hg1 h1) | (refine Calls.mono (C2.out _) ?_; rintro e2 w2 ⟨rfl, hg2⟩; have h2 := HB1.out.later hg2; have HB2 : Hid _ := h2; obtain ⟨r0, r1, r2, r3, r4⟩ := blk5 h2.one; obtain ⟨t0, t1, t2, t3, t4⟩ := blk5 h2.two; clear hg2 h2))) | (go_at_call 29; go_must (first | (refine Calls.mono (K1.out _) ?_; rintro e3 w3 ⟨rfl, hg3⟩; have h3 := HB2.out.later hg3; have HB3 : Hid _ := h3; obtain ⟨x0, x1, x2, x3, x4⟩ := blk5 h3.one; obtain ⟨y0, y1, y2, y3, y4⟩ := blk5 h3.two; clear K1 hg3 h3) | (refine Calls.mono (K2.out _) ?_; rintro e4 w4 ⟨rfl, hg4⟩; have HB4 : Hid _ := HB3.out.later hg4; clear hg4))))
    go_ret
    exact ⟨by simp, HB3.out.grown⟩
  | false =>
    cases hC : decide (0 ≤ c1) with
    | false =>
      cases hK : decide (0 ≤ k1) with
      | false =>
        go_enter Try.func16, Try.ntmps16
        go_wp2_with (first | (go_at_call 28; go_must (first | (refine Calls.mono (C1.out _) ?_; rintro e1 w1 ⟨rfl, hg1⟩; have h1 := (B2.start w _ _).later hg1; have HB1 : Hid _ := h1; obtain ⟨p0, p1, p2, p3, p4⟩ := blk5 h1.one; obtain ⟨q0, q1, q2, q3, q4⟩ := blk5 h1.two; clear C1 hg1 h1) | (refine Calls.mono (C2.out _) ?_; rintro e2 w2 ⟨rfl, hg2⟩; have h2 := HB1.out.later hg2; have HB2 : Hid _ := h2; obtain ⟨r0, r1, r2, r3, r4⟩ := blk5 h2.one; obtain ⟨t0, t1, t2, t3, t4⟩ := blk5 h2.two; clear hg2 h2))) | (go_at_call 29; go_must (first | (refine Calls.mono (K1.out _) ?_; rintro e3 w3 ⟨rfl, hg3⟩; have h3 := HB2.out.later hg3; have HB3 : Hid _ := h3; obtain ⟨x0, x1, x2, x3, x4⟩ := blk5 h3.one; obtain ⟨y0, y1, y2, y3, y4⟩ := blk5 h3.two; clear K1 hg3 h3) | (refine Calls.mono (K2.out _) ?_; rintro e4 w4 ⟨rfl, hg4⟩; have HB4 : Hid _ := HB3.out.later hg4; clear hg4))))
        go_ret
        exact ⟨by simp, HB3.out.grown⟩
      | true =>
        go_enter Try.func16, Try.ntmps16
        go_wp2_with (first | (go_at_call 28; go_must (first | (refine Calls.mono (C1.out _) ?_; rintro e1 w1 ⟨rfl, hg1⟩; have h1 := (B2.start w _ _).later hg1; have HB1 : Hid _ := h1; obtain ⟨p0, p1, p2, p3, p4⟩ := blk5 h1.one; obtain ⟨q0, q1, q2, q3, q4⟩ := blk5 h1.two; clear C1 hg1 h1) | (refine Calls.mono (C2.out _) ?_; rintro e2 w2 ⟨rfl, hg2⟩; have h2 := HB1.out.later hg2; have HB2 : Hid _ := h2; obtain ⟨r0, r1, r2, r3, r4⟩ := blk5 h2.one; obtain ⟨t0, t1, t2, t3, t4⟩ := blk5 h2.two; clear hg2 h2))) | (go_at_call 29; go_must (first | (refine Calls.mono (K1.out _) ?_; rintro e3 w3 ⟨rfl, hg3⟩; have h3 := HB2.out.later hg3; have HB3 : Hid _ := h3; obtain ⟨x0, x1, x2, x3, x4⟩ := blk5 h3.one; obtain ⟨y0, y1, y2, y3, y4⟩ := blk5 h3.two; clear K1 hg3 h3) | (refine Calls.mono (K2.out _) ?_; rintro e4 w4 ⟨rfl, hg4⟩; have HB4 : Hid _ := HB3.out.later hg4; clear hg4))))
        go_ret
        exact ⟨by simp, HB4.out.grown⟩
    | true =>
      cases hD : (c1 == c2) with
      | false =>
        cases hK : decide (0 ≤ k1) with
        | false =>
          go_enter Try.func16, Try.ntmps16
          go_wp2_with (first | (go_at_call 28; go_must (first | (refine Calls.mono (C1.out _) ?_; rintro e1 w1 ⟨rfl, hg1⟩; have h1 := (B2.start w _ _).later hg1; have HB1 : Hid _ := h1; obtain ⟨p0, p1, p2, p3, p4⟩ := blk5 h1.one; obtain ⟨q0, q1, q2, q3, q4⟩ := blk5 h1.two; clear C1 hg1 h1) | (refine Calls.mono (C2.out _) ?_; rintro e2 w2 ⟨rfl, hg2⟩; have h2 := HB1.out.later hg2; have HB2 : Hid _ := h2; obtain ⟨r0, r1, r2, r3, r4⟩ := blk5 h2.one; obtain ⟨t0, t1, t2, t3, t4⟩ := blk5 h2.two; clear hg2 h2))) | (go_at_call 29; go_must (first | (refine Calls.mono (K1.out _) ?_; rintro e3 w3 ⟨rfl, hg3⟩; have h3 := HB2.out.later hg3; have HB3 : Hid _ := h3; obtain ⟨x0, x1, x2, x3, x4⟩ := blk5 h3.one; obtain ⟨y0, y1, y2, y3, y4⟩ := blk5 h3.two; clear K1 hg3 h3) | (refine Calls.mono (K2.out _) ?_; rintro e4 w4 ⟨rfl, hg4⟩; have HB4 : Hid _ := HB3.out.later hg4; clear hg4))))
          go_ret
          exact ⟨by simp, HB3.out.grown⟩
        | true =>
          go_enter Try.func16, Try.ntmps16
          go_wp2_with (first | (go_at_call 28; go_must (first | (refine Calls.mono (C1.out _) ?_; rintro e1 w1 ⟨rfl, hg1⟩; have h1 := (B2.start w _ _).later hg1; have HB1 : Hid _ := h1; obtain ⟨p0, p1, p2, p3, p4⟩ := blk5 h1.one; obtain ⟨q0, q1, q2, q3, q4⟩ := blk5 h1.two; clear C1 hg1 h1) | (refine Calls.mono (C2.out _) ?_; rintro e2 w2 ⟨rfl, hg2⟩; have h2 := HB1.out.later hg2; have HB2 : Hid _ := h2; obtain ⟨r0, r1, r2, r3, r4⟩ := blk5 h2.one; obtain ⟨t0, t1, t2, t3, t4⟩ := blk5 h2.two; clear hg2 h2))) | (go_at_call 29; go_must (first | (refine Calls.mono (K1.out _) ?_; rintro e3 w3 ⟨rfl, hg3⟩; have h3 := HB2.out.later hg3; have HB3 : Hid _ := h3; obtain ⟨x0, x1, x2, x3, x4⟩ := blk5 h3.one; obtain ⟨y0, y1, y2, y3, y4⟩ := blk5 h3.two; clear K1 hg3 h3) | (refine Calls.mono (K2.out _) ?_; rintro e4 w4 ⟨rfl, hg4⟩; have HB4 : Hid _ := HB3.out.later hg4; clear hg4))))
          go_ret
          exact ⟨by simp, HB4.out.grown⟩
      | true =>
        cases b1 with
        | true =>
          go_enter Try.func16, Try.ntmps16
          go_wp2_with (first | (go_at_call 28; go_must (first | (refine Calls.mono (C1.out _) ?_; rintro e1 w1 ⟨rfl, hg1⟩; have h1 := (B2.start w _ _).later hg1; have HB1 : Hid _ := h1; obtain ⟨p0, p1, p2, p3, p4⟩ := blk5 h1.one; obtain ⟨q0, q1, q2, q3, q4⟩ := blk5 h1.two; clear C1 hg1 h1) | (refine Calls.mono (C2.out _) ?_; rintro e2 w2 ⟨rfl, hg2⟩; have h2 := HB1.out.later hg2; have HB2 : Hid _ := h2; obtain ⟨r0, r1, r2, r3, r4⟩ := blk5 h2.one; obtain ⟨t0, t1, t2, t3, t4⟩ := blk5 h2.two; clear hg2 h2))) | (go_at_call 29; go_must (first | (refine Calls.mono (K1.out _) ?_; rintro e3 w3 ⟨rfl, hg3⟩; have h3 := HB2.out.later hg3; have HB3 : Hid _ := h3; obtain ⟨x0, x1, x2, x3, x4⟩ := blk5 h3.one; obtain ⟨y0, y1, y2, y3, y4⟩ := blk5 h3.two; clear K1 hg3 h3) | (refine Calls.mono (K2.out _) ?_; rintro e4 w4 ⟨rfl, hg4⟩; have HB4 : Hid _ := HB3.out.later hg4; clear hg4))))
          go_ret
          exact ⟨by simp, HB3.out.grown⟩
        | false =>
          cases b2 with
          | true =>
            go_enter Try.func16, Try.ntmps16
            go_wp2_with (first | (go_at_call 28; go_must (first | (refine Calls.mono (C1.out _) ?_; rintro e1 w1 ⟨rfl, hg1⟩; have h1 := (B2.start w _ _).later hg1; have HB1 : Hid _ := h1; obtain ⟨p0, p1, p2, p3, p4⟩ := blk5 h1.one; obtain ⟨q0, q1, q2, q3, q4⟩ := blk5 h1.two; clear C1 hg1 h1) | (refine Calls.mono (C2.out _) ?_; rintro e2 w2 ⟨rfl, hg2⟩; have h2 := HB1.out.later hg2; have HB2 : Hid _ := h2; obtain ⟨r0, r1, r2, r3, r4⟩ := blk5 h2.one; obtain ⟨t0, t1, t2, t3, t4⟩ := blk5 h2.two; clear hg2 h2))) | (go_at_call 29; go_must (first | (refine Calls.mono (K1.out _) ?_; rintro e3 w3 ⟨rfl, hg3⟩; have h3 := HB2.out.later hg3; have HB3 : Hid _ := h3; obtain ⟨x0, x1, x2, x3, x4⟩ := blk5 h3.one; obtain ⟨y0, y1, y2, y3, y4⟩ := blk5 h3.two; clear K1 hg3 h3) | (refine Calls.mono (K2.out _) ?_; rintro e4 w4 ⟨rfl, hg4⟩; have HB4 : Hid _ := HB3.out.later hg4; clear hg4))))
            go_ret
            exact ⟨by simp, HB3.out.grown⟩
          | false =>
            cases hK : decide (0 ≤ k1) with
            | false =>
              go_enter Try.func16, Try.ntmps16
              go_wp2_with (first | (go_at_call 28; go_must (first | (refine Calls.mono (C1.out _) ?_; rintro e1 w1 ⟨rfl, hg1⟩; have h1 := (B2.start w _ _).later hg1; have HB1 : Hid _ := h1; obtain ⟨p0, p1, p2, p3, p4⟩ := blk5 h1.one; obtain ⟨q0, q1, q2, q3, q4⟩ := blk5 h1.two; clear C1 hg1 h1) | (refine Calls.mono (C2.out _) ?_; rintro e2 w2 ⟨rfl, hg2⟩; have h2 := HB1.out.later hg2; have HB2 : Hid _ := h2; obtain ⟨r0, r1, r2, r3, r4⟩ := blk5 h2.one; obtain ⟨t0, t1, t2, t3, t4⟩ := blk5 h2.two; clear hg2 h2))) | (go_at_call 29; go_must (first | (refine Calls.mono (K1.out _) ?_; rintro e3 w3 ⟨rfl, hg3⟩; have h3 := HB2.out.later hg3; have HB3 : Hid _ := h3; obtain ⟨x0, x1, x2, x3, x4⟩ := blk5 h3.one; obtain ⟨y0, y1, y2, y3, y4⟩ := blk5 h3.two; clear K1 hg3 h3) | (refine Calls.mono (K2.out _) ?_; rintro e4 w4 ⟨rfl, hg4⟩; have HB4 : Hid _ := HB3.out.later hg4; clear hg4))))
              go_ret
              exact ⟨by simp, HB3.out.grown⟩
            | true =>
              go_enter Try.func16, Try.ntmps16
              go_wp2_with (first | (go_at_call 28; go_must (first | (refine Calls.mono (C1.out _) ?_; rintro e1 w1 ⟨rfl, hg1⟩; have h1 := (B2.start w _ _).later hg1; have HB1 : Hid _ := h1; obtain ⟨p0, p1, p2, p3, p4⟩ := blk5 h1.one; obtain ⟨q0, q1, q2, q3, q4⟩ := blk5 h1.two; clear C1 hg1 h1) | (refine Calls.mono (C2.out _) ?_; rintro e2 w2 ⟨rfl, hg2⟩; have h2 := HB1.out.later hg2; have HB2 : Hid _ := h2; obtain ⟨r0, r1, r2, r3, r4⟩ := blk5 h2.one; obtain ⟨t0, t1, t2, t3, t4⟩ := blk5 h2.two; clear hg2 h2))) | (go_at_call 29; go_must (first | (refine Calls.mono (K1.out _) ?_; rintro e3 w3 ⟨rfl, hg3⟩; have h3 := HB2.out.later hg3; have HB3 : Hid _ := h3; obtain ⟨x0, x1, x2, x3, x4⟩ := blk5 h3.one; obtain ⟨y0, y1, y2, y3, y4⟩ := blk5 h3.two; clear K1 hg3 h3) | (refine Calls.mono (K2.out _) ?_; rintro e4 w4 ⟨rfl, hg4⟩; have HB4 : Hid _ := HB3.out.later hg4; clear hg4))))
              go_ret
              exact ⟨by simp, HB4.out.grown⟩
end Go.Proofs.Ytifidfgihpkgcaa

set_option linter.unusedSimpArgs false
set_option linter.unusedVariables false
namespace Go.Proofs.Ytifidfgihpkgcaa
open Go.RowKit Wv

def SwPost (w : World) (e : Ending) (w' : World) : Prop := e = .returned (.bool true) ∧ w.grownBy w' none

theorem playV_err {s : ByteArray} {fuel : Int} {row : ByteArray} (h : (playV s fuel row).2.1 ≠ 0) : (playV s fuel row).1 = ⟨#[]⟩ := by
  unfold playV at h ⊢
  by_cases h0 : (chk s).1 = 0
  · rw [if_pos h0] at h ⊢
    by_cases hf : fuel < 0 ∨ 8 < fuel
    · rw [if_pos hf]
    · rw [if_neg hf] at h ⊢
      cases hL : Wv.rd s 2 0 [] with
      | error p => rfl
      | ok L =>
        rw [hL] at h
        rcases runRow_shape s L row row.size 0 (startF L.length fuel) with ⟨t, ht⟩ | ⟨e, p, he, hne⟩
        · simp only [ht] at h
          exact absurd rfl h
        · simp only [he]
  · rw [if_neg h0]
theorem giv_err {s : ByteArray} {fuel : Int} {row : ByteArray} (h : (givB s fuel).1 ≠ 0) : (playV s fuel row).2.1 ≠ 0 := by
  unfold givB at h
  unfold playV
  split at h
  · rename_i h0
    rw [if_pos h0]
    split at h
    · rename_i hf; rw [if_pos hf]; simp
    · simp at h
  · rename_i h0; rw [if_neg h0]; exact h0

set_option maxHeartbeats 1000000 in
set_option maxRecDepth 100000 in
theorem sw_err (s : ByteArray) (fuel : Int) (row : ByteArray) (at' : Int) (w : World) (hm : s.size ≤ maxLen) (hmr : row.size ≤ maxLen) (hne : (playV s fuel row).2.1 ≠ 0) :
    Calls Try.prog 5 #[.string s, .int .i64 fuel, .string row, .int .i64 at'] w (SwPost w) := by
  have hA := fun W => playC_any s fuel row W hm hmr
  unfold PlayV at hA
  rw [playV_err hne] at hA
  have HA : Hid _ := hA
  have HG : Hid _ := fun W => good_any s fuel W hm
  have b0 : ((playV s fuel row).2.1 == 0) = false := by simpa using hne
  have b1 : ((playV s fuel row).2.1 != 0) = true := by simpa using hne
  unfold SwPost
  clear hA hne hm hmr
  generalize (playV s fuel row).2.1 = e at *
  generalize (playV s fuel row).2.2 = p at *
  cases hg : ((givB s fuel).1 == 0) with
  | true =>
    rw [hg] at HG
    clear hg
    go_enter Try.func5, Try.ntmps5
    go_wp2_with (first | (go_at_call 9; go_must (refine Calls.mono (HA.out _) ?_; rintro e1 w1 ⟨rfl, hg1⟩)) | (go_at_call 11; go_must (refine Calls.mono (HG.out _) ?_; rintro e2 w2 ⟨rfl, hg2⟩)) | (go_at_call 8; go_must (refine Calls.mono (num_any _ _) ?_; rintro e3 w3 ⟨rfl, rfl⟩)))
    go_ret
    exact ⟨rfl, grownBy_trans hg1 hg2⟩
  | false =>
    rw [hg] at HG
    clear hg
    go_enter Try.func5, Try.ntmps5
    go_wp2_with (first | (go_at_call 9; go_must (refine Calls.mono (HA.out _) ?_; rintro e1 w1 ⟨rfl, hg1⟩)) | (go_at_call 11; go_must (refine Calls.mono (HG.out _) ?_; rintro e2 w2 ⟨rfl, hg2⟩)) | (go_at_call 8; go_must (refine Calls.mono (num_any _ _) ?_; rintro e3 w3 ⟨rfl, rfl⟩)))
    go_ret
    exact ⟨rfl, grownBy_trans hg1 hg2⟩

set_option maxHeartbeats 1000000 in
set_option maxRecDepth 100000 in
theorem sw_short (s : ByteArray) (fuel : Int) (row : ByteArray) (at' : Int) (w : World) (t : ByteArray) (hm : s.size ≤ maxLen) (hmr : row.size ≤ maxLen) (hg : (givB s fuel).1 = 0) (hv : playV s fuel row = (t, 0, 0)) (ht : (t.toList == []) = false) (hs : row.size < 2) :
    Calls Try.prog 5 #[.string s, .int .i64 fuel, .string row, .int .i64 at'] w (SwPost w) := by
  have hA := fun W => playC_any s fuel row W hm hmr
  unfold PlayV at hA
  rw [hv] at hA
  have HA : Hid _ := hA
  have HG : Hid _ := fun W => good_any s fuel W hm
  rw [hg] at HG
  have b0 : decide ((row.size : Int) < 2) = true := by simp; omega
  unfold SwPost
  clear hA hm hmr hv hg
  go_enter Try.func5, Try.ntmps5
  go_wp2_with (first | (go_at_call 9; go_must (refine Calls.mono (HA.out _) ?_; rintro e1 w1 ⟨rfl, hg1⟩)) | (go_at_call 11; go_must (refine Calls.mono (HG.out _) ?_; rintro e2 w2 ⟨rfl, hg2⟩)) | (go_at_call 8; go_must (refine Calls.mono (num_any _ _) ?_; rintro e3 w3 ⟨rfl, rfl⟩)))
  go_ret
  exact ⟨rfl, grownBy_trans hg1 hg2⟩
end Go.Proofs.Ytifidfgihpkgcaa

set_option linter.unusedSimpArgs false
set_option linter.unusedVariables false
namespace Go.Proofs.Ytifidfgihpkgcaa.Wv

/-- The row with two signs, one right behind the other, in the other order. -/
def swRow (row : ByteArray) (k : Nat) : ByteArray := row.extract 0 k ++ row.extract (k + 1) (k + 2) ++ row.extract k (k + 1) ++ row.extract (k + 2) row.size
theorem pkl (s : ByteArray) (i : Nat) : pk s i = ((s.data.toList[i]?).map fun b => (b.toNat : Int)).getD (-1) := by
  unfold pk
  by_cases h : i < s.size
  · rw [dif_pos h]
    have h2 : i < s.data.toList.length := by simpa using h
    rw [List.getElem?_eq_getElem h2]
    rfl
  · rw [dif_neg h]
    have h2 : ¬ i < s.data.toList.length := by simpa using h
    rw [List.getElem?_eq_none (by omega)]
    rfl
theorem sw_list (row : ByteArray) (k : Nat) (h : k + 1 < row.size) : (swRow row k).data.toList = row.data.toList.take k ++ (row.data.toList.drop (k + 1)).take 1 ++ (row.data.toList.drop k).take 1 ++ row.data.toList.drop (k + 2) := by
  unfold swRow
  simp only [ByteArray.data_append, Array.toList_append, ByteArray.data_extract, Array.toList_extract, List.extract_eq_take_drop]
  have e1 : k + 2 - (k + 1) = 1 := by omega
  have e2 : k + 1 - k = 1 := by omega
  have e3 : (row.data.toList.drop (k + 2)).take (row.size - (k + 2)) = row.data.toList.drop (k + 2) := List.take_of_length_le (by simp)
  rw [e1, e2, e3, List.drop_zero, Nat.sub_zero]
theorem sw_swaps {row : ByteArray} {k : Nat} (h : k + 1 < row.size) : Swaps row (swRow row k) k := by
  have hl : row.data.toList.length = row.size := by simp
  have hsz : ∀ s : ByteArray, s.size = s.data.toList.length := fun s => by simp
  have key := sw_list row k h
  generalize hL : row.data.toList = l at *
  have a : l.take k ++ (l.drop (k + 1)).take 1 ++ (l.drop k).take 1 ++ l.drop (k + 2) = l.take k ++ (l[k + 1]'(by omega) :: l[k]'(by omega) :: l.drop (k + 2)) := by
    have e1 : (l.drop (k + 1)).take 1 = [l[k + 1]'(by omega)] := by rw [List.drop_eq_getElem_cons (show k + 1 < l.length by omega)]; rfl
    have e2 : (l.drop k).take 1 = [l[k]'(by omega)] := by rw [List.drop_eq_getElem_cons (show k < l.length by omega)]; rfl
    rw [e1, e2]
    simp
  rw [a] at key
  have hk : (l.take k).length = k := by simp; omega
  refine ⟨?_, h, ?_, ?_, fun j h1 h2 => ?_⟩
  · rw [hsz, key, ← hl]; simp; omega
  · rw [pkl, pkl, key, hL, List.getElem?_append_right (by omega), hk, Nat.sub_self]
    simp [show k + 1 < l.length by omega]
  · rw [pkl, pkl, key, hL, List.getElem?_append_right (by omega), hk, show k + 1 - k = 1 from by omega]
    simp [show k < l.length by omega]
  · rw [pkl, pkl, key, hL]
    rcases Nat.lt_or_ge j k with hj | hj
    · rw [List.getElem?_append_left (by omega), List.getElem?_take_of_lt hj]
    · rw [List.getElem?_append_right (by omega), hk]
      obtain ⟨d, rfl⟩ : ∃ d, j = k + 2 + d := ⟨j - (k + 2), by omega⟩
      rw [show k + 2 + d - k = d + 1 + 1 from by omega, List.getElem?_cons_succ, List.getElem?_cons_succ, List.getElem?_drop]
end Go.Proofs.Ytifidfgihpkgcaa.Wv

