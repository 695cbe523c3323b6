import Derived.Test.YtimgindeiekpmaaPa20
import Derived.Test.YtimgindeiekpmaaPa21
import Derived.Deep.RegionHeld3
import Derived.Deep.AppendLies
set_option linter.unusedSimpArgs false
set_option linter.unusedVariables false
namespace Go.Proofs.Ytimgindeiekpmaa.Wv

def cellOf (s : ByteArray) (x : Nat) : Int := if pk s x = 114 then stepB s x else if pk s x = 119 then stepA s x else -1
def lockOf (s : ByteArray) (x : Nat) : Int := if pk s x = 108 ∨ pk s x = 117 then stepA s x else -1
def isW (s : ByteArray) (x : Nat) : Bool := pk s x == 119
/-- Have two turns to do with one another? -/
def boundB (s : ByteArray) (n x m y : Nat) : Bool := n == m || (decide (0 ≤ cellOf s x) && cellOf s x == cellOf s y && (isW s x || isW s y)) || (decide (0 ≤ lockOf s x) && lockOf s x == lockOf s y)

def ownI (who i : Nat) : Prop := who * 7 ≤ i ∧ i < who * 7 + 7
/-- What a step writes and reads beside its thread's own. -/
def wrI (s : ByteArray) (x i : Nat) : Prop := (pk s x = 119 ∧ i = 21 + (stepA s x).toNat) ∨ ((pk s x = 108 ∨ pk s x = 117) ∧ i = 24 + (stepA s x).toNat)
def rdI (s : ByteArray) (x i : Nat) : Prop := (pk s x = 114 ∧ i = 21 + (stepB s x).toNat) ∨ ((pk s x = 108 ∨ pk s x = 117) ∧ i = 24 + (stepA s x).toNat)

theorem upd_at (σ : Nat → Int) (i : Nat) (v : Int) (j : Nat) : upd σ i v j = if j = i then v else σ j := rfl
theorem upd_dep {σ τ : Nat → Int} {j i : Nat} {v v' : Int} (hv : v = v') (h : i ≠ j → σ i = τ i) : upd σ j v i = upd τ j v' i := by
  rw [upd_at, upd_at]
  by_cases hi : i = j
  · rw [if_pos hi, if_pos hi, hv]
  · rw [if_neg hi, if_neg hi]; exact h hi
theorem stop_dep {σ τ : Nat → Int} {who i : Nat} {f : Int} (h : ∀ j, ownI who j → σ j = τ j) (hi : σ i = τ i) : stopF σ who f i = stopF τ who f i := by
  unfold stopF
  exact upd_dep (by rw [h _ ⟨by omega, by omega⟩]) (fun _ => upd_dep rfl (fun _ => hi))
theorem stop_frame {σ : Nat → Int} {who i : Nat} {f : Int} (hi : ¬ ownI who i) : stopF σ who f i = σ i := by
  unfold stopF
  rw [upd_other _ _ (fun e => hi ⟨by omega, by omega⟩), upd_other _ _ (fun e => hi ⟨by omega, by omega⟩)]
theorem pre_frame {σ : Nat → Int} {who i : Nat} (hi : ¬ ownI who i) : pre σ who i = σ i := by
  unfold pre
  rw [upd_other _ _ (fun e => hi ⟨by omega, by omega⟩), upd_other _ _ (fun e => hi ⟨by omega, by omega⟩)]
theorem pre_dep {σ τ : Nat → Int} {who i : Nat} (h : ∀ j, ownI who j → σ j = τ j) (hi : σ i = τ i) : pre σ who i = pre τ who i := by
  unfold pre
  exact upd_dep (by rw [h _ ⟨by omega, by omega⟩]) (fun _ => upd_dep (by rw [h _ ⟨by omega, by omega⟩]) (fun _ => hi))

theorem eff_frame {s : ByteArray} {σ : Nat → Int} {who x i : Nat} (hsb : stepBad s x = none) (ho : ¬ ownI who i) (hw : ¬ wrI s x i) : eff s x σ who i = σ i := by
  have hne : ∀ k, k < 7 → i ≠ who * 7 + k := fun k hk e => ho ⟨by omega, by omega⟩
  rcases sign_of hsb with hc | hc | hc | hc | hc | hc | hc | hc | hc | hc
  · obtain ⟨a, b, ha, hb, hA, hB, _⟩ := fields_61 hsb hc
    have eA : (stepA s x).toNat = a := by omega
    have eB : (stepB s x).toNat = b := by omega
    have he : ∀ σ, eff s x σ who = upd σ (who * 7 + a) (b : Int) := fun σ => by
      simp only [eff, hc, eA, eB]
      simp
    rw [he, upd_other _ _ (hne a (by omega))]
  · obtain ⟨a, b, ha, hb, hA, hB, _⟩ := fields_122 hsb hc
    have eA : (stepA s x).toNat = a := by omega
    have eB : (stepB s x).toNat = b := by omega
    by_cases hz : σ (who * 7 + a) = 0
    · have he : ∀ σ, σ (who * 7 + a) = 0 → eff s x σ who = upd σ (who * 7 + 4) (b : Int) := fun σ ho => by
        simp only [eff, hc, eA, eB]
        simp [ho]
      rw [he _ hz, upd_other _ _ (hne 4 (by omega))]
    · have he : ∀ σ, ¬ σ (who * 7 + a) = 0 → eff s x σ who = σ := fun σ ho => by
        simp only [eff, hc, eA, eB]
        simp [ho]
      rw [he _ hz]
  · obtain ⟨a, b, ha, hb, hA, hB, _⟩ := fields_43 hsb hc
    have eA : (stepA s x).toNat = a := by omega
    have eB : (stepB s x).toNat = b := by omega
    have he : ∀ σ, eff s x σ who = upd σ (who * 7 + a) ((σ (who * 7 + a) + σ (who * 7 + b)) % 10) := fun σ => by
      simp only [eff, hc, eA, eB]
      simp
    rw [he, upd_other _ _ (hne a (by omega))]
  · obtain ⟨a, b, ha, hb, hA, hB, _⟩ := fields_45 hsb hc
    have eA : (stepA s x).toNat = a := by omega
    have eB : (stepB s x).toNat = b := by omega
    have he : ∀ σ, eff s x σ who = upd σ (who * 7 + a) ((σ (who * 7 + a) + 10 - σ (who * 7 + b)) % 10) := fun σ => by
      simp only [eff, hc, eA, eB]
      simp
    rw [he, upd_other _ _ (hne a (by omega))]
  · obtain ⟨a, b, ha, hb, hA, hB, _⟩ := fields_114 hsb hc
    have eA : (stepA s x).toNat = a := by omega
    have eB : (stepB s x).toNat = b := by omega
    have he : ∀ σ, eff s x σ who = upd σ (who * 7 + a) (σ (21 + b)) := fun σ => by
      simp only [eff, hc, eA, eB]
      simp
    rw [he, upd_other _ _ (hne a (by omega))]
  · obtain ⟨a, b, ha, hb, hA, hB, _⟩ := fields_119 hsb hc
    have eA : (stepA s x).toNat = a := by omega
    have eB : (stepB s x).toNat = b := by omega
    have he : ∀ σ, eff s x σ who = upd σ (21 + a) (σ (who * 7 + b)) := fun σ => by
      simp only [eff, hc, eA, eB]
      simp
    rw [he, upd_other _ _ (fun e => hw (.inl ⟨hc, by rw [eA]; exact e⟩))]
  · obtain ⟨a, ha, hA, _⟩ := fields_108 hsb hc
    have eA : (stepA s x).toNat = a := by omega
    have he : ∀ σ, eff s x σ who = upd σ (24 + a) ((who : Int) + 1) := fun σ => by
      simp only [eff, hc, eA]
      simp
    rw [he, upd_other _ _ (fun e => hw (.inr ⟨.inl hc, by rw [eA]; exact e⟩))]
  · obtain ⟨a, ha, hA, _⟩ := fields_117 hsb hc
    have eA : (stepA s x).toNat = a := by omega
    by_cases hz : σ (24 + a) = (who : Int) + 1
    · have he : ∀ σ, σ (24 + a) = (who : Int) + 1 → eff s x σ who = upd σ (24 + a) 0 := fun σ ho => by
        simp only [eff, hc, eA]
        simp [ho]
      rw [he _ hz, upd_other _ _ (fun e => hw (.inr ⟨.inr hc, by rw [eA]; exact e⟩))]
    · have he : ∀ σ, ¬ σ (24 + a) = (who : Int) + 1 → eff s x σ who = stopF σ who 1 := fun σ ho => by
        simp only [eff, hc, eA]
        simp [ho]
      rw [he _ hz, stop_frame ho]
  · obtain ⟨a, ha, hA, _⟩ := fields_106 hsb hc
    have eA : (stepA s x).toNat = a := by omega
    have he : ∀ σ, eff s x σ who = upd σ (who * 7 + 4) (a : Int) := fun σ => by
      simp only [eff, hc, eA]
      simp
    rw [he, upd_other _ _ (hne 4 (by omega))]
  · obtain ⟨a, ha, hA, _⟩ := fields_33 hsb hc
    have eA : (stepA s x).toNat = a := by omega
    by_cases hz : σ (who * 7 + a) = 0
    · have he : ∀ σ, σ (who * 7 + a) = 0 → eff s x σ who = stopF σ who 2 := fun σ ho => by
        simp only [eff, hc, eA]
        simp [ho]
      rw [he _ hz, stop_frame ho]
    · have he : ∀ σ, ¬ σ (who * 7 + a) = 0 → eff s x σ who = σ := fun σ ho => by
        simp only [eff, hc, eA]
        simp [ho]
      rw [he _ hz]

theorem eff_dep {s : ByteArray} {σ τ : Nat → Int} {who x : Nat} (hsb : stepBad s x = none) (h : ∀ j, ownI who j → σ j = τ j) (hr : ∀ j, rdI s x j → σ j = τ j) : ∀ i, ownI who i ∨ wrI s x i → eff s x σ who i = eff s x τ who i := by
  intro i hi
  have hn : ∀ k, k < 7 → σ (who * 7 + k) = τ (who * 7 + k) := fun k hk => h _ ⟨by omega, by omega⟩
  rcases sign_of hsb with hc | hc | hc | hc | hc | hc | hc | hc | hc | hc
  · obtain ⟨a, b, ha, hb, hA, hB, _⟩ := fields_61 hsb hc
    have eA : (stepA s x).toNat = a := by omega
    have eB : (stepB s x).toNat = b := by omega
    have he : ∀ σ, eff s x σ who = upd σ (who * 7 + a) (b : Int) := fun σ => by
      simp only [eff, hc, eA, eB]
      simp
    have hio : ownI who i := by
      rcases hi with hi | hi
      · exact hi
      · rcases hi with ⟨h1, _⟩ | ⟨h1 | h1, _⟩ <;> (rw [hc] at h1; omega)
    rw [he, he]
    exact upd_dep (rfl) (fun _ => h i hio)
  · obtain ⟨a, b, ha, hb, hA, hB, _⟩ := fields_122 hsb hc
    have eA : (stepA s x).toNat = a := by omega
    have eB : (stepB s x).toNat = b := by omega
    have hio : ownI who i := by
      rcases hi with hi | hi
      · exact hi
      · rcases hi with ⟨h1, _⟩ | ⟨h1 | h1, _⟩ <;> (rw [hc] at h1; omega)
    by_cases hz : σ (who * 7 + a) = 0
    · have he : ∀ σ, σ (who * 7 + a) = 0 → eff s x σ who = upd σ (who * 7 + 4) (b : Int) := fun σ ho => by
        simp only [eff, hc, eA, eB]
        simp [ho]
      rw [he _ hz, he _ ((hn a (by omega)) ▸ hz)]
      exact upd_dep rfl (fun _ => h i hio)
    · have he : ∀ σ, ¬ σ (who * 7 + a) = 0 → eff s x σ who = σ := fun σ ho => by
        simp only [eff, hc, eA, eB]
        simp [ho]
      rw [he _ hz, he _ ((hn a (by omega)) ▸ hz)]
      exact h i hio
  · obtain ⟨a, b, ha, hb, hA, hB, _⟩ := fields_43 hsb hc
    have eA : (stepA s x).toNat = a := by omega
    have eB : (stepB s x).toNat = b := by omega
    have he : ∀ σ, eff s x σ who = upd σ (who * 7 + a) ((σ (who * 7 + a) + σ (who * 7 + b)) % 10) := fun σ => by
      simp only [eff, hc, eA, eB]
      simp
    have hio : ownI who i := by
      rcases hi with hi | hi
      · exact hi
      · rcases hi with ⟨h1, _⟩ | ⟨h1 | h1, _⟩ <;> (rw [hc] at h1; omega)
    rw [he, he]
    exact upd_dep (by rw [hn a (by omega), hn b (by omega)]) (fun _ => h i hio)
  · obtain ⟨a, b, ha, hb, hA, hB, _⟩ := fields_45 hsb hc
    have eA : (stepA s x).toNat = a := by omega
    have eB : (stepB s x).toNat = b := by omega
    have he : ∀ σ, eff s x σ who = upd σ (who * 7 + a) ((σ (who * 7 + a) + 10 - σ (who * 7 + b)) % 10) := fun σ => by
      simp only [eff, hc, eA, eB]
      simp
    have hio : ownI who i := by
      rcases hi with hi | hi
      · exact hi
      · rcases hi with ⟨h1, _⟩ | ⟨h1 | h1, _⟩ <;> (rw [hc] at h1; omega)
    rw [he, he]
    exact upd_dep (by rw [hn a (by omega), hn b (by omega)]) (fun _ => h i hio)
  · obtain ⟨a, b, ha, hb, hA, hB, _⟩ := fields_114 hsb hc
    have eA : (stepA s x).toNat = a := by omega
    have eB : (stepB s x).toNat = b := by omega
    have he : ∀ σ, eff s x σ who = upd σ (who * 7 + a) (σ (21 + b)) := fun σ => by
      simp only [eff, hc, eA, eB]
      simp
    have hio : ownI who i := by
      rcases hi with hi | hi
      · exact hi
      · rcases hi with ⟨h1, _⟩ | ⟨h1 | h1, _⟩ <;> (rw [hc] at h1; omega)
    rw [he, he]
    exact upd_dep (hr _ (.inl ⟨hc, by rw [eB]⟩)) (fun _ => h i hio)
  · obtain ⟨a, b, ha, hb, hA, hB, _⟩ := fields_119 hsb hc
    have eA : (stepA s x).toNat = a := by omega
    have eB : (stepB s x).toNat = b := by omega
    have he : ∀ σ, eff s x σ who = upd σ (21 + a) (σ (who * 7 + b)) := fun σ => by
      simp only [eff, hc, eA, eB]
      simp
    rw [he, he]
    refine upd_dep (hn b (by omega)) (fun hne => ?_)
    rcases hi with hi | hi
    · exact h i hi
    · rcases hi with ⟨_, h2⟩ | ⟨h1 | h1, _⟩
      · rw [eA] at h2; exact absurd h2 hne
      · rw [hc] at h1; omega
      · rw [hc] at h1; omega
  · obtain ⟨a, ha, hA, _⟩ := fields_108 hsb hc
    have eA : (stepA s x).toNat = a := by omega
    have he : ∀ σ, eff s x σ who = upd σ (24 + a) ((who : Int) + 1) := fun σ => by
      simp only [eff, hc, eA]
      simp
    rw [he, he]
    refine upd_dep rfl (fun hne => ?_)
    rcases hi with hi | hi
    · exact h i hi
    · rcases hi with ⟨h1, _⟩ | ⟨_, h2⟩
      · rw [hc] at h1; omega
      · rw [eA] at h2; exact absurd h2 hne
  · obtain ⟨a, ha, hA, _⟩ := fields_117 hsb hc
    have eA : (stepA s x).toNat = a := by omega
    have hl : σ (24 + a) = τ (24 + a) := hr _ (.inr ⟨.inr hc, by rw [eA]⟩)
    have hio : σ i = τ i := by
      rcases hi with hi | hi
      · exact h i hi
      · rcases hi with ⟨h1, _⟩ | ⟨_, h2⟩
        · rw [hc] at h1; omega
        · rw [eA] at h2; rw [h2]; exact hl
    by_cases hz : σ (24 + a) = (who : Int) + 1
    · have he : ∀ σ, σ (24 + a) = (who : Int) + 1 → eff s x σ who = upd σ (24 + a) 0 := fun σ ho => by
        simp only [eff, hc, eA]
        simp [ho]
      rw [he _ hz, he _ (hl ▸ hz)]
      exact upd_dep rfl (fun _ => hio)
    · have he : ∀ σ, ¬ σ (24 + a) = (who : Int) + 1 → eff s x σ who = stopF σ who 1 := fun σ ho => by
        simp only [eff, hc, eA]
        simp [ho]
      rw [he _ hz, he _ (hl ▸ hz)]
      exact stop_dep h hio
  · obtain ⟨a, ha, hA, _⟩ := fields_106 hsb hc
    have eA : (stepA s x).toNat = a := by omega
    have he : ∀ σ, eff s x σ who = upd σ (who * 7 + 4) (a : Int) := fun σ => by
      simp only [eff, hc, eA]
      simp
    have hio : ownI who i := by
      rcases hi with hi | hi
      · exact hi
      · rcases hi with ⟨h1, _⟩ | ⟨h1 | h1, _⟩ <;> (rw [hc] at h1; omega)
    rw [he, he]
    exact upd_dep (rfl) (fun _ => h i hio)
  · obtain ⟨a, ha, hA, _⟩ := fields_33 hsb hc
    have eA : (stepA s x).toNat = a := by omega
    have hio : ownI who i := by
      rcases hi with hi | hi
      · exact hi
      · rcases hi with ⟨h1, _⟩ | ⟨h1 | h1, _⟩ <;> (rw [hc] at h1; omega)
    by_cases hz : σ (who * 7 + a) = 0
    · have he : ∀ σ, σ (who * 7 + a) = 0 → eff s x σ who = stopF σ who 2 := fun σ ho => by
        simp only [eff, hc, eA]
        simp [ho]
      rw [he _ hz, he _ ((hn a (by omega)) ▸ hz)]
      exact stop_dep h (h i hio)
    · have he : ∀ σ, ¬ σ (who * 7 + a) = 0 → eff s x σ who = σ := fun σ ho => by
        simp only [eff, hc, eA]
        simp [ho]
      rw [he _ hz, he _ ((hn a (by omega)) ▸ hz)]
      exact h i hio

theorem rd_not_own {s : ByteArray} {who x j : Nat} (hsb : stepBad s x = none) (hw : who < 3) (h : rdI s x j) : ¬ ownI who j := by
  intro ho
  obtain ⟨h1, h2⟩ := ho
  rcases h with ⟨_, h⟩ | ⟨_, h⟩ <;> omega
theorem wr_not_own {s : ByteArray} {who x j : Nat} (hw : who < 3) (h : wrI s x j) : ¬ ownI who j := by
  intro ho
  obtain ⟨h1, h2⟩ := ho
  rcases h with ⟨_, h⟩ | ⟨_, h⟩ <;> omega
/-- What a turn of who at the step x changes; what it hangs on. -/
theorem turn_frame {s : ByteArray} {L : List (List Nat)} {σ : Nat → Int} {who i : Nat} (hsb : stepBad s (stp L σ who) = none) (ho : ¬ ownI who i) (hw : ¬ wrI s (stp L σ who) i) : turnF s L σ who i = σ i := by
  unfold turnF
  rw [eff_frame hsb ho hw, pre_frame ho]
theorem stp_dep {L : List (List Nat)} {σ τ : Nat → Int} {who : Nat} (h : ∀ j, ownI who j → σ j = τ j) : stp L σ who = stp L τ who := by
  unfold stp nx; rw [h _ ⟨by omega, by omega⟩]
theorem turn_dep {s : ByteArray} {L : List (List Nat)} {σ τ : Nat → Int} {who : Nat} (hsb : stepBad s (stp L σ who) = none) (h : ∀ j, ownI who j → σ j = τ j) (hr : ∀ j, rdI s (stp L σ who) j → σ j = τ j) :
    ∀ i, ownI who i ∨ wrI s (stp L σ who) i → turnF s L σ who i = turnF s L τ who i := by
  intro i hi
  unfold turnF
  rw [← stp_dep (L := L) h]
  exact eff_dep hsb (fun j hj => pre_dep h (h j hj)) (fun j hj => pre_dep h (hr j hj)) i hi
theorem may_dep {s : ByteArray} {L : List (List Nat)} {σ τ : Nat → Int} {who : Nat} (h : ∀ j, ownI who j → σ j = τ j) (hr : ∀ j, rdI s (stp L σ who) j → σ j = τ j) : mayB s L σ who = mayB s L τ who := by
  unfold mayB
  have hn : ∀ k, k < 7 → σ (who * 7 + k) = τ (who * 7 + k) := fun k hk => h _ ⟨by omega, by omega⟩
  have hw : waitsB s L σ who = waitsB s L τ who := by
    unfold waitsB
    rw [← stp_dep (L := L) h]
    by_cases hc : pk s (stp L σ who) = 108
    · rw [hr _ (.inr ⟨.inl hc, rfl⟩)]
    · have hb : (pk s (stp L σ who) == 108) = false := by simpa using hc
      rw [hb]; rfl
  rw [hn 6 (by omega), hn 4 (by omega), hn 5 (by omega), hw]

/-- Steps that have nothing to do with one another: neither writes what the other reads or writes. -/
theorem free_rd {s : ByteArray} {n x m y : Nat} (hx : stepBad s x = none) (hy : stepBad s y = none) (hb : boundB s n x m y = false) : (∀ j, rdI s y j → ¬ wrI s x j) ∧ (∀ j, rdI s x j → ¬ wrI s y j) ∧ (∀ j, wrI s x j → ¬ wrI s y j) := by
  have cx : pk s x = 119 → cellOf s x = stepA s x ∧ isW s x = true := fun h => by simp [cellOf, isW, h]
  have cy : pk s y = 119 → cellOf s y = stepA s y ∧ isW s y = true := fun h => by simp [cellOf, isW, h]
  have rx : pk s x = 114 → cellOf s x = stepB s x := fun h => by simp [cellOf, h]
  have ry : pk s y = 114 → cellOf s y = stepB s y := fun h => by simp [cellOf, h]
  have lx : (pk s x = 108 ∨ pk s x = 117) → lockOf s x = stepA s x := fun h => by simp [lockOf, h]
  have ly : (pk s y = 108 ∨ pk s y = 117) → lockOf s y = stepA s y := fun h => by simp [lockOf, h]
  have ax : pk s x = 119 → ∃ a : Nat, a < 3 ∧ stepA s x = a := fun h => by obtain ⟨a, b, ha, _, hA, _⟩ := fields_119 hx h; exact ⟨a, ha, hA⟩
  have ay : pk s y = 119 → ∃ a : Nat, a < 3 ∧ stepA s y = a := fun h => by obtain ⟨a, b, ha, _, hA, _⟩ := fields_119 hy h; exact ⟨a, ha, hA⟩
  have bx : pk s x = 114 → ∃ a : Nat, a < 3 ∧ stepB s x = a := fun h => by obtain ⟨a, b, _, hb, _, hB, _⟩ := fields_114 hx h; exact ⟨b, hb, hB⟩
  have by' : pk s y = 114 → ∃ a : Nat, a < 3 ∧ stepB s y = a := fun h => by obtain ⟨a, b, _, hb, _, hB, _⟩ := fields_114 hy h; exact ⟨b, hb, hB⟩
  have kx : (pk s x = 108 ∨ pk s x = 117) → ∃ a : Nat, a < 2 ∧ stepA s x = a := fun h => by
    rcases h with h | h
    · obtain ⟨a, ha, hA, _⟩ := fields_108 hx h; exact ⟨a, ha, hA⟩
    · obtain ⟨a, ha, hA, _⟩ := fields_117 hx h; exact ⟨a, ha, hA⟩
  have ky : (pk s y = 108 ∨ pk s y = 117) → ∃ a : Nat, a < 2 ∧ stepA s y = a := fun h => by
    rcases h with h | h
    · obtain ⟨a, ha, hA, _⟩ := fields_108 hy h; exact ⟨a, ha, hA⟩
    · obtain ⟨a, ha, hA, _⟩ := fields_117 hy h; exact ⟨a, ha, hA⟩
  unfold boundB at hb
  simp only [Bool.or_eq_false_iff, Bool.and_eq_false_iff, decide_eq_false_iff_not, beq_eq_false_iff_ne, ne_eq] at hb
  obtain ⟨⟨_, hcell⟩, hlock⟩ := hb
  have noLock : (pk s x = 108 ∨ pk s x = 117) → (pk s y = 108 ∨ pk s y = 117) → (stepA s x).toNat ≠ (stepA s y).toNat := fun h1 h2 e => by
    obtain ⟨a, _, e1⟩ := kx h1
    obtain ⟨b, _, e2⟩ := ky h2
    rw [lx h1, ly h2] at hlock
    rcases hlock with h | h <;> omega
  refine ⟨fun j hr hw => ?_, fun j hr hw => ?_, fun j hr hw => ?_⟩
  · rcases hr with ⟨h1, e1⟩ | ⟨h1, e1⟩ <;> rcases hw with ⟨h2, e2⟩ | ⟨h2, e2⟩
    · obtain ⟨a, _, f1⟩ := by' h1
      obtain ⟨b, _, f2⟩ := ax h2
      rw [ry h1, (cx h2).1, (cx h2).2] at hcell
      rcases hcell with (h | h) | h
      · omega
      · omega
      · simp at h
    · obtain ⟨a, _, f1⟩ := by' h1
      obtain ⟨b, _, f2⟩ := kx h2
      omega
    · obtain ⟨a, _, f1⟩ := ky h1
      obtain ⟨b, _, f2⟩ := ax h2
      omega
    · exact noLock h2 h1 (by omega)
  · rcases hr with ⟨h1, e1⟩ | ⟨h1, e1⟩ <;> rcases hw with ⟨h2, e2⟩ | ⟨h2, e2⟩
    · obtain ⟨a, _, f1⟩ := bx h1
      obtain ⟨b, _, f2⟩ := ay h2
      rw [rx h1, (cy h2).1, (cy h2).2] at hcell
      rcases hcell with (h | h) | h
      · omega
      · omega
      · simp at h
    · obtain ⟨a, _, f1⟩ := bx h1
      obtain ⟨b, _, f2⟩ := ky h2
      omega
    · obtain ⟨a, _, f1⟩ := kx h1
      obtain ⟨b, _, f2⟩ := ay h2
      omega
    · exact noLock h1 h2 (by omega)
  · rcases hr with ⟨h1, e1⟩ | ⟨h1, e1⟩ <;> rcases hw with ⟨h2, e2⟩ | ⟨h2, e2⟩
    · obtain ⟨a, _, f1⟩ := ax h1
      obtain ⟨b, _, f2⟩ := ay h2
      rw [(cx h1).1, (cx h1).2, (cy h2).1] at hcell
      rcases hcell with (h | h) | h
      · omega
      · omega
      · simp at h
    · obtain ⟨a, _, f1⟩ := ax h1
      obtain ⟨b, _, f2⟩ := ky h2
      omega
    · obtain ⟨a, _, f1⟩ := kx h1
      obtain ⟨b, _, f2⟩ := ay h2
      omega
    · exact noLock h1 h2 (by omega)

/-- Two turns that have nothing to do with one another change their order. -/
theorem swap_turns {s : ByteArray} {L : List (List Nat)} {σ : Nat → Int} {n m : Nat} (hP : PL s L) (hO : Ok L σ) (hn : n < L.length) (hm : m < L.length) (h1 : mayB s L σ n = true) (h2 : mayB s L (turnF s L σ n) m = true)
    (hb : boundB s n (stp L σ n) m (stp L (turnF s L σ n) m) = false) :
    mayB s L σ m = true ∧ mayB s L (turnF s L σ m) n = true ∧ turnF s L (turnF s L σ m) n = turnF s L (turnF s L σ n) m := by
  have h3 := hP.three
  have hO1 := ok_turn hP hO hn h1
  have hx : stepBad s (stp L σ n) = none := hP.good _ (List.getElem_mem hn) _ (stp_mem h3 hO hn h1)
  have hy : stepBad s (stp L (turnF s L σ n) m) = none := hP.good _ (List.getElem_mem hm) _ (stp_mem h3 hO1 hm h2)
  have hne : n ≠ m := fun e => by
    unfold boundB at hb
    simp [e] at hb
  have own_ne : ∀ j, ownI n j → ¬ ownI m j := fun j h h' => by
    obtain ⟨a, b⟩ := h
    obtain ⟨c, d⟩ := h'
    omega
  obtain ⟨f1, f2, f3⟩ := free_rd hx hy hb
  -- what the first turn leaves of the second thread
  have hA : ∀ j, ownI m j → turnF s L σ n j = σ j := fun j hj => turn_frame hx (fun h => own_ne j h hj) (fun h => wr_not_own (by omega) h hj)
  have es : stp L (turnF s L σ n) m = stp L σ m := stp_dep hA
  rw [es] at hy hb f1 f2 f3
  have hR : ∀ j, rdI s (stp L σ m) j → turnF s L σ n j = σ j := fun j hj => turn_frame hx (rd_not_own hy (by omega) hj) (f1 j hj)
  have hm0 : mayB s L σ m = true := by
    rw [← h2]
    exact may_dep (fun j hj => (hA j hj).symm) (fun j hj => (hR j hj).symm)
  -- what the second leaves of the first
  have hA' : ∀ j, ownI n j → turnF s L σ m j = σ j := fun j hj => turn_frame hy (fun h => own_ne j hj h) (fun h => wr_not_own (by omega) h hj)
  have hR' : ∀ j, rdI s (stp L σ n) j → turnF s L σ m j = σ j := fun j hj => turn_frame hy (rd_not_own hx (by omega) hj) (f2 j hj)
  have es' : stp L (turnF s L σ m) n = stp L σ n := stp_dep hA'
  refine ⟨hm0, ?_, ?_⟩
  · rw [← h1]
    exact (may_dep (fun j hj => (hA' j hj).symm) (fun j hj => (hR' j hj).symm)).symm
  · funext i
    by_cases hi : ownI n i ∨ wrI s (stp L σ n) i
    · have e1 : turnF s L σ n i = turnF s L (turnF s L σ m) n i := turn_dep hx (fun j hj => (hA' j hj).symm) (fun j hj => (hR' j hj).symm) i hi
      have e2 : turnF s L (turnF s L σ n) m i = turnF s L σ n i := turn_frame (by rw [es]; exact hy) (fun h => by
          rcases hi with hi | hi
          · exact own_ne i hi h
          · exact wr_not_own (by omega) hi h) (fun h => by
          rw [es] at h
          rcases hi with hi | hi
          · exact wr_not_own (by omega) h hi
          · exact f3 i hi h)
      rw [e2, ← e1]
    · by_cases hj : ownI m i ∨ wrI s (stp L σ m) i
      · have e1 : turnF s L σ m i = turnF s L (turnF s L σ n) m i := turn_dep hy (fun j hj => (hA j hj).symm) (fun j hj => (hR j hj).symm) i hj
        have e2 : turnF s L (turnF s L σ m) n i = turnF s L σ m i := turn_frame (by rw [es']; exact hx) (fun h => hi (.inl h)) (fun h => by rw [es'] at h; exact hi (.inr h))
        rw [e2, e1]
      · have e1 : turnF s L (turnF s L σ m) n i = turnF s L σ m i := turn_frame (by rw [es']; exact hx) (fun h => hi (.inl h)) (fun h => by rw [es'] at h; exact hi (.inr h))
        have e2 : turnF s L (turnF s L σ n) m i = turnF s L σ n i := turn_frame (by rw [es]; exact hy) (fun h => hj (.inl h)) (fun h => by rw [es] at h; exact hj (.inr h))
        rw [e1, e2, turn_frame hy (fun h => hj (.inl h)) (fun h => hj (.inr h)), turn_frame hx (fun h => hi (.inl h)) (fun h => hi (.inr h))]

theorem eff_fuel {s : ByteArray} {σ : Nat → Int} {who x i : Nat} (hsb : stepBad s x = none) (hi : i % 7 = 5) : eff s x σ who i = σ i := by
  rcases sign_of hsb with hc | hc | hc | hc | hc | hc | hc | hc | hc | hc
  · obtain ⟨a, b, ha, hb, hA, hB, _⟩ := fields_61 hsb hc
    have eA : (stepA s x).toNat = a := by omega
    have eB : (stepB s x).toNat = b := by omega
    have he : ∀ σ, eff s x σ who = upd σ (who * 7 + a) (b : Int) := fun σ => by
      simp only [eff, hc, eA, eB]
      simp
    rw [he, upd_other _ _ (by omega)]
  · obtain ⟨a, b, ha, hb, hA, hB, _⟩ := fields_122 hsb hc
    have eA : (stepA s x).toNat = a := by omega
    have eB : (stepB s x).toNat = b := by omega
    by_cases hz : σ (who * 7 + a) = 0
    · have he : ∀ σ, σ (who * 7 + a) = 0 → eff s x σ who = upd σ (who * 7 + 4) (b : Int) := fun σ ho => by
        simp only [eff, hc, eA, eB]
        simp [ho]
      rw [he _ hz, upd_other _ _ (by omega)]
    · have he : ∀ σ, ¬ σ (who * 7 + a) = 0 → eff s x σ who = σ := fun σ ho => by
        simp only [eff, hc, eA, eB]
        simp [ho]
      rw [he _ hz]
  · obtain ⟨a, b, ha, hb, hA, hB, _⟩ := fields_43 hsb hc
    have eA : (stepA s x).toNat = a := by omega
    have eB : (stepB s x).toNat = b := by omega
    have he : ∀ σ, eff s x σ who = upd σ (who * 7 + a) ((σ (who * 7 + a) + σ (who * 7 + b)) % 10) := fun σ => by
      simp only [eff, hc, eA, eB]
      simp
    rw [he, upd_other _ _ (by omega)]
  · obtain ⟨a, b, ha, hb, hA, hB, _⟩ := fields_45 hsb hc
    have eA : (stepA s x).toNat = a := by omega
    have eB : (stepB s x).toNat = b := by omega
    have he : ∀ σ, eff s x σ who = upd σ (who * 7 + a) ((σ (who * 7 + a) + 10 - σ (who * 7 + b)) % 10) := fun σ => by
      simp only [eff, hc, eA, eB]
      simp
    rw [he, upd_other _ _ (by omega)]
  · obtain ⟨a, b, ha, hb, hA, hB, _⟩ := fields_114 hsb hc
    have eA : (stepA s x).toNat = a := by omega
    have eB : (stepB s x).toNat = b := by omega
    have he : ∀ σ, eff s x σ who = upd σ (who * 7 + a) (σ (21 + b)) := fun σ => by
      simp only [eff, hc, eA, eB]
      simp
    rw [he, upd_other _ _ (by omega)]
  · obtain ⟨a, b, ha, hb, hA, hB, _⟩ := fields_119 hsb hc
    have eA : (stepA s x).toNat = a := by omega
    have eB : (stepB s x).toNat = b := by omega
    have he : ∀ σ, eff s x σ who = upd σ (21 + a) (σ (who * 7 + b)) := fun σ => by
      simp only [eff, hc, eA, eB]
      simp
    rw [he, upd_other _ _ (by omega)]
  · obtain ⟨a, ha, hA, _⟩ := fields_108 hsb hc
    have eA : (stepA s x).toNat = a := by omega
    have he : ∀ σ, eff s x σ who = upd σ (24 + a) ((who : Int) + 1) := fun σ => by
      simp only [eff, hc, eA]
      simp
    rw [he, upd_other _ _ (by omega)]
  · obtain ⟨a, ha, hA, _⟩ := fields_117 hsb hc
    have eA : (stepA s x).toNat = a := by omega
    by_cases hz : σ (24 + a) = (who : Int) + 1
    · have he : ∀ σ, σ (24 + a) = (who : Int) + 1 → eff s x σ who = upd σ (24 + a) 0 := fun σ ho => by
        simp only [eff, hc, eA]
        simp [ho]
      rw [he _ hz, upd_other _ _ (by omega)]
    · have he : ∀ σ, ¬ σ (24 + a) = (who : Int) + 1 → eff s x σ who = stopF σ who 1 := fun σ ho => by
        simp only [eff, hc, eA]
        simp [ho]
      rw [he _ hz, stopF, upd_other _ _ (by omega), upd_other _ _ (by omega)]
  · obtain ⟨a, ha, hA, _⟩ := fields_106 hsb hc
    have eA : (stepA s x).toNat = a := by omega
    have he : ∀ σ, eff s x σ who = upd σ (who * 7 + 4) (a : Int) := fun σ => by
      simp only [eff, hc, eA]
      simp
    rw [he, upd_other _ _ (by omega)]
  · obtain ⟨a, ha, hA, _⟩ := fields_33 hsb hc
    have eA : (stepA s x).toNat = a := by omega
    by_cases hz : σ (who * 7 + a) = 0
    · have he : ∀ σ, σ (who * 7 + a) = 0 → eff s x σ who = stopF σ who 2 := fun σ ho => by
        simp only [eff, hc, eA]
        simp [ho]
      rw [he _ hz, stopF, upd_other _ _ (by omega), upd_other _ _ (by omega)]
    · have he : ∀ σ, ¬ σ (who * 7 + a) = 0 → eff s x σ who = σ := fun σ ho => by
        simp only [eff, hc, eA]
        simp [ho]
      rw [he _ hz]

/-- All the fuel that is left. -/
def fuelOf (σ : Nat → Int) : Int := σ 5 + σ 12 + σ 19
theorem turn_fuel {s : ByteArray} {L : List (List Nat)} {σ : Nat → Int} {who : Nat} (hsb : stepBad s (stp L σ who) = none) (hw : who < 3) : fuelOf (turnF s L σ who) = fuelOf σ - 1 := by
  unfold fuelOf turnF
  rw [eff_fuel (i := 5) hsb (by omega), eff_fuel (i := 12) hsb (by omega), eff_fuel (i := 19) hsb (by omega)]
  generalize stp L σ who = x at hsb
  clear hsb
  unfold pre
  rcases (show who = 0 ∨ who = 1 ∨ who = 2 from by omega) with h | h | h <;> subst h <;> simp [upd] <;> omega
end Go.Proofs.Ytimgindeiekpmaa.Wv

set_option linter.unusedSimpArgs false
set_option linter.unusedVariables false
namespace Go.Proofs.Ytimgindeiekpmaa.Wv

/-- The thread that the row's sign at i names; the states along a row. -/
def whoAt (row : ByteArray) (i : Nat) : Nat := (pk row i - 48).toNat
def stFrom (s : ByteArray) (L : List (List Nat)) (row : ByteArray) (i : Nat) (σ : Nat → Int) : Nat → (Nat → Int)
  | 0 => σ
  | j + 1 => turnF s L (stFrom s L row i σ j) (whoAt row (i + j))
variable {s : ByteArray} {L : List (List Nat)} {row row' : ByteArray}
theorem stFrom_shift (i : Nat) (σ : Nat → Int) : ∀ j, stFrom s L row i σ (j + 1) = stFrom s L row (i + 1) (turnF s L σ (whoAt row i)) j
  | 0 => rfl
  | j + 1 => by
    rw [stFrom, stFrom_shift i σ j, stFrom, show i + (j + 1) = i + 1 + j from by omega]
theorem run_iff : ∀ (n i : Nat) (σ : Nat → Int) (t : ByteArray), runRow s L row n i σ = (t, 0, 0) ↔ (∀ j, j < n → goes s L row (i + j) (stFrom s L row i σ j) = true) ∧ overB s L (stFrom s L row i σ n) = true ∧ t = txt (wayL L (stFrom s L row i σ n))
  | 0, i, σ, t => by
    rw [runRow, stFrom]
    cases overB s L σ with
    | true =>
      rw [if_pos rfl]
      constructor
      · intro h
        simp at h
        exact ⟨fun j hj => absurd hj (by omega), rfl, h.symm⟩
      · intro h
        rw [h.2.2]
    | false => simp
  | n + 1, i, σ, t => by
    rw [runRow]
    cases hg : goes s L row i σ with
    | false =>
      constructor
      · intro h
        simp at h
      · intro h
        have := h.1 0 (by omega)
        rw [Nat.add_zero, stFrom, hg] at this
        cases this
    | true =>
      rw [if_pos rfl, run_iff n (i + 1) _ t]
      have e : ∀ j, stFrom s L row (i + 1) (turnF s L σ (pk row i - 48).toNat) j = stFrom s L row i σ (j + 1) := fun j => (stFrom_shift i σ j).symm
      rw [e n]
      constructor
      · intro h
        refine ⟨fun j hj => ?_, h.2⟩
        cases j with
        | zero => exact hg
        | succ j =>
          have := h.1 j (by omega)
          rw [e j, show i + 1 + j = i + (j + 1) from by omega] at this
          exact this
      · intro h
        refine ⟨fun j hj => ?_, h.2⟩
        have := h.1 (j + 1) (by omega)
        rw [e j, show i + 1 + j = i + (j + 1) from by omega]
        exact this
theorem st_ok (hP : PL s L) {σ : Nat → Int} (hO : Ok L σ) (i : Nat) : ∀ n, (∀ j, j < n → goes s L row (i + j) (stFrom s L row i σ j) = true) → Ok L (stFrom s L row i σ n)
  | 0, _ => hO
  | n + 1, h => by
    have h1 := st_ok hP hO i n (fun j hj => h j (by omega))
    obtain ⟨who, e1, e2, e3⟩ := goes_out (h n (by omega))
    rw [stFrom, show whoAt row (i + n) = who from by unfold whoAt; omega]
    exact ok_turn hP h1 e2 e3
theorem goes_mk {i who : Nat} {σ : Nat → Int} (h1 : pk row i = 48 + (who : Int)) (h2 : who < L.length) (h3 : mayB s L σ who = true) : goes s L row i σ = true := by
  unfold goes
  rw [show (pk row i - 48).toNat = who from by omega, h3]
  simp; omega

/-- Rows that differ in the order of two signs. -/
structure Swaps (row row' : ByteArray) (k : Nat) : Prop where
  size : row'.size = row.size
  lt : k + 1 < row.size
  one : pk row' k = pk row (k + 1)
  two : pk row' (k + 1) = pk row k
  rest : ∀ j, j ≠ k → j ≠ k + 1 → pk row' j = pk row j

theorem goes_pk {i : Nat} {σ : Nat → Int} (h : pk row' i = pk row i) : goes s L row' i σ = goes s L row i σ := by unfold goes; rw [h]

theorem swap_run (hP : PL s L) {σ : Nat → Int} (hO : Ok L σ) {k : Nat} (h : Swaps row row' k) {t : ByteArray} (hr : runRow s L row row.size 0 σ = (t, 0, 0))
    (hb : boundB s (whoAt row k) (stp L (stFrom s L row 0 σ k) (whoAt row k)) (whoAt row (k + 1)) (stp L (stFrom s L row 0 σ (k + 1)) (whoAt row (k + 1))) = false) :
    runRow s L row' row'.size 0 σ = (t, 0, 0) := by
  rw [run_iff] at hr ⊢
  simp only [Nat.zero_add] at hr ⊢
  rw [h.size]
  obtain ⟨hg, ho, ht⟩ := hr
  have hlt := h.lt
  have hok : ∀ n, n ≤ row.size → Ok L (stFrom s L row 0 σ n) := fun n hn => st_ok hP hO 0 n (fun j hj => by rw [Nat.zero_add]; exact hg j (by omega))
  have w1 : ∀ j, j ≠ k → j ≠ k + 1 → whoAt row' j = whoAt row j := fun j h1 h2 => by unfold whoAt; rw [h.rest j h1 h2]
  have ahead : ∀ j, j ≤ k → stFrom s L row' 0 σ j = stFrom s L row 0 σ j := by
    intro j
    induction j with
    | zero => intro _; rfl
    | succ j ih =>
      intro hj
      rw [stFrom, stFrom, ih (by omega), Nat.zero_add, w1 j (by omega) (by omega)]
  obtain ⟨n, n1, n2, n3⟩ := goes_out (hg k (by omega))
  obtain ⟨m, m1, m2, m3⟩ := goes_out (hg (k + 1) (by omega))
  have wn : whoAt row k = n := by unfold whoAt; omega
  have wm : whoAt row (k + 1) = m := by unfold whoAt; omega
  have wn' : whoAt row' (k + 1) = n := by unfold whoAt; rw [h.two]; omega
  have wm' : whoAt row' k = m := by unfold whoAt; rw [h.one]; omega
  have e1 : stFrom s L row 0 σ (k + 1) = turnF s L (stFrom s L row 0 σ k) n := by rw [stFrom, Nat.zero_add, wn]
  rw [wn, wm, e1] at hb
  rw [e1] at m3
  obtain ⟨s1, s2, s3⟩ := swap_turns hP (hok k (by omega)) n2 m2 n3 m3 hb
  have f1 : stFrom s L row' 0 σ (k + 1) = turnF s L (stFrom s L row 0 σ k) m := by rw [stFrom, Nat.zero_add, wm', ahead k (Nat.le_refl _)]
  have f2 : stFrom s L row' 0 σ (k + 2) = stFrom s L row 0 σ (k + 2) := by
    have g1 : stFrom s L row' 0 σ (k + 2) = turnF s L (stFrom s L row' 0 σ (k + 1)) (whoAt row' (0 + (k + 1))) := rfl
    have g2 : stFrom s L row 0 σ (k + 2) = turnF s L (stFrom s L row 0 σ (k + 1)) (whoAt row (0 + (k + 1))) := rfl
    rw [g1, g2, f1, e1, Nat.zero_add, wn', wm, s3]
  have behind : ∀ d, stFrom s L row' 0 σ (k + 2 + d) = stFrom s L row 0 σ (k + 2 + d) := by
    intro d
    induction d with
    | zero => exact f2
    | succ d ih =>
      rw [show k + 2 + (d + 1) = (k + 2 + d) + 1 from by omega, stFrom, stFrom, ih, Nat.zero_add, w1 _ (by omega) (by omega)]
  have eqAt : ∀ j, j ≠ k + 1 → stFrom s L row' 0 σ j = stFrom s L row 0 σ j := fun j hj => by
    rcases Nat.lt_or_ge k j with h1 | h1
    · rw [show j = k + 2 + (j - (k + 2)) from by omega]; exact behind _
    · exact ahead j h1
  refine ⟨fun j hj => ?_, ?_, ?_⟩
  · by_cases h1 : j = k
    · rw [h1, ahead k (Nat.le_refl _)]
      exact goes_mk (by rw [h.one]; exact m1) m2 s1
    · by_cases h2 : j = k + 1
      · rw [h2, f1]
        exact goes_mk (by rw [h.two]; exact n1) n2 s2
      · rw [eqAt j h2, goes_pk (h.rest j h1 h2)]
        exact hg j hj
  · rw [eqAt _ (by omega)]; exact ho
  · rw [eqAt _ (by omega)]; exact ht

theorem st_fuel (hP : PL s L) {σ : Nat → Int} (hO : Ok L σ) (i : Nat) : ∀ n, (∀ j, j < n → goes s L row (i + j) (stFrom s L row i σ j) = true) → fuelOf (stFrom s L row i σ n) = fuelOf σ - (n : Int)
  | 0, _ => by rw [stFrom]; omega
  | n + 1, h => by
    have h1 := st_ok hP hO i n (fun j hj => h j (by omega))
    have h2 := st_fuel hP hO i n (fun j hj => h j (by omega))
    obtain ⟨who, e1, e2, e3⟩ := goes_out (h n (by omega))
    rw [stFrom, show whoAt row (i + n) = who from by unfold whoAt; omega, turn_fuel (hP.good _ (List.getElem_mem e2) _ (stp_mem hP.three h1 e2 e3)) (by have := hP.three; omega), h2]
    omega
/-- A row that can be played is short. -/
theorem run_short (hP : PL s L) {σ : Nat → Int} (hO : Ok L σ) {t : ByteArray} (hr : runRow s L row row.size 0 σ = (t, 0, 0)) : (row.size : Int) ≤ fuelOf σ := by
  rw [run_iff] at hr
  have h1 := st_fuel hP hO 0 row.size hr.1
  have h2 := (st_ok hP hO 0 row.size hr.1).st.inv
  have a := h2 5 (by omega)
  have b := h2 12 (by omega)
  have c := h2 19 (by omega)
  unfold fuelOf at h1 ⊢
  omega
end Go.Proofs.Ytimgindeiekpmaa.Wv

set_option linter.unusedSimpArgs false
set_option linter.unusedVariables false
namespace Go.Proofs.Ytimgindeiekpmaa
open Go.RowKit Wv

set_option maxHeartbeats 400000 in
theorem good_any (s : ByteArray) (fuel : Int) (w : World) (hm : s.size ≤ maxLen) :
    Calls Try.prog 19 #[.string s, .int .i64 fuel] w fun e w' => e = .returned (.bool ((givB s fuel).1 == 0)) ∧ w.grownBy w' none := by
  have HG : Hid _ := rGiven_any s fuel w hm
  clear hm
  generalize (givB s fuel).1 = e at *
  generalize (givB s fuel).2 = p at *
  go_enter Try.func19, Try.ntmps19
  go_wp2_with (go_at_call 42; go_must (refine Calls.mono HG.out ?_; rintro e1 w1 ⟨rfl, hg⟩))
  go_ret
  exact ⟨rfl, hg⟩

/-- A step of the document, as a value. -/
def stepV (c A B At : Int) : Value := .agg #[.int .u8 c, .int .i64 A, .int .i64 B, .int .i64 At]

set_option maxHeartbeats 400000 in
theorem rcell_any (s : ByteArray) (x : Nat) (At : Int) (w : World) :
    Calls Try.prog 47 #[.agg #[.int .u8 (pk s x), .int .i64 (stepA s x), .int .i64 (stepB s x), .int .i64 At]] w fun e w' => e = .returned (.tuple #[.int .i64 (cellOf s x), .bool (isW s x)]) ∧ w.grownBy w' none := by
  unfold cellOf isW
  generalize stepA s x = A
  generalize stepB s x = B
  generalize pk s x = c
  by_cases h1 : c = 114
  · subst h1
    rw [if_pos rfl]
    go_enter Try.func47, Try.ntmps47
    go_wp2_with fail
    go_ret2
    exact ⟨rfl, World.grownBy_alloc _ _ _⟩
  · rw [if_neg h1]
    have b1 : (c == 114) = false := by simpa using h1
    by_cases h2 : c = 119
    · subst h2
      rw [if_pos rfl]
      clear b1 h1
      go_enter Try.func47, Try.ntmps47
      go_wp2_with fail
      go_ret2
      exact ⟨rfl, World.grownBy_alloc _ _ _⟩
    · rw [if_neg h2]
      have b2 : (c == 119) = false := by simpa using h2
      rw [b2]
      clear h1 h2
      go_enter Try.func47, Try.ntmps47
      go_wp2_with fail
      go_ret2
      exact ⟨rfl, World.grownBy_alloc _ _ _⟩

set_option maxHeartbeats 400000 in
theorem rlock_any (s : ByteArray) (x : Nat) (At : Int) (w : World) :
    Calls Try.prog 48 #[.agg #[.int .u8 (pk s x), .int .i64 (stepA s x), .int .i64 (stepB s x), .int .i64 At]] w fun e w' => e = .returned (.int .i64 (lockOf s x)) ∧ w.grownBy w' none := by
  unfold lockOf
  generalize stepA s x = A
  generalize stepB s x = B
  generalize pk s x = c
  by_cases h1 : c = 108
  · subst h1
    rw [if_pos (.inl rfl)]
    go_enter Try.func48, Try.ntmps48
    go_wp2_with fail
    go_ret
    exact ⟨rfl, World.grownBy_alloc _ _ _⟩
  · have b1 : (c == 108) = false := by simpa using h1
    by_cases h2 : c = 117
    · subst h2
      rw [if_pos (.inr rfl)]
      clear b1 h1
      go_enter Try.func48, Try.ntmps48
      go_wp2_with fail
      go_ret
      exact ⟨rfl, World.grownBy_alloc _ _ _⟩
    · rw [if_neg (by omega)]
      have b2 : (c == 117) = false := by simpa using h2
      clear h1 h2
      go_enter Try.func48, Try.ntmps48
      go_wp2_with fail
      go_ret
      exact ⟨rfl, World.grownBy_alloc _ _ _⟩

theorem blk5 {w : World} {b : Nat} {v0 v1 v2 v3 v4 : Value} {t : TypeId} (h : w.heap[b]? = some (.cells #[v0, v1, v2, v3, v4] t (0, 0))) :
    w.cell? ⟨b, 0, none⟩ = some v0 ∧ w.cell? ⟨b, 1, none⟩ = some v1 ∧ w.cell? ⟨b, 2, none⟩ = some v2 ∧ w.cell? ⟨b, 3, none⟩ = some v3 ∧ w.cell? ⟨b, 4, none⟩ = some v4 := by
  refine ⟨?_, ?_, ?_, ?_, ?_⟩ <;> simp [World.cell?, h]
/-- Two boxes stand. -/
structure B2 (w : World) (A B : Obj) (W : World) : Prop where
  one : W.heap[w.heap.size]? = some A
  two : W.heap[w.heap.size + 1]? = some B
  grown : w.grownBy W none
theorem B2.start (w : World) (A B : Obj) : B2 w A B ((w.alloc A).alloc B) := ⟨(heap2 _ _ _).1, (heap2 _ _ _).2, grown2 _ _ _⟩
theorem B2.later {w W W' : World} {A B : Obj} (h : B2 w A B W) (g : W.grownBy W' none) : B2 w A B W' :=
  ⟨(g.block _ (lt_of_block h.one) (by simp)).trans h.one, (g.block _ (lt_of_block h.two) (by simp)).trans h.two, grownBy_trans h.grown g⟩

def madeC (s : ByteArray) (n x : Nat) : List Value := .int .i64 (n : Int) :: rcells s x

set_option maxHeartbeats 1000000 in
set_option maxRecDepth 100000 in
theorem rBound_any (s : ByteArray) (n x m y : Nat) (w : World) :
    Calls Try.prog 24 #[.agg (madeC s n x).toArray, .agg (madeC s m y).toArray] w fun e w' => e = .returned (.bool (boundB s n x m y)) ∧ w.grownBy w' none := by
  have C1 : Hid _ := fun W => rcell_any s x (stepAt s x : Int) W
  have C2 : Hid _ := fun W => rcell_any s y (stepAt s y : Int) W
  have K1 : Hid _ := fun W => rlock_any s x (stepAt s x : Int) W
  have K2 : Hid _ := fun W => rlock_any s y (stepAt s y : Int) W
  have hbb : boundB s n x m y = ((n : Int) == (m : Int) || (decide (0 ≤ cellOf s x) && cellOf s x == cellOf s y && (isW s x || isW s y)) || (decide (0 ≤ lockOf s x) && lockOf s x == lockOf s y)) := by
    unfold boundB
    rw [show ((n : Int) == (m : Int)) = (n == m) from by
      by_cases h : n = m
      · subst h; simp
      · have h' : ¬ (n : Int) = (m : Int) := by omega
        rw [beq_eq_false_iff_ne.2 h, beq_eq_false_iff_ne.2 h']]
  rw [hbb]
  clear hbb
  unfold madeC rcells
  generalize cellOf s x = c1 at *
  generalize cellOf s y = c2 at *
  generalize lockOf s x = k1 at *
  generalize lockOf s y = k2 at *
  generalize isW s x = b1 at *
  generalize isW s y = b2 at *
  cases hE : ((n : Int) == (m : Int)) with
  | true =>
    go_enter Try.func24, Try.ntmps24
    go_wp2_with (first | (go_at_call 47; go_must (first | (refine Calls.mono (C1.out _) ?_; rintro e1 w1 ⟨rfl, hg1⟩; have h1 := (B2.start w _ _).later hg1; have HB1 : Hid _ := h1; obtain ⟨p0, p1, p2, p3, p4⟩ := blk5 h1.one; obtain ⟨q0, q1, q2, q3, q4⟩ := blk5 h1.two; clear C1 hg1 h1) | (refine Calls.mono (C2.out _) ?_; rintro e2 w2 ⟨rfl, hg2⟩; have h2 := HB1.out.later hg2; have HB2 : Hid _ := h2; obtain ⟨r0, r1, r2, r3, r4⟩ := blk5 h2.one; obtain ⟨t0, t1, t2, t3, t4⟩ := blk5 h2.two; clear hg2 h2))) | (go_at_call 48; go_must (first | (refine Calls.mono (K1.out _) ?_; rintro e3 w3 ⟨rfl, hg3⟩; have h3 := HB2.out.later hg3; have HB3 : Hid _ := h3; obtain ⟨x0, x1, x2, x3, x4⟩ := blk5 h3.one; obtain ⟨y0, y1, y2, y3, y4⟩ := blk5 h3.two; clear K1 hg3 h3) | (refine Calls.mono (K2.out _) ?_; rintro e4 w4 ⟨rfl, hg4⟩; have HB4 : Hid _ := HB3.out.later hg4; clear hg4))))
    go_ret
    exact ⟨by simp, HB3.out.grown⟩
  | false =>
    cases hC : decide (0 ≤ c1) with
    | false =>
      cases hK : decide (0 ≤ k1) with
      | false =>
        go_enter Try.func24, Try.ntmps24
        go_wp2_with (first | (go_at_call 47; go_must (first | (refine Calls.mono (C1.out _) ?_; rintro e1 w1 ⟨rfl, hg1⟩; have h1 := (B2.start w _ _).later hg1; have HB1 : Hid _ := h1; obtain ⟨p0, p1, p2, p3, p4⟩ := blk5 h1.one; obtain ⟨q0, q1, q2, q3, q4⟩ := blk5 h1.two; clear C1 hg1 h1) | (refine Calls.mono (C2.out _) ?_; rintro e2 w2 ⟨rfl, hg2⟩; have h2 := HB1.out.later hg2; have HB2 : Hid _ := h2; obtain ⟨r0, r1, r2, r3, r4⟩ := blk5 h2.one; obtain ⟨t0, t1, t2, t3, t4⟩ := blk5 h2.two; clear hg2 h2))) | (go_at_call 48; go_must (first | (refine Calls.mono (K1.out _) ?_; rintro e3 w3 ⟨rfl, hg3⟩; have h3 := HB2.out.later hg3; have HB3 : Hid _ := h3; obtain ⟨x0, x1, x2, x3, x4⟩ := blk5 h3.one; obtain ⟨y0, y1, y2, y3, y4⟩ := blk5 h3.two; clear K1 hg3 h3) | (refine Calls.mono (K2.out _) ?_; rintro e4 w4 ⟨rfl, hg4⟩; have HB4 : Hid _ := HB3.out.later hg4; clear hg4))))
        go_ret
        exact ⟨by simp, HB3.out.grown⟩
      | true =>
        go_enter Try.func24, Try.ntmps24
        go_wp2_with (first | (go_at_call 47; go_must (first | (refine Calls.mono (C1.out _) ?_; rintro e1 w1 ⟨rfl, hg1⟩; have h1 := (B2.start w _ _).later hg1; have HB1 : Hid _ := h1; obtain ⟨p0, p1, p2, p3, p4⟩ := blk5 h1.one; obtain ⟨q0, q1, q2, q3, q4⟩ := blk5 h1.two; clear C1 hg1 h1) | (refine Calls.mono (C2.out _) ?_; rintro e2 w2 ⟨rfl, hg2⟩; have h2 := HB1.out.later hg2; have HB2 : Hid _ := h2; obtain ⟨r0, r1, r2, r3, r4⟩ := blk5 h2.one; obtain ⟨t0, t1, t2, t3, t4⟩ := blk5 h2.two; clear hg2 h2))) | (go_at_call 48; go_must (first | (refine Calls.mono (K1.out _) ?_; rintro e3 w3 ⟨rfl, hg3⟩; have h3 := HB2.out.later hg3; have HB3 : Hid _ := h3; obtain ⟨x0, x1, x2, x3, x4⟩ := blk5 h3.one; obtain ⟨y0, y1, y2, y3, y4⟩ := blk5 h3.two; clear K1 hg3 h3) | (refine Calls.mono (K2.out _) ?_; rintro e4 w4 ⟨rfl, hg4⟩; have HB4 : Hid _ := HB3.out.later hg4; clear hg4))))
        go_ret
        exact ⟨by simp, HB4.out.grown⟩
    | true =>
      cases hD : (c1 == c2) with
      | false =>
        cases hK : decide (0 ≤ k1) with
        | false =>
          go_enter Try.func24, Try.ntmps24
          go_wp2_with (first | (go_at_call 47; go_must (first | (refine Calls.mono (C1.out _) ?_; rintro e1 w1 ⟨rfl, hg1⟩; have h1 := (B2.start w _ _).later hg1; have HB1 : Hid _ := h1; obtain ⟨p0, p1, p2, p3, p4⟩ := blk5 h1.one; obtain ⟨q0, q1, q2, q3, q4⟩ := blk5 h1.two; clear C1 hg1 h1) | (refine Calls.mono (C2.out _) ?_; rintro e2 w2 ⟨rfl, hg2⟩; have h2 := HB1.out.later hg2; have HB2 : Hid _ := h2; obtain ⟨r0, r1, r2, r3, r4⟩ := blk5 h2.one; obtain ⟨t0, t1, t2, t3, t4⟩ := blk5 h2.two; clear hg2 h2))) | (go_at_call 48; go_must (first | (refine Calls.mono (K1.out _) ?_; rintro e3 w3 ⟨rfl, hg3⟩; have h3 := HB2.out.later hg3; have HB3 : Hid _ := h3; obtain ⟨x0, x1, x2, x3, x4⟩ := blk5 h3.one; obtain ⟨y0, y1, y2, y3, y4⟩ := blk5 h3.two; clear K1 hg3 h3) | (refine Calls.mono (K2.out _) ?_; rintro e4 w4 ⟨rfl, hg4⟩; have HB4 : Hid _ := HB3.out.later hg4; clear hg4))))
          go_ret
          exact ⟨by simp, HB3.out.grown⟩
        | true =>
          go_enter Try.func24, Try.ntmps24
          go_wp2_with (first | (go_at_call 47; go_must (first | (refine Calls.mono (C1.out _) ?_; rintro e1 w1 ⟨rfl, hg1⟩; have h1 := (B2.start w _ _).later hg1; have HB1 : Hid _ := h1; obtain ⟨p0, p1, p2, p3, p4⟩ := blk5 h1.one; obtain ⟨q0, q1, q2, q3, q4⟩ := blk5 h1.two; clear C1 hg1 h1) | (refine Calls.mono (C2.out _) ?_; rintro e2 w2 ⟨rfl, hg2⟩; have h2 := HB1.out.later hg2; have HB2 : Hid _ := h2; obtain ⟨r0, r1, r2, r3, r4⟩ := blk5 h2.one; obtain ⟨t0, t1, t2, t3, t4⟩ := blk5 h2.two; clear hg2 h2))) | (go_at_call 48; go_must (first | (refine Calls.mono (K1.out _) ?_; rintro e3 w3 ⟨rfl, hg3⟩; have h3 := HB2.out.later hg3; have HB3 : Hid _ := h3; obtain ⟨x0, x1, x2, x3, x4⟩ := blk5 h3.one; obtain ⟨y0, y1, y2, y3, y4⟩ := blk5 h3.two; clear K1 hg3 h3) | (refine Calls.mono (K2.out _) ?_; rintro e4 w4 ⟨rfl, hg4⟩; have HB4 : Hid _ := HB3.out.later hg4; clear hg4))))
          go_ret
          exact ⟨by simp, HB4.out.grown⟩
      | true =>
        cases b1 with
        | true =>
          go_enter Try.func24, Try.ntmps24
          go_wp2_with (first | (go_at_call 47; go_must (first | (refine Calls.mono (C1.out _) ?_; rintro e1 w1 ⟨rfl, hg1⟩; have h1 := (B2.start w _ _).later hg1; have HB1 : Hid _ := h1; obtain ⟨p0, p1, p2, p3, p4⟩ := blk5 h1.one; obtain ⟨q0, q1, q2, q3, q4⟩ := blk5 h1.two; clear C1 hg1 h1) | (refine Calls.mono (C2.out _) ?_; rintro e2 w2 ⟨rfl, hg2⟩; have h2 := HB1.out.later hg2; have HB2 : Hid _ := h2; obtain ⟨r0, r1, r2, r3, r4⟩ := blk5 h2.one; obtain ⟨t0, t1, t2, t3, t4⟩ := blk5 h2.two; clear hg2 h2))) | (go_at_call 48; go_must (first | (refine Calls.mono (K1.out _) ?_; rintro e3 w3 ⟨rfl, hg3⟩; have h3 := HB2.out.later hg3; have HB3 : Hid _ := h3; obtain ⟨x0, x1, x2, x3, x4⟩ := blk5 h3.one; obtain ⟨y0, y1, y2, y3, y4⟩ := blk5 h3.two; clear K1 hg3 h3) | (refine Calls.mono (K2.out _) ?_; rintro e4 w4 ⟨rfl, hg4⟩; have HB4 : Hid _ := HB3.out.later hg4; clear hg4))))
          go_ret
          exact ⟨by simp, HB3.out.grown⟩
        | false =>
          cases b2 with
          | true =>
            go_enter Try.func24, Try.ntmps24
            go_wp2_with (first | (go_at_call 47; go_must (first | (refine Calls.mono (C1.out _) ?_; rintro e1 w1 ⟨rfl, hg1⟩; have h1 := (B2.start w _ _).later hg1; have HB1 : Hid _ := h1; obtain ⟨p0, p1, p2, p3, p4⟩ := blk5 h1.one; obtain ⟨q0, q1, q2, q3, q4⟩ := blk5 h1.two; clear C1 hg1 h1) | (refine Calls.mono (C2.out _) ?_; rintro e2 w2 ⟨rfl, hg2⟩; have h2 := HB1.out.later hg2; have HB2 : Hid _ := h2; obtain ⟨r0, r1, r2, r3, r4⟩ := blk5 h2.one; obtain ⟨t0, t1, t2, t3, t4⟩ := blk5 h2.two; clear hg2 h2))) | (go_at_call 48; go_must (first | (refine Calls.mono (K1.out _) ?_; rintro e3 w3 ⟨rfl, hg3⟩; have h3 := HB2.out.later hg3; have HB3 : Hid _ := h3; obtain ⟨x0, x1, x2, x3, x4⟩ := blk5 h3.one; obtain ⟨y0, y1, y2, y3, y4⟩ := blk5 h3.two; clear K1 hg3 h3) | (refine Calls.mono (K2.out _) ?_; rintro e4 w4 ⟨rfl, hg4⟩; have HB4 : Hid _ := HB3.out.later hg4; clear hg4))))
            go_ret
            exact ⟨by simp, HB3.out.grown⟩
          | false =>
            cases hK : decide (0 ≤ k1) with
            | false =>
              go_enter Try.func24, Try.ntmps24
              go_wp2_with (first | (go_at_call 47; go_must (first | (refine Calls.mono (C1.out _) ?_; rintro e1 w1 ⟨rfl, hg1⟩; have h1 := (B2.start w _ _).later hg1; have HB1 : Hid _ := h1; obtain ⟨p0, p1, p2, p3, p4⟩ := blk5 h1.one; obtain ⟨q0, q1, q2, q3, q4⟩ := blk5 h1.two; clear C1 hg1 h1) | (refine Calls.mono (C2.out _) ?_; rintro e2 w2 ⟨rfl, hg2⟩; have h2 := HB1.out.later hg2; have HB2 : Hid _ := h2; obtain ⟨r0, r1, r2, r3, r4⟩ := blk5 h2.one; obtain ⟨t0, t1, t2, t3, t4⟩ := blk5 h2.two; clear hg2 h2))) | (go_at_call 48; go_must (first | (refine Calls.mono (K1.out _) ?_; rintro e3 w3 ⟨rfl, hg3⟩; have h3 := HB2.out.later hg3; have HB3 : Hid _ := h3; obtain ⟨x0, x1, x2, x3, x4⟩ := blk5 h3.one; obtain ⟨y0, y1, y2, y3, y4⟩ := blk5 h3.two; clear K1 hg3 h3) | (refine Calls.mono (K2.out _) ?_; rintro e4 w4 ⟨rfl, hg4⟩; have HB4 : Hid _ := HB3.out.later hg4; clear hg4))))
              go_ret
              exact ⟨by simp, HB3.out.grown⟩
            | true =>
              go_enter Try.func24, Try.ntmps24
              go_wp2_with (first | (go_at_call 47; go_must (first | (refine Calls.mono (C1.out _) ?_; rintro e1 w1 ⟨rfl, hg1⟩; have h1 := (B2.start w _ _).later hg1; have HB1 : Hid _ := h1; obtain ⟨p0, p1, p2, p3, p4⟩ := blk5 h1.one; obtain ⟨q0, q1, q2, q3, q4⟩ := blk5 h1.two; clear C1 hg1 h1) | (refine Calls.mono (C2.out _) ?_; rintro e2 w2 ⟨rfl, hg2⟩; have h2 := HB1.out.later hg2; have HB2 : Hid _ := h2; obtain ⟨r0, r1, r2, r3, r4⟩ := blk5 h2.one; obtain ⟨t0, t1, t2, t3, t4⟩ := blk5 h2.two; clear hg2 h2))) | (go_at_call 48; go_must (first | (refine Calls.mono (K1.out _) ?_; rintro e3 w3 ⟨rfl, hg3⟩; have h3 := HB2.out.later hg3; have HB3 : Hid _ := h3; obtain ⟨x0, x1, x2, x3, x4⟩ := blk5 h3.one; obtain ⟨y0, y1, y2, y3, y4⟩ := blk5 h3.two; clear K1 hg3 h3) | (refine Calls.mono (K2.out _) ?_; rintro e4 w4 ⟨rfl, hg4⟩; have HB4 : Hid _ := HB3.out.later hg4; clear hg4))))
              go_ret
              exact ⟨by simp, HB4.out.grown⟩
end Go.Proofs.Ytimgindeiekpmaa

set_option linter.unusedSimpArgs false
set_option linter.unusedVariables false
namespace Go.Proofs.Ytimgindeiekpmaa.Wv

/-- A turn that was made: whose, and the step's place. -/
def mAt (row : List (Nat × Nat)) (k : Nat) : Nat × Nat := row[k]?.getD (0, 0)
/-- Could the turn of n (its step at x) have come ahead of one of a higher thread, among the first k of the row? -/
def lateK (s : ByteArray) (row : List (Nat × Nat)) (n x : Nat) : Nat → Bool
  | 0 => false
  | k + 1 => if boundB s (mAt row k).1 (mAt row k).2 n x then false else if n < (mAt row k).1 then true else lateK s row n x k
def sumTo (f : Nat → Nat) : Nat → Nat
  | 0 => 0
  | k + 1 => sumTo f k + f k
theorem sumTo_mono (f : Nat → Nat) {k n : Nat} (h : k ≤ n) : sumTo f k ≤ sumTo f n := by
  induction n with
  | zero => obtain rfl : k = 0 := by omega
            exact Nat.le_refl _
  | succ n ih =>
    rcases Nat.lt_or_ge k (n + 1) with hk | hk
    · have := ih (by omega); rw [sumTo]; omega
    · obtain rfl : k = n + 1 := by omega
      exact Nat.le_refl _
theorem sumTo_congr {f g : Nat → Nat} : ∀ {n : Nat}, (∀ k, k < n → f k = g k) → sumTo f n = sumTo g n
  | 0, _ => rfl
  | n + 1, h => by rw [sumTo, sumTo, sumTo_congr (fun k hk => h k (by omega)), h n (by omega)]

/-- How many runs there are behind the row in which no turn comes late. -/
def cnt (s : ByteArray) (L : List (List Nat)) : Nat → (Nat → Int) → List (Nat × Nat) → Nat
  | 0, _, _ => 1
  | f + 1, σ, row => if overB s L σ then 1 else sumTo (fun who => if mayB s L σ who && !lateK s row who (stp L σ who) row.length then cnt s L f (turnF s L σ who) (row ++ [(who, stp L σ who)]) else 0) L.length
/-- Those behind the turn of one thread. -/
def cntW (s : ByteArray) (L : List (List Nat)) (f : Nat) (σ : Nat → Int) (row : List (Nat × Nat)) (who : Nat) : Nat :=
  if mayB s L σ who && !lateK s row who (stp L σ who) row.length then cnt s L f (turnF s L σ who) (row ++ [(who, stp L σ who)]) else 0

variable {s : ByteArray} {L : List (List Nat)}
theorem cnt_over {f : Nat} {σ : Nat → Int} {row : List (Nat × Nat)} (h : overB s L σ = true) : cnt s L f σ row = 1 := by
  cases f with
  | zero => rfl
  | succ f => rw [cnt, if_pos h]
theorem cnt_more {f : Nat} {σ : Nat → Int} {row : List (Nat × Nat)} (h : overB s L σ = false) : cnt s L (f + 1) σ row = sumTo (cntW s L f σ row) L.length := by
  rw [cnt, h]; rfl
theorem over_fuel {σ : Nat → Int} (h3 : L.length ≤ 3) (hO : Ok L σ) (h : fuelOf σ ≤ 0) : overB s L σ = true := by
  refine over_yes fun j hj => ?_
  have a := hO.st.inv 5 (by omega)
  have b := hO.st.inv 12 (by omega)
  have c := hO.st.inv 19 (by omega)
  unfold fuelOf at h
  have : decide (0 < σ (j * 7 + 5)) = false := by
    simp
    rcases (show j = 0 ∨ j = 1 ∨ j = 2 from by omega) with rfl | rfl | rfl <;> simp <;> omega
  unfold mayB
  rw [this]; simp
theorem cnt_agree (hP : PL s L) : ∀ (f : Nat) {σ τ : Nat → Int} (row : List (Nat × Nat)), Ok L σ → Agree L.length σ τ → cnt s L f σ row = cnt s L f τ row
  | 0, σ, τ, row, hO, h => rfl
  | f + 1, σ, τ, row, hO, h => by
    rw [cnt, cnt, h.over hP hO]
    split
    · rfl
    · refine sumTo_congr fun k hk => ?_
      rw [← h.may hP hO hk, ← h.stp L k]
      cases hm : mayB s L σ k with
      | false => rfl
      | true => rw [cnt_agree hP f _ (ok_turn hP hO hk hm) (h.turn hP hO hk hm)]
/-- Behind a turn there is less fuel. -/
theorem fuel_turn (hP : PL s L) {σ : Nat → Int} (hO : Ok L σ) {who : Nat} (hw : who < L.length) (hm : mayB s L σ who = true) : fuelOf (turnF s L σ who) = fuelOf σ - 1 :=
  turn_fuel (hP.good _ (List.getElem_mem hw) _ (stp_mem hP.three hO hw hm)) (by have := hP.three; omega)
theorem mAt_in {row : List (Nat × Nat)} {k : Nat} (h : k < row.length) : mAt row k = row[k] := by simp [mAt, h]
theorem late_bound {row : List (Nat × Nat)} {n x k : Nat} (h : boundB s (mAt row k).1 (mAt row k).2 n x = true) : lateK s row n x (k + 1) = false := by rw [lateK, h]; rfl
theorem late_high {row : List (Nat × Nat)} {n x k : Nat} (h : boundB s (mAt row k).1 (mAt row k).2 n x = false) (h2 : n < (mAt row k).1) : lateK s row n x (k + 1) = true := by rw [lateK, h]; simp [h2]
theorem late_next {row : List (Nat × Nat)} {n x k : Nat} (h : boundB s (mAt row k).1 (mAt row k).2 n x = false) (h2 : ¬ n < (mAt row k).1) : lateK s row n x (k + 1) = lateK s row n x k := by rw [lateK, h]; simp [h2]

/-- The cells of a row of turns. -/
def rowC (cel : Nat → List Value) (row : List (Nat × Nat)) : List Value := row.flatMap fun m => .int .i64 (m.1 : Int) :: cel m.2
theorem rowC_snoc (cel : Nat → List Value) (row : List (Nat × Nat)) (n x : Nat) : rowC cel (row ++ [(n, x)]) = rowC cel row ++ (.int .i64 (n : Int) :: cel x) := by simp [rowC, List.flatMap_append]
theorem rowC_get {cel : Nat → List Value} {sz : Nat} (hlen : ∀ i, (cel i).length = sz) : ∀ (row : List (Nat × Nat)) (k : Nat), k < row.length → ∀ j, j < sz + 1 → (rowC cel row)[k * (sz + 1) + j]? = ((.int .i64 ((mAt row k).1 : Int) :: cel (mAt row k).2 : List Value))[j]?
  | [], k, hk, _, _ => by simp at hk
  | x :: l, 0, hk, j, hj => by
    unfold rowC
    simp only [List.flatMap_cons, mAt]
    rw [List.getElem?_append_left (by simp [hlen]; omega)]; simp
  | x :: l, k + 1, hk, j, hj => by
    have ih := rowC_get hlen l k (by simpa using hk) j hj
    have e : mAt (x :: l) (k + 1) = mAt l k := by simp [mAt]
    rw [e, ← ih]
    unfold rowC
    simp only [List.flatMap_cons]
    have hl : (Value.int .i64 (x.1 : Int) :: cel x.2).length = sz + 1 := by simp [hlen]
    rw [List.getElem?_append_right (by rw [hl, Nat.add_mul]; omega), hl]
    congr 1
    rw [Nat.add_mul]; omega

end Go.Proofs.Ytimgindeiekpmaa.Wv

set_option linter.unusedSimpArgs false
set_option linter.unusedVariables false
namespace Go.Proofs.Ytimgindeiekpmaa
open Go.RowKit Wv

structure GrW (wr W : World) : Prop where
  gr : wr.grownBy W none
theorem GrW.later {wr W W' : World} (h : GrW wr W) (g : W.grownBy W' none) : GrW wr W' := ⟨grownBy_trans h.gr g⟩
theorem GrW.start (w : World) : GrW w w.drew := ⟨rgrown_drew (grownBy_refl _ _)⟩

theorem wrap_pred (k : Nat) (h : k ≤ 1000) : IntKind.i64.wrap ((k : Int) - 1) = (k : Int) - 1 := by
  unfold IntKind.wrap
  simp only [IntKind.signed, IntKind.bits]
  simp
  omega

/-- The cells of the row's turn k. -/
theorem rrow_cells {w : World} {base g cap : Nat} {s : ByteArray} {row : List (Nat × Nat)} (h : w.ownsRow base 53 5 (.slice (some ⟨g, 0, none⟩) row.length cap) row.length (rowC (rcells s) row)) {k : Nat} (hk : k < row.length) :
    w.cell? ⟨g, k * 5, none⟩ = some (.int .i64 ((mAt row k).1 : Int)) ∧ w.cell? ⟨g, k * 5 + 1, none⟩ = some (.int .u8 (pk s (mAt row k).2)) ∧ w.cell? ⟨g, k * 5 + 2, none⟩ = some (.int .i64 (stepA s (mAt row k).2)) ∧
    w.cell? ⟨g, k * 5 + 3, none⟩ = some (.int .i64 (stepB s (mAt row k).2)) ∧ w.cell? ⟨g, k * 5 + 4, none⟩ = some (.int .i64 (stepAt s (mAt row k).2 : Int)) := by
  have hc : ∀ j u, j < 5 → ((.int .i64 ((mAt row k).1 : Int) :: rcells s (mAt row k).2 : List Value))[j]? = some u → w.cell? ⟨g, k * 5 + j, none⟩ = some u := fun j u hj hu => by
    have h1 := h.cells (g := g) rfl (k * 5 + j) u (by rw [rowC_get (sz := 4) (fun _ => rfl) row k hk j hj]; exact hu)
    have hadd : (⟨g, 0, none⟩ : Addr).add (k * 5 + j) = ⟨g, k * 5 + j, none⟩ := by unfold Addr.add; split <;> simp_all
    rw [hadd] at h1
    exact h1
  exact ⟨hc 0 _ (by omega) rfl, hc 1 _ (by omega) rfl, hc 2 _ (by omega) rfl, hc 3 _ (by omega) rfl, hc 4 _ (by omega) rfl⟩

set_option maxHeartbeats 1000000 in
set_option maxRecDepth 100000 in
theorem rlate_any (s : ByteArray) (row : List (Nat × Nat)) (n x : Nat) (rv : Value) (base : Nat) (w : World) (hown : w.ownsRow base 53 5 rv row.length (rowC (rcells s) row)) (hlen : row.length ≤ 100) :
    Calls Try.prog 76 #[rv, .agg (madeC s n x).toArray] w fun e w' => e = .returned (.bool (lateK s row n x row.length)) ∧ w.grownBy w' none := by
  have HB : Hid (∀ m y W, Calls Try.prog 24 #[.agg (madeC s m y).toArray, .agg (madeC s n x).toArray] W fun e w' => e = .returned (.bool (boundB s m y n x)) ∧ W.grownBy w' none) := fun m y W => rBound_any s m y n x W
  have HO : Hid _ := hown
  obtain ⟨ao, cap, rfl⟩ := ownsRow_slice hown
  have wl := wrap_pred row.length (by omega)
  clear hown
  unfold madeC rcells at HB ⊢
  go_enter Try.func76, Try.ntmps76
  go_wp2_with fail
  go_loopw [5] (fun iv wr => ∃ k : Nat, k ≤ row.length ∧ iv = .int .i64 ((k : Int) - 1) ∧ Hid (lateK s row n x k = lateK s row n x row.length ∧ (w.alloc (.cells #[.int .i64 (n : Int), .int .u8 (pk s x), .int .i64 (stepA s x), .int .i64 (stepB s x), .int .i64 (stepAt s x : Int)] 53)).grownBy wr none)) (fun iv _ => (intOf iv + 1).toNat)
  case atStart => exact ⟨row.length, Nat.le_refl _, rfl, rfl, grownBy_refl _ _⟩
  case round =>
    obtain ⟨k, hk, rfl, hl⟩ := hrel
    cases k with
    | zero =>
      have hl1 := hl.out.1
      rw [lateK] at hl1
      have HL : Hid _ := hl1
      have hg := hl.out.2
      rw [show ((0 : Nat) : Int) - 1 = -1 from rfl]
      clear hl hl1
      go_wp2_with fail
      go_ret
      exact ⟨by rw [← HL.out]; rfl, grownBy_trans (World.grownBy_alloc _ _ _) hg⟩
    | succ k =>
      obtain ⟨g, rfl⟩ : ∃ g, ao = some ⟨g, 0, none⟩ := by
        obtain ⟨g, cap', h, _⟩ := World.ownsRow.form (w := w) (base := base) (e := 53) (size := 5) (xs := rowC (rcells s) row) HO.out (by omega)
        simp at h; exact ⟨g, h.1⟩
      obtain ⟨p0, p1, p2, p3, p4⟩ := rrow_cells HO.out (k := k) (by omega)
      have HG : Hid _ := hl.out.2
      have HW : Hid (w.grownBy wr none) := grownBy_trans (World.grownBy_alloc _ _ _) hl.out.2
      obtain ⟨b0, b1, b2, b3, b4⟩ := blk5 (heap_alloc_new w (.cells #[.int .i64 (n : Int), .int .u8 (pk s x), .int .i64 (stepA s x), .int .i64 (stepB s x), .int .i64 (stepAt s x : Int)] 53))
      have q0 : ∀ W, GrW wr W → W.cell? ⟨g, k * 5, none⟩ = some (.int .i64 ((mAt row k).1 : Int)) := fun W h => (grownBy_trans HW.out h.gr).cell p0 (by simp)
      have q1 : ∀ W, GrW wr W → W.cell? ⟨g, k * 5 + 1, none⟩ = some (.int .u8 (pk s (mAt row k).2)) := fun W h => (grownBy_trans HW.out h.gr).cell p1 (by simp)
      have q2 : ∀ W, GrW wr W → W.cell? ⟨g, k * 5 + 2, none⟩ = some (.int .i64 (stepA s (mAt row k).2)) := fun W h => (grownBy_trans HW.out h.gr).cell p2 (by simp)
      have q3 : ∀ W, GrW wr W → W.cell? ⟨g, k * 5 + 3, none⟩ = some (.int .i64 (stepB s (mAt row k).2)) := fun W h => (grownBy_trans HW.out h.gr).cell p3 (by simp)
      have q4 : ∀ W, GrW wr W → W.cell? ⟨g, k * 5 + 4, none⟩ = some (.int .i64 (stepAt s (mAt row k).2 : Int)) := fun W h => (grownBy_trans HW.out h.gr).cell p4 (by simp)
      have c0 : ∀ W, GrW wr W → W.cell? ⟨w.heap.size, 0, none⟩ = some (.int .i64 (n : Int)) := fun W h => (grownBy_trans HG.out h.gr).cell b0 (by simp)
      have c1 : ∀ W, GrW wr W → W.cell? ⟨w.heap.size, 1, none⟩ = some (.int .u8 (pk s x)) := fun W h => (grownBy_trans HG.out h.gr).cell b1 (by simp)
      have c2 : ∀ W, GrW wr W → W.cell? ⟨w.heap.size, 2, none⟩ = some (.int .i64 (stepA s x)) := fun W h => (grownBy_trans HG.out h.gr).cell b2 (by simp)
      have c3 : ∀ W, GrW wr W → W.cell? ⟨w.heap.size, 3, none⟩ = some (.int .i64 (stepB s x)) := fun W h => (grownBy_trans HG.out h.gr).cell b3 (by simp)
      have c4 : ∀ W, GrW wr W → W.cell? ⟨w.heap.size, 4, none⟩ = some (.int .i64 (stepAt s x : Int)) := fun W h => (grownBy_trans HG.out h.gr).cell b4 (by simp)
      have hB := HB.out (mAt row k).1 (mAt row k).2
      have HL : Hid _ := hl.out.1
      have HS0 : GrW wr wr.drew := GrW.start _
      have j0 : (0 : Int) ≤ (k : Int) := by omega
      have j1 : (k : Int) < (row.length : Int) := by omega
      have j2 : ((k + 1 : Nat) : Int) - 1 = (k : Int) := by omega
      have j3 : decide ((0 : Int) ≤ (k : Int)) = true := by simp
      have j4 := wrap_pred k (by omega)
      have HHK : Hid _ := hk
      rw [j2]
      clear hl p0 p1 p2 p3 p4 b0 b1 b2 b3 b4 j2 hk hlen
      cases hb : boundB s (mAt row k).1 (mAt row k).2 n x with
      | true =>
        rw [hb] at hB
        have HBD : Hid _ := hB
        have hlt := late_bound hb
        rw [HL.out] at hlt
        have HLT : Hid _ := hlt
        clear hB hb hlt HB HL
        generalize (mAt row k).1 = m at *
        generalize (mAt row k).2 = y at *
        go_wp2_with fail
        go_region_held3 (fun W => GrW wr W) (first | assumption | exact GrW.later ‹GrW _ _› ‹World.grownBy _ _ _›) (first | (go_at_call 24; refine Calls.mono (HBD.out _) ?_; rintro e9 w9 ⟨rfl, hg9⟩))
        go_wp2_with fail
        go_ret
        exact ⟨by rw [HLT.out]; rfl, grownBy_trans HW.out (‹GrW _ _›).gr⟩
      | false =>
        rw [hb] at hB
        have HBD : Hid _ := hB
        by_cases hm : n < (mAt row k).1
        · have hlt := late_high hb hm
          rw [HL.out] at hlt
          have HLT : Hid _ := hlt
          have j5 : decide ((n : Int) < ((mAt row k).1 : Int)) = true := by simp; omega
          clear hB hb hlt HB HL
          generalize (mAt row k).1 = m at *
          generalize (mAt row k).2 = y at *
          go_wp2_with fail
          go_region_held3 (fun W => GrW wr W) (first | assumption | exact GrW.later ‹GrW _ _› ‹World.grownBy _ _ _›) (first | (go_at_call 24; refine Calls.mono (HBD.out _) ?_; rintro e9 w9 ⟨rfl, hg9⟩))
          go_wp2_with fail
          have HS9 : GrW wr w9.drew := (‹GrW wr w9›).later (rgrown_drew (grownBy_refl _ _))
          go_region_held3 (fun W => GrW wr W) (first | assumption | exact GrW.later ‹GrW _ _› ‹World.grownBy _ _ _›) (fail)
          go_wp2_with fail
          go_ret
          exact ⟨by rw [HLT.out]; rfl, grownBy_trans HW.out (‹GrW _ _›).gr⟩
        · have hlt := late_next hb hm
          rw [HL.out] at hlt
          have HLT : Hid _ := hlt
          have j5 : decide ((n : Int) < ((mAt row k).1 : Int)) = false := by simp; omega
          clear hB hb hlt HB HL
          generalize (mAt row k).1 = m at *
          generalize (mAt row k).2 = y at *
          go_wp2_with fail
          go_region_held3 (fun W => GrW wr W) (first | assumption | exact GrW.later ‹GrW _ _› ‹World.grownBy _ _ _›) (first | (go_at_call 24; refine Calls.mono (HBD.out _) ?_; rintro e9 w9 ⟨rfl, hg9⟩))
          go_wp2_with fail
          have HS9 : GrW wr w9.drew := (‹GrW wr w9›).later (rgrown_drew (grownBy_refl _ _))
          go_region_held3 (fun W => GrW wr W) (first | assumption | exact GrW.later ‹GrW _ _› ‹World.grownBy _ _ _›) (fail)
          go_wp2_with fail
          go_roundw
          case rel => exact ⟨k, by have := HHK.out; omega, by first | rfl | go_num, HLT.out.symm, grownBy_trans HG.out (‹GrW _ _›).gr⟩
          case measure => simp [intOf] <;> omega
end Go.Proofs.Ytimgindeiekpmaa

set_option linter.unusedSimpArgs false
set_option linter.unusedVariables false
namespace Go.Proofs.Ytimgindeiekpmaa
open Go.RowKit Wv

theorem wrap_sm (x : Int) (h0 : 0 ≤ x) (h1 : x ≤ 1000) : IntKind.i64.wrap x = x := by
  unfold IntKind.wrap
  simp only [IntKind.signed, IntKind.bits]
  simp
  omega
theorem info_rm : (Try.prog.info? 53).map (fun i => (i.zero, i.size, i.bytes)) = some (some (.agg #[.int .i64 0, .int .u8 0, .int .i64 0, .int .i64 0, .int .i64 0]), 5, 40) := by kernel_rfl

/-- Where the walk of count stands: the state's box. -/
structure CoAt (w0 w : World) (S : Array Value) (wr : World) : Prop where
  st : wr.heap[w.heap.size]? = some (.cells S 45 (0, 0))
  pg : w0.grownBy wr none
  gr : w.grownBy wr none
section
variable {w0 w wr wr' : World} {S : Array Value}
theorem CoAt.start (h0 : w0.grownBy w none) (S : Array Value) : CoAt w0 w S (w.alloc (.cells S 45)) := ⟨heap_alloc_new _ _, grownBy_trans h0 (World.grownBy_alloc _ _ _), World.grownBy_alloc _ _ _⟩
theorem CoAt.later (h : CoAt w0 w S wr) (hg : wr.grownBy wr' none) : CoAt w0 w S wr' :=
  ⟨(hg.block _ (lt_of_block h.st) (by simp)).trans h.st, grownBy_trans h.pg hg, grownBy_trans h.gr hg⟩
end

set_option maxHeartbeats 1000000 in
set_option maxRecDepth 100000 in
theorem rcount_over (s : ByteArray) (L : List (List Nat)) (w0 : World) (base0 B0 : Nat) (tv : Value) (vs : List Value) (hP : RProg w0 base0 B0 s L tv vs) (σ : Nat → Int) (left : Nat) (rv : Value) (w : World) (h0 : w0.grownBy w none) (hO : Ok L σ) (hl : 1 ≤ left) (hov : overB s L σ = true) :
    Calls Try.prog 57 #[tv, .agg (rst σ), rv, .int .i64 (left : Int)] w fun e w' => e = .returned (.int .i64 ((min 1 left : Nat) : Int)) ∧ w.grownBy w' none := by
  have hR := fun W (hW : w0.grownBy W none) => rOver_any s L σ base0 B0 tv vs W (hP.kept hW) hO.st hO.fate
  rw [hov] at hR
  have HR : Hid _ := hR
  have HX : Hid _ := CoAt.start h0 (rst σ)
  obtain ⟨ao, cap, rfl⟩ := ownsRow_slice hP.own.out
  rw [Nat.min_eq_left hl]
  clear hR hP hO h0 hov
  go_enter Try.func57, Try.ntmps57
  go_wp2_with (first | (refine ld_row 45 (.tmp 5) w.heap.size ?_ (rst σ) ?_ Try.underlying45 rfl (info_rstate _) ?_; rfl; exact HX.out.st) | (go_at_call 43; go_must (refine Calls.mono (HR.out _ HX.out.pg) ?_; rintro e1 w1 ⟨rfl, hg1⟩; have HX1 : Hid _ := HX.out.later hg1; clear hg1)))
  go_ret
  exact ⟨rfl, HX1.out.gr⟩

/-- The inner loop's place: the turn's box, what was copied. -/
structure InAt (w0 w : World) (S : Array Value) (b : Nat) (M : Array Value) (B : Nat) (nv : Value) (j : Nat) (xs : List Value) (wr : World) : Prop where
  c : CoAt w0 w S wr
  mb : wr.heap[b]? = some (.cells M 53 (0, 0))
  own : wr.ownsRow B 53 5 nv j xs
  le : B ≤ wr.heap.size
section
variable {w0 w wr wr' : World} {S : Array Value} {b : Nat} {M : Array Value} {B : Nat} {nv nv' : Value} {j j' : Nat} {xs xs' : List Value}
theorem InAt.later (h : InAt w0 w S b M B nv j xs wr) (hg : wr.grownBy wr' none) : InAt w0 w S b M B nv j xs wr' :=
  ⟨h.c.later hg, (hg.block _ (lt_of_block h.mb) (by simp)).trans h.mb, h.own.kept hg (Classical.em _), Nat.le_trans h.le hg.size⟩
theorem InAt.app (h : InAt w0 w S b M B nv j xs wr) (hb : b < B) (hw : w.heap.size < B) (h0 : w0.heap.size ≤ B) (hg : wr.grownBy wr' nv.ownBlock) (ho : wr'.ownsRow B 53 5 nv' j' xs') : InAt w0 w S b M B nv' j' xs' wr' := by
  have hr : ∀ r, nv.ownBlock = some r → B ≤ r := fun r hr => (h.own.lt r hr).1
  refine ⟨⟨(hg.block _ (lt_of_block h.c.st) (fun e => by have := hr _ e.symm; omega)).trans h.c.st, grownBy_new' h.c.pg hg (fun r e => by have := hr r e; omega), grownBy_new' h.c.gr hg (fun r e => by have := hr r e; omega)⟩, (hg.block _ (lt_of_block h.mb) (fun e => by have := hr _ e.symm; omega)).trans h.mb, ho, Nat.le_trans h.le hg.size⟩
end
theorem rowC_take (cel : Nat → List Value) (row : List (Nat × Nat)) (j : Nat) (hj : j < row.length) : rowC cel (row.take (j + 1)) = rowC cel (row.take j) ++ (.int .i64 ((mAt row j).1 : Int) :: cel (mAt row j).2) := by
  have h : row[j] = ((mAt row j).1, (mAt row j).2) := by simp [mAt, hj]
  rw [List.take_succ_eq_append_getElem hj, h, rowC_snoc]

set_option maxHeartbeats 4000000 in
set_option maxRecDepth 100000 in
theorem rcount_more (s : ByteArray) (L : List (List Nat)) (w0 : World) (base0 B0 : Nat) (tv : Value) (vs : List Value) (hP : RProg w0 base0 B0 s L tv vs) (hL : PL s L) (f : Nat) (σ : Nat → Int) (row : List (Nat × Nat)) (left : Nat) (rv : Value) (base : Nat) (w : World)
    (h0 : w0.grownBy w none) (ho : w.ownsRow base 53 5 rv row.length (rowC (rcells s) row)) (hO : Ok L σ) (hlen : row.length ≤ 24) (hl1 : 1 ≤ left) (hl : left ≤ 301) (hov : overB s L σ = false)
    (IH : ∀ who, who < L.length → mayB s L σ who = true → lateK s row who (stp L σ who) row.length = false → ∀ (left' : Nat) (rv' : Value) (base' : Nat) (W : World), 1 ≤ left' → left' ≤ 301 → w0.grownBy W none → W.ownsRow base' 53 5 rv' (row.length + 1) (rowC (rcells s) (row ++ [(who, stp L σ who)])) →
      Calls Try.prog 57 #[tv, .agg (rst (turnF s L σ who)), rv', .int .i64 (left' : Int)] W fun e w' => e = .returned (.int .i64 ((min (cnt s L f (turnF s L σ who) (row ++ [(who, stp L σ who)])) left' : Nat) : Int)) ∧ W.grownBy w' none) :
    Calls Try.prog 57 #[tv, .agg (rst σ), rv, .int .i64 (left : Int)] w fun e w' => e = .returned (.int .i64 ((min (sumTo (cntW s L f σ row) L.length) left : Nat) : Int)) ∧ w.grownBy w' none := by
  have h3 := hP.three
  have hR := fun W (hW : w0.grownBy W none) => rOver_any s L σ base0 B0 tv vs W (hP.kept hW) hO.st hO.fate
  rw [hov] at hR
  have HR : Hid _ := hR
  have HPR : Hid _ := hP
  have HM : Hid (∀ who, who < L.length → ∀ W, w0.grownBy W none → Calls Try.prog 22 #[tv, .agg (rst σ), .int .i64 (who : Int)] W fun e w' => e = .returned (.bool (mayB s L σ who)) ∧ W.grownBy w' none) :=
    fun who hw W hW => rMay_any s L σ who base0 B0 tv vs W (hP.kept hW) hw hO.st (hO.fate who (by omega))
  have HTT : Hid (∀ who, who < L.length → mayB s L σ who = true → ∀ W, w0.grownBy W none → Calls Try.prog 23 #[tv, .agg (rst σ), .int .i64 (who : Int)] W fun e w' => e = .returned (.agg (rst (turnF s L σ who))) ∧ W.grownBy w' none) :=
    fun who hw hm W hW => rTurn_any s L σ who base0 B0 tv vs W (hP.kept hW) hw hO.st hm
  have HLA : Hid (∀ who x W, w.grownBy W none → Calls Try.prog 76 #[rv, .agg (madeC s who x).toArray] W fun e w' => e = .returned (.bool (lateK s row who x row.length)) ∧ W.grownBy w' none) :=
    fun who x W hW => rlate_any s row who x rv base W (ho.kept hW (Classical.em _)) (by omega)
  have HX : Hid _ := CoAt.start h0 (rst σ)
  have HI : Hid _ := IH
  have HO : Hid (w.ownsRow base 53 5 rv row.length (rowC (rcells s) row)) := ho
  obtain ⟨ao, cap, rfl⟩ := ownsRow_slice hP.own.out
  obtain ⟨bo, cp, rfl⟩ := ownsRow_slice ho
  obtain ⟨i0, hi, hz0, hz1, hz2⟩ := info_parts info_rm
  have HOK : Hid _ := hO
  have HW0 : Hid (w0.heap.size ≤ w.heap.size) := h0.size
  clear hR hP hO h0 hov ho IH
  go_enter Try.func57, Try.ntmps57
  go_wp2_with (first | (refine ld_row 45 (.tmp 5) w.heap.size ?_ (rst σ) ?_ Try.underlying45 rfl (info_rstate _) ?_; rfl; exact HX.out.st) | (go_at_call 43; go_must (refine Calls.mono (HR.out _ HX.out.pg) ?_; rintro e1 w1 ⟨rfl, hg1⟩; have HX1 : Hid _ := HX.out.later hg1; clear hg1)))
  go_loopw [10, 11] (fun nv iv wr => ∃ k C : Nat, k ≤ L.length ∧ iv = .int .i64 (k : Int) ∧ nv = .int .i64 (C : Int) ∧ Hid (C = min (sumTo (cntW s L f σ row) k) left) ∧ Hid (CoAt w0 w (rst σ) wr)) (fun _ iv _ => L.length - (intOf iv).toNat)
  case atStart => exact ⟨0, 0, Nat.zero_le _, rfl, rfl, by show 0 = min (sumTo _ 0) left; rw [sumTo]; omega, HX1.out⟩
  case round =>
    clear HX1 HX HR
    obtain ⟨k, C, hk, rfl, rfl, HC, hat⟩ := hrel
    by_cases hp : k < L.length
    · by_cases hcl : C < left
      · have HA : Hid _ := hat.out
        cases hmay : mayB s L σ k with
        | false =>
          have hz : cntW s L f σ row k = 0 := by unfold cntW; rw [hmay]; rfl
          have HSUM : Hid (C = min (sumTo (cntW s L f σ row) (k + 1)) left) := by show C = min (sumTo (cntW s L f σ row) (k + 1)) left; rw [sumTo, hz]; exact HC.out
          have hMC := HM.out k hp
          rw [hmay] at hMC
          have HMC : Hid _ := hMC
          clear hz hmay hMC hat
          go_wp2_with (first | (refine ld_row 45 (.tmp 5) w.heap.size ?_ (rst σ) ?_ Try.underlying45 rfl (info_rstate _) ?_; rfl; exact HA.out.st) | (go_at_call 22; go_must (refine Calls.mono (HMC.out _ HA.out.pg) ?_; rintro e2 w2 ⟨rfl, hg2⟩; have HA2 : Hid _ := HA.out.later hg2; clear hg2)))
          go_roundw
          case rel => exact ⟨k + 1, C, by omega, by first | rfl | go_num, rfl, HSUM.out, HA2.out⟩
          case measure => simp [intOf] <;> omega
        | true =>
          have hMC := HM.out k hp
          rw [hmay] at hMC
          have HMC : Hid _ := hMC
          have HT : Hid _ := HTT.out k hp hmay
          go_wp2_with (first | (refine ld_row 45 (.tmp 5) w.heap.size ?_ (rst σ) ?_ Try.underlying45 rfl (info_rstate _) ?_; rfl; exact HA.out.st) | (go_at_call 22; go_must (refine Calls.mono (HMC.out _ HA.out.pg) ?_; rintro e2 w2 ⟨rfl, hg2⟩; have HA2 : Hid _ := HA.out.later hg2; clear hg2)))
          obtain ⟨hkx, _, _, _⟩ := may_out HOK.out.st (by omega) hp hmay
          have h8 := HPR.out.eight _ (List.getElem_mem hp)
          have h4 := HOK.out.st.nx (show k < 3 by omega)
          obtain ⟨g, cap1, b2, cp2, htv, hgl, hcl2, hrr⟩ := HPR.out.row k hp
          obtain ⟨rfl, rfl⟩ : ao = some ⟨g, 0, none⟩ ∧ cap = cap1 := by simpa using htv
          obtain ⟨g2, rfl⟩ : ∃ g2, b2 = some ⟨g2, 0, none⟩ := by
            rcases hrr.2 with ⟨_, h0⟩ | ⟨g2, c2, cur, hvv, _⟩
            · omega
            · simp at hvv; exact ⟨g2, hvv.1⟩
          obtain ⟨d0, d1, d2, d3⟩ := rstep_cells hrr (nx σ k) hkx
          rw [← stp_in hp hkx] at d0 d1 d2 d3
          have s0 : ∀ W, CoAt w0 w (rst σ) W → W.cell? ⟨g2, nx σ k * 4, none⟩ = some (.int .u8 (pk s (stp L σ k))) := fun W h => h.pg.cell d0 (by simp)
          have s1 : ∀ W, CoAt w0 w (rst σ) W → W.cell? ⟨g2, nx σ k * 4 + 1, none⟩ = some (.int .i64 (stepA s (stp L σ k))) := fun W h => h.pg.cell d1 (by simp)
          have s2 : ∀ W, CoAt w0 w (rst σ) W → W.cell? ⟨g2, nx σ k * 4 + 2, none⟩ = some (.int .i64 (stepB s (stp L σ k))) := fun W h => h.pg.cell d2 (by simp)
          have s3 : ∀ W, CoAt w0 w (rst σ) W → W.cell? ⟨g2, nx σ k * 4 + 3, none⟩ = some (.int .i64 (stepAt s (stp L σ k) : Int)) := fun W h => h.pg.cell d3 (by simp)
          have s4 : ∀ W, CoAt w0 w (rst σ) W → W.cell? ⟨g, k, none⟩ = some (.slice (some ⟨g2, 0, none⟩) L[k].length cp2) := fun W h => h.pg.cell hcl2 (by simp)
          have s5 : ∀ W, CoAt w0 w (rst σ) W → W.cell? ⟨w.heap.size, k * 7 + 4, none⟩ = some (.int .i64 (nx σ k : Int)) := fun W h => by
            rw [cell_of_row W _ _ _ _ _ h.st, rst_int _ _ (by omega) (by omega) (by omega) (by omega), h4]
          have hi0 : (0 : Int) ≤ (nx σ k : Int) := by omega
          have hi1 : (nx σ k : Int) < (L[k].length : Int) := by omega
          have hi2 : (k : Int) < 3 := by omega
          have hi3 : (k : Int) < (L.length : Int) := by omega
          have hi4 : (0 : Int) ≤ (k : Int) := by omega
          have HS2 : CoAt w0 w (rst σ) w2.drew := HA2.out.later (rgrown_drew (grownBy_refl _ _))
          have HS3 : CoAt w0 w (rst σ) (w2.alloc (.cells #[.int .i64 (k : Int), .int .u8 (pk s (stp L σ k)), .int .i64 (stepA s (stp L σ k)), .int .i64 (stepB s (stp L σ k)), .int .i64 (stepAt s (stp L σ k) : Int)] 53)).drew := HA2.out.later (rgrown_drew (World.grownBy_alloc _ _ _))
          have hb3 : (w2.alloc (.cells #[.int .i64 (k : Int), .int .u8 (pk s (stp L σ k)), .int .i64 (stepA s (stp L σ k)), .int .i64 (stepB s (stp L σ k)), .int .i64 (stepAt s (stp L σ k) : Int)] 53)).drew.heap[w2.heap.size]? = some (.cells #[.int .i64 (k : Int), .int .u8 (pk s (stp L σ k)), .int .i64 (stepA s (stp L σ k)), .int .i64 (stepB s (stp L σ k)), .int .i64 (stepAt s (stp L σ k) : Int)] 53 (0, 0)) := heap_alloc_new _ _
          have hwb : w2.heap.size < (w2.alloc (.cells #[.int .i64 (k : Int), .int .u8 (pk s (stp L σ k)), .int .i64 (stepA s (stp L σ k)), .int .i64 (stepB s (stp L σ k)), .int .i64 (stepAt s (stp L σ k) : Int)] 53)).drew.heap.size := lt_of_block hb3
          have hLC := HLA.out k (stp L σ k)
          have HXS : Hid (rowC (rcells s) (row ++ [(k, stp L σ k)]) = rowC (rcells s) row ++ [.int .i64 (k : Int), .int .u8 (pk s (stp L σ k)), .int .i64 (stepA s (stp L σ k)), .int .i64 (stepB s (stp L σ k)), .int .i64 (stepAt s (stp L σ k) : Int)]) := rowC_snoc (rcells s) row k (stp L σ k)
          clear d0 d1 d2 d3 hcl2 hrr htv h4 HLA
          unfold madeC rcells at hLC
          generalize L[k].length = len at *
          generalize nx σ k = kx at *
          cases hlt : lateK s row k (stp L σ k) row.length with
          | true =>
            have hz : cntW s L f σ row k = 0 := by unfold cntW; rw [hmay, hlt]; rfl
            have HSUM : Hid (C = min (sumTo (cntW s L f σ row) (k + 1)) left) := by show C = min (sumTo (cntW s L f σ row) (k + 1)) left; rw [sumTo, hz]; exact HC.out
            rw [hlt] at hLC
            have HLC : Hid _ := hLC
            clear hz hlt hLC hmay hMC hat HXS HI HT HTT HM
            go_region_held3 (fun W => CoAt w0 w (rst σ) W) (first | assumption | exact CoAt.later ‹CoAt _ _ _ _› (World.grownBy_alloc _ _ _)) (fail)
            generalize (w2.alloc (.cells #[.int .i64 (k : Int), .int .u8 (pk s (stp L σ k)), .int .i64 (stepA s (stp L σ k)), .int .i64 (stepB s (stp L σ k)), .int .i64 (stepAt s (stp L σ k) : Int)] 53)).drew = w3 at *
            obtain ⟨q0, q1, q2, q3, q4⟩ := blk5 hb3
            have HCO : Hid _ := HS3
            clear hb3 s0 s1 s2 s3 s4 s5 hwb
            go_wp2_with (first | (go_at_call 76; go_must (refine Calls.mono (HLC.out _ HCO.out.gr) ?_; rintro e4 w4 ⟨rfl, hg4⟩; have HCO4 : Hid _ := HCO.out.later hg4; clear hg4)))
            go_roundw
            case rel => exact ⟨k + 1, C, by omega, by first | rfl | go_num, rfl, HSUM.out, HCO4.out⟩
            case measure => simp [intOf] <;> omega
          | false =>
            have hz : cntW s L f σ row k = cnt s L f (turnF s L σ k) (row ++ [(k, stp L σ k)]) := by unfold cntW; rw [hmay, hlt]; rfl
            obtain ⟨E, hE⟩ : ∃ E, E = left - C := ⟨_, rfl⟩
            have hI := fun rv' base' W => HI.out k hp hmay hlt E rv' base' W (by omega) (by omega)
            rw [← hz] at hI
            obtain ⟨F, hF⟩ : ∃ F, F = min (cntW s L f σ row k) E := ⟨_, rfl⟩
            rw [← hF] at hI
            have HIH : Hid _ := hI
            obtain ⟨D, hD⟩ : ∃ D, D = C + F := ⟨_, rfl⟩
            have HSUM : Hid (D = min (sumTo (cntW s L f σ row) (k + 1)) left) := by
              have hC := HC.out
              show D = min (sumTo (cntW s L f σ row) (k + 1)) left
              rw [sumTo]; omega
            have hsub : IntKind.i64.wrap ((left : Int) - (C : Int)) = (E : Int) := by
              rw [show (left : Int) - (C : Int) = (E : Int) from by omega]; exact wrap_sm _ (by omega) (by omega)
            have hadd : IntKind.i64.wrap ((C : Int) + (F : Int)) = (D : Int) := by
              rw [show (C : Int) + (F : Int) = (D : Int) from by omega]; exact wrap_sm _ (by omega) (by omega)
            rw [hlt] at hLC
            have HLC : Hid _ := hLC
            clear hz hlt hLC hmay hMC hat HI HTT HM hI hE hF hD
            go_region_held3 (fun W => CoAt w0 w (rst σ) W) (first | assumption | exact CoAt.later ‹CoAt _ _ _ _› (World.grownBy_alloc _ _ _)) (fail)
            generalize (w2.alloc (.cells #[.int .i64 (k : Int), .int .u8 (pk s (stp L σ k)), .int .i64 (stepA s (stp L σ k)), .int .i64 (stepB s (stp L σ k)), .int .i64 (stepAt s (stp L σ k) : Int)] 53)).drew = w3 at *
            obtain ⟨q0, q1, q2, q3, q4⟩ := blk5 hb3
            have HCO : Hid _ := HS3
            have HB3 : Hid _ := hb3
            have HWB : Hid (w2.heap.size < w3.heap.size) := hwb
            clear hb3 s0 s1 s2 s3 s4 s5 hwb
            go_wp2_with (first | (go_at_call 76; go_must (refine Calls.mono (HLC.out _ HCO.out.gr) ?_; rintro e4 w4 ⟨rfl, hg4⟩; have HIN : Hid (InAt w0 w (rst σ) w2.heap.size #[.int .i64 (k : Int), .int .u8 (pk s (stp L σ k)), .int .i64 (stepA s (stp L σ k)), .int .i64 (stepB s (stp L σ k)), .int .i64 (stepAt s (stp L σ k) : Int)] w4.heap.size (.slice none 0 0) 0 [] w4) := ⟨HCO.out.later hg4, (hg4.block _ (lt_of_block HB3.out) (by simp)).trans HB3.out, World.ownsRow_nil _ _ _ _, Nat.le_refl _⟩; have hs4 := hg4.size; clear hg4)))
            have hwB : w2.heap.size < w4.heap.size := by have := HWB.out; omega
            have hwW : w.heap.size < w4.heap.size := lt_of_block HIN.out.c.st
            have hwZ : w0.heap.size ≤ w4.heap.size := HIN.out.c.pg.size
            clear HWB HB3 q0 q1 q2 q3 q4 hs4
            go_loopw [15, 16] (fun nv jv wq => ∃ j : Nat, j ≤ row.length ∧ jv = .int .i64 (j : Int) ∧ Hid (InAt w0 w (rst σ) w2.heap.size #[.int .i64 (k : Int), .int .u8 (pk s (stp L σ k)), .int .i64 (stepA s (stp L σ k)), .int .i64 (stepB s (stp L σ k)), .int .i64 (stepAt s (stp L σ k) : Int)] w4.heap.size nv j (rowC (rcells s) (row.take j)) wq)) (fun _ jv _ => row.length - (intOf jv).toNat)
            case atStart => exact ⟨0, Nat.zero_le _, rfl, HIN.out⟩
            case round =>
              clear HIN
              obtain ⟨j, hj, rfl, hin⟩ := hrel
              by_cases hjl : j < row.length
              · obtain ⟨gr, rfl⟩ : ∃ gr, bo = some ⟨gr, 0, none⟩ := by
                  obtain ⟨gr, cap', h, _⟩ := World.ownsRow.form (w := w) (base := base) (e := 53) (size := 5) (xs := rowC (rcells s) row) HO.out (by omega)
                  simp at h; exact ⟨gr, h.1⟩
                have HIN : Hid _ := hin.out
                obtain ⟨p0, p1, p2, p3, p4⟩ := rrow_cells HO.out (k := j) hjl
                have t0 := hin.out.c.gr.cell p0 (by simp)
                have t1 := hin.out.c.gr.cell p1 (by simp)
                have t2 := hin.out.c.gr.cell p2 (by simp)
                have t3 := hin.out.c.gr.cell p3 (by simp)
                have t4 := hin.out.c.gr.cell p4 (by simp)
                have HTK : Hid (rowC (rcells s) (row.take (j + 1)) = rowC (rcells s) (row.take j) ++ [.int .i64 ((mAt row j).1 : Int), .int .u8 (pk s (mAt row j).2), .int .i64 (stepA s (mAt row j).2), .int .i64 (stepB s (mAt row j).2), .int .i64 (stepAt s (mAt row j).2 : Int)]) := rowC_take (rcells s) row j hjl
                have j0 : (0 : Int) ≤ (j : Int) := by omega
                have j1 : (j : Int) < (row.length : Int) := by omega
                clear p0 p1 p2 p3 p4 hin
                go_wp2_with (first | (at_builtin; go_must (refine wpList_append_lies _ rfl (.tmp 62) (.tmp 67) 47 rfl w4.heap.size 53 i0 _ 5 40 Try.underlying47 hi hz0 hz1 hz2 rfl (by decide) _ j _ rfl (HIN.out.own.alloc _) ⟨wr.heap.size, 0, none⟩ 1 1 [.int .i64 ((mAt row j).1 : Int), .int .u8 (pk s (mAt row j).2), .int .i64 (stepA s (mAt row j).2), .int .i64 (stepB s (mAt row j).2), .int .i64 (stepAt s (mAt row j).2 : Int)] rfl rfl (cells_new _ _ _) ?one (by decide) ?len ?byt ?bas _ rfl ?_)))
                case one =>
                  intro u hu
                  simp at hu
                  rcases hu with rfl | rfl | rfl | rfl | rfl <;> rfl
                case len => unfold maxLen; omega
                case byt => omega
                case bas => exact Nat.le_trans HIN.out.le (World.grownBy_alloc _ _ none).size
                intro g7 cap7 w7 hown7 hgrow7 _ _
                have hal := HIN.out.later (World.grownBy_alloc wr (.cells #[.int .i64 ((mAt row j).1 : Int), .int .u8 (pk s (mAt row j).2), .int .i64 (stepA s (mAt row j).2), .int .i64 (stepB s (mAt row j).2), .int .i64 (stepAt s (mAt row j).2 : Int)] 53) none)
                rw [← HTK.out] at hown7
                have HIN7 : Hid _ := hal.app hwB hwW hwZ hgrow7 hown7
                clear hown7 hgrow7 hal
                go_wp2_with fail
                go_roundw
                case rel => exact ⟨j + 1, by omega, by first | rfl | go_num, HIN7.out⟩
                case measure => simp [intOf] <;> omega
              · obtain rfl : j = row.length := by omega
                have hin1 := hin.out
                rw [List.take_length] at hin1
                have HIN : Hid _ := hin1
                obtain ⟨q0, q1, q2, q3, q4⟩ := blk5 hin1.mb
                clear hin hin1
                go_wp2_with (first | (at_builtin; go_must (refine wpList_append_lies _ rfl (.tmp 69) (.tmp 71) 47 rfl w4.heap.size 53 i0 _ 5 40 Try.underlying47 hi hz0 hz1 hz2 rfl (by decide) _ row.length _ rfl (HIN.out.own.alloc _) ⟨wr.heap.size, 0, none⟩ 1 1 [.int .i64 (k : Int), .int .u8 (pk s (stp L σ k)), .int .i64 (stepA s (stp L σ k)), .int .i64 (stepB s (stp L σ k)), .int .i64 (stepAt s (stp L σ k) : Int)] rfl rfl (cells_new _ _ _) ?one (by decide) ?len ?byt ?bas _ rfl ?_)))
                case one =>
                  intro u hu
                  simp at hu
                  rcases hu with rfl | rfl | rfl | rfl | rfl <;> rfl
                case len => unfold maxLen; omega
                case byt => omega
                case bas => exact Nat.le_trans HIN.out.le (World.grownBy_alloc _ _ none).size
                intro g7 cap7 w7 hown7 hgrow7 _ _
                have hal := HIN.out.later (World.grownBy_alloc wr (.cells #[.int .i64 (k : Int), .int .u8 (pk s (stp L σ k)), .int .i64 (stepA s (stp L σ k)), .int .i64 (stepB s (stp L σ k)), .int .i64 (stepAt s (stp L σ k) : Int)] 53) none)
                rw [← HXS.out] at hown7
                have HIN7 : Hid _ := hal.app hwB hwW hwZ hgrow7 hown7
                clear hown7 hgrow7 hal
                go_wp2_with (first | (refine ld_row 45 (.tmp 5) w.heap.size ?_ (rst σ) ?_ Try.underlying45 rfl (info_rstate _) ?_; rfl; exact HIN7.out.c.st) | (go_at_call 23; go_must (refine Calls.mono (HT.out _ HIN7.out.c.pg) ?_; rintro e8 w8 ⟨rfl, hg8⟩; have HIN8 : Hid _ := HIN7.out.later hg8; clear hg8)) | (go_at_call 57; go_must (refine Calls.mono (HIH.out _ _ _ HIN8.out.c.pg HIN8.out.own) ?_; rintro e9 w9 ⟨rfl, hg9⟩; have HCO9 : Hid _ := HIN8.out.c.later hg9; clear hg9)))
                go_roundw
                case rel => exact ⟨k + 1, D, by omega, by first | rfl | go_num, by first | rfl | (rw [hadd]) | go_num, HSUM.out, HCO9.out⟩
                case measure => simp [intOf] <;> omega
      · have HA : Hid _ := hat.out
        have hC := HC.out
        have hmono := sumTo_mono (cntW s L f σ row) (show k ≤ L.length by omega)
        have HRES : Hid (min (sumTo (cntW s L f σ row) L.length) left = C) := by show min (sumTo (cntW s L f σ row) L.length) left = C; omega
        clear hat hC hmono
        go_wp2_with fail
        go_ret
        exact ⟨by rw [HRES.out]; rfl, HA.out.gr⟩
    · obtain rfl : k = L.length := by omega
      have HA : Hid _ := hat.out
      clear hat
      go_wp2_with fail
      go_ret
      exact ⟨by rw [← HC.out]; rfl, HA.out.gr⟩
end Go.Proofs.Ytimgindeiekpmaa

