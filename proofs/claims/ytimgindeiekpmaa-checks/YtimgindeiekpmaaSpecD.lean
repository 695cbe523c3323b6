import Derived.Test.YtimgindeiekpmaaSpecC
namespace Go.Proofs.Ytimgindeiekpmaa.Wv

def Mid (s : ByteArray) (i m : Nat) (A B At : Int) : Prop :=
  (m = 0 ∧ A = 0 ∧ B = 0 ∧ At = 0) ∨ (m = 1 ∧ kin (f0 (pk s i)) (pk s (i + 1)) = true ∧ A = pk s (i + 1) - klo (f0 (pk s i)) ∧ B = 0 ∧ At = (i : Int) + 1) ∨
  (m = 2 ∧ kin (f0 (pk s i)) (pk s (i + 1)) = true ∧ kin (f1 (pk s i)) (pk s (i + 2)) = true ∧ A = pk s (i + 1) - klo (f0 (pk s i)) ∧ B = pk s (i + 2) - klo (f1 (pk s i)) ∧ At = (i : Int) + 2)

theorem frm_shape (c : Int) : frm c = [] ∨ (∃ a, frm c = [a]) ∨ ∃ a b, frm c = [a, b] := by
  unfold frm
  split
  · exact .inr (.inr ⟨_, _, rfl⟩)
  split
  · exact .inr (.inr ⟨_, _, rfl⟩)
  split
  · exact .inr (.inr ⟨_, _, rfl⟩)
  split
  · exact .inr (.inr ⟨_, _, rfl⟩)
  split
  · exact .inr (.inl ⟨_, rfl⟩)
  split
  · exact .inr (.inl ⟨_, rfl⟩)
  split
  · exact .inr (.inl ⟨_, rfl⟩)
  exact .inl rfl

section
variable {s : ByteArray} {i : Nat} {F : ByteArray}
theorem frm_size (hF : F = ⟨(frm (pk s i)).toArray⟩) (hf : frm (pk s i) ≠ []) : 0 < F.size ∧ F.size ≤ 2 ∧ F.size = (frm (pk s i)).length := by
  have hl : F.size = (frm (pk s i)).length := by rw [hF]; rfl
  have hp := List.length_pos_iff.2 hf
  rcases frm_shape (pk s i) with h | ⟨a, h⟩ | ⟨a, b, h⟩
  · exact absurd h hf
  · rw [h] at hl hF; subst hF; exact ⟨by simp [hl], by simp [hl], by rw [h]; exact hl⟩
  · rw [h] at hl hF; subst hF; exact ⟨by simp [hl], by simp [hl], by rw [h]; exact hl⟩
theorem pk_list (fs : List UInt8) (m : Nat) (hm : m < fs.length) : pk ⟨fs.toArray⟩ m = ((fs[m]?.getD 0).toNat : Int) := by
  unfold pk
  rw [dif_pos (show m < (⟨fs.toArray⟩ : ByteArray).size from hm)]
  show (((fs.toArray[m]'(by simpa using hm)).toNat : Nat) : Int) = _
  rw [List.getElem_toArray, List.getElem?_eq_getElem hm]
  rfl
theorem pkF (hF : F = ⟨(frm (pk s i)).toArray⟩) (m : Nat) (hm : m < F.size) : pk F m = (((frm (pk s i))[m]?.getD 0).toNat : Int) := by
  have hl : F.size = (frm (pk s i)).length := by rw [hF]; rfl
  rw [hF]
  exact pk_list _ m (by omega)

theorem stepBad_one {a : UInt8} (h : frm (pk s i) = [a]) : stepBad s i = if kin a.toNat (pk s (i + 1)) then none else some (i + 1) := by
  unfold stepBad; rw [h]; simp [scan]
theorem stepBad_two {a b : UInt8} (h : frm (pk s i) = [a, b]) : stepBad s i = if kin a.toNat (pk s (i + 1)) then (if kin b.toNat (pk s (i + 2)) then none else some (i + 2)) else some (i + 1) := by
  unfold stepBad; rw [h]; simp [scan]

theorem mid_fail {m : Nat} {A B At : Int} (hF : F = ⟨(frm (pk s i)).toArray⟩) (hf : frm (pk s i) ≠ []) (h : Mid s i m A B At) (hm : m < F.size) (hk : kin (pk F m) (pk s (i + m + 1)) = false) : stepBad s i = some (i + m + 1) := by
  have hg := pkF hF m hm
  have hsz := (frm_size hF hf).2.2
  rw [hg] at hk
  rcases h with ⟨rfl, _⟩ | ⟨rfl, h1, _⟩ | ⟨rfl, _⟩
  · rcases frm_shape (pk s i) with h | ⟨a, h⟩ | ⟨a, b, h⟩
    · exact absurd h hf
    · rw [stepBad_one h]; rw [h] at hk; simp at hk; simp [hk]
    · rw [stepBad_two h]; rw [h] at hk; simp at hk; simp [hk]
  · rcases frm_shape (pk s i) with h | ⟨a, h⟩ | ⟨a, b, h⟩
    · exact absurd h hf
    · rw [h] at hsz; simp at hsz; omega
    · unfold f0 at h1; rw [h] at h1; rw [stepBad_two h]; rw [h] at hk; simp at hk h1; simp [hk, h1]
  · have := (frm_size hF hf).2.1; omega
theorem mid_next0 {A B At : Int} (hF : F = ⟨(frm (pk s i)).toArray⟩) (hf : frm (pk s i) ≠ []) (h : Mid s i 0 A B At) (hk : kin (pk F 0) (pk s (i + 1)) = true) : Mid s i 1 (pk s (i + 1) - klo (pk F 0)) B ((i : Int) + 1) := by
  have hg := pkF hF 0 (frm_size hF hf).1
  rcases h with ⟨_, _, hB, _⟩ | ⟨h0, _⟩ | ⟨h0, _⟩
  · refine .inr (.inl ⟨rfl, ?_, ?_, hB, rfl⟩)
    · rw [hg] at hk; exact hk
    · rw [hg]; rfl
  · omega
  · omega
theorem mid_next1 {A B At : Int} (hF : F = ⟨(frm (pk s i)).toArray⟩) (hm : 1 < F.size) (h : Mid s i 1 A B At) (hk : kin (pk F 1) (pk s (i + 2)) = true) : Mid s i 2 A (pk s (i + 2) - klo (pk F 1)) ((i : Int) + 2) := by
  have hg := pkF hF 1 hm
  rcases h with ⟨h0, _⟩ | ⟨_, h1, hA, hB, _⟩ | ⟨h0, _⟩
  · omega
  · refine .inr (.inr ⟨rfl, h1, ?_, hA, ?_, rfl⟩)
    · rw [hg] at hk; exact hk
    · rw [hg]; rfl
  · omega
theorem mid_done {A B At : Int} (hF : F = ⟨(frm (pk s i)).toArray⟩) (hf : frm (pk s i) ≠ []) (h : Mid s i F.size A B At) : stepBad s i = none ∧ A = stepA s i ∧ B = stepB s i ∧ At = (stepAt s i : Int) ∧ (stepAt s i : Int) = i + F.size := by
  have hsz := (frm_size hF hf).2.2
  have hat : (stepAt s i : Int) = i + F.size := by unfold stepAt; omega
  rcases frm_shape (pk s i) with e | ⟨a, e⟩ | ⟨a, b, e⟩
  · exact absurd e hf
  · rw [e] at hsz
    rcases h with ⟨h0, _⟩ | ⟨_, h1, hA, hB, hAt⟩ | ⟨h0, _⟩
    · simp at hsz; omega
    · refine ⟨?_, hA, ?_, ?_, hat⟩
      · rw [stepBad_one e]; unfold f0 at h1; rw [e] at h1; simp at h1; simp [h1]
      · rw [hB]; unfold stepB; rw [e]; simp
      · rw [hat, hAt, hsz]; simp
    · simp at hsz; omega
  · rw [e] at hsz
    rcases h with ⟨h0, _⟩ | ⟨h0, _⟩ | ⟨_, h1, h2, hA, hB, hAt⟩
    · simp at hsz; omega
    · simp at hsz; omega
    · refine ⟨?_, hA, ?_, ?_, hat⟩
      · rw [stepBad_two e]; unfold f0 at h1; unfold f1 at h2; rw [e] at h1 h2; simp at h1 h2; simp [h1, h2]
      · rw [hB]; unfold stepB; rw [if_pos (by rw [e]; rfl)]
      · rw [hat, hAt, hsz]; simp
theorem letv_neg {g p : Int} (h : letv g p < 0) : kin g p = false := by
  unfold letv at h
  split at h
  · rename_i hk; have := kdiff hk; omega
  · rename_i hk; simpa using hk
theorem letv_pos {g p : Int} (h : ¬ letv g p < 0) : kin g p = true ∧ letv g p = p - klo g := by
  unfold letv at h ⊢
  split at h
  · rename_i hk; exact ⟨hk, by simp [hk]⟩
  · omega
theorem kin_out {g : Int} : kin g (-1) = false := by
  have : 48 ≤ klo g := by unfold klo; split <;> (try split) <;> (try split) <;> omega
  simp [kin]; omega
end
end Go.Proofs.Ytimgindeiekpmaa.Wv
