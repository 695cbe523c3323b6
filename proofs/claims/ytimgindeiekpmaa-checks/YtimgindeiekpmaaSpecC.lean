import Derived.Test.YtimgindeiekpmaaSpecB
namespace Go.Proofs.Ytimgindeiekpmaa.Wv

theorem flatMap_get {cel : Nat → List Value} {sz : Nat} (hlen : ∀ i, (cel i).length = sz) : ∀ (l : List Nat) (k : Nat) (hk : k < l.length) (j : Nat), j < sz → (l.flatMap cel)[k * sz + j]? = (cel l[k])[j]?
  | [], k, hk, _, _ => by simp at hk
  | x :: l, 0, hk, j, hj => by simp only [List.flatMap_cons]; rw [List.getElem?_append_left (by rw [hlen]; omega)]; simp
  | x :: l, k + 1, hk, j, hj => by
    simp only [List.flatMap_cons]
    rw [List.getElem?_append_right (by rw [hlen, Nat.add_mul]; omega), hlen]
    rw [show (k + 1) * sz + j - sz = k * sz + j from by rw [Nat.add_mul]; omega]
    rw [flatMap_get hlen l k (by simpa using hk) j hj]
    simp

theorem kdiff {f c : Int} (h : kin f c = true) : 0 ≤ c - klo f ∧ c - klo f ≤ 9 := by
  simp [kin] at h
  have : khi f - klo f ≤ 9 := by unfold khi klo; split <;> (try split) <;> (try split) <;> omega
  omega

theorem scan0 {s : ByteArray} {f : UInt8} {fs : List UInt8} {i : Nat} (h : scan s (f :: fs) i = none) : kin f.toNat (pk s i) = true ∧ scan s fs (i + 1) = none := by
  simp only [scan] at h
  split at h
  · exact ⟨by assumption, h⟩
  · cases h

/-- A step that was read: its numbers are digits. -/
theorem good_bounds {s : ByteArray} {i : Nat} (h : stepBad s i = none) : (0 ≤ stepA s i ∧ stepA s i ≤ 9) ∧ (0 ≤ stepB s i ∧ stepB s i ≤ 9) := by
  unfold stepBad at h
  split at h
  · cases h
  · unfold stepA stepB f0 f1
    cases hf : frm (pk s i) with
    | nil => rename_i hne; exact absurd hf hne
    | cons f fs =>
      rw [hf] at h
      obtain ⟨h1, h2⟩ := scan0 h
      refine ⟨?_, ?_⟩
      · simpa using kdiff h1
      · cases fs with
        | nil => simp
        | cons g gs =>
          obtain ⟨h3, h4⟩ := scan0 h2
          cases gs with
          | nil => simpa using kdiff h3
          | cons _ _ => simp
theorem good_dig {s : ByteArray} {i : Nat} (h : stepBad s i = none) : 0 ≤ cDig s i ∧ cDig s i ≤ 9 := by
  have := good_bounds h
  unfold cDig
  split
  · omega
  · split <;> omega

theorem thr_good {s : ByteArray} : ∀ {m i j : Nat} {l l' : List Nat}, thr s m i l = .ok (l', j) → (∀ x ∈ l, stepBad s x = none) → (∀ x ∈ l', stepBad s x = none) ∧ l'.length ≤ l.length + m + 1
  | m, i, j, l, l', h, hl => by
    cases hb : stepBad s i with
    | some p => cases m <;> simp [thr, hb] at h
    | none =>
      have hl' : ∀ x ∈ l ++ [i], stepBad s x = none := by
        intro x hx
        rcases List.mem_append.1 hx with hx | hx
        · exact hl x hx
        · simp at hx; subst hx; exact hb
      cases m with
      | zero =>
        simp only [thr, hb] at h
        split at h
        · simp at h; rw [← h.1]; exact ⟨hl', by simp⟩
        · cases h
      | succ m =>
        simp only [thr, hb] at h
        split at h
        · simp at h; rw [← h.1]; exact ⟨hl', by simp <;> omega⟩
        · split at h
          · have := thr_good (m := m) h hl'
            refine ⟨this.1, ?_⟩
            have h2 := this.2
            simp at h2
            omega
          · cases h

theorem thread_good {s : ByteArray} {i j : Nat} {l : List Nat} (h : thread s i = .ok (l, j)) : (∀ x ∈ l, stepBad s x = none) ∧ l.length ≤ 8 := by
  unfold thread at h
  split at h
  · simp at h; rw [h.1]; simp
  · have := thr_good h (by simp)
    simpa using this

theorem rd_good {s : ByteArray} : ∀ {n i : Nat} {L L' : List (List Nat)}, rd s n i L = .ok L' → (∀ l ∈ L, (∀ x ∈ l, stepBad s x = none) ∧ l.length ≤ 8) → (∀ l ∈ L', (∀ x ∈ l, stepBad s x = none) ∧ l.length ≤ 8) ∧ L'.length ≤ L.length + n + 1
  | n, i, L, L', h, hL => by
    cases ht : thread s i with
    | error p => cases n <;> simp [rd, ht] at h
    | ok x =>
      obtain ⟨l, j⟩ := x
      have hg := thread_good ht
      have hL' : ∀ m ∈ L ++ [l], (∀ x ∈ m, stepBad s x = none) ∧ m.length ≤ 8 := by
        intro m hm
        rcases List.mem_append.1 hm with hm | hm
        · exact hL m hm
        · simp at hm; subst hm; exact hg
      cases n with
      | zero =>
        simp only [rd, ht] at h
        split at h
        · simp at h; rw [← h]; exact ⟨hL', by simp⟩
        · cases h
      | succ n =>
        simp only [rd, ht] at h
        split at h
        · simp at h; rw [← h]; exact ⟨hL', by simp <;> omega⟩
        · have := rd_good (n := n) h hL'
          refine ⟨this.1, ?_⟩
          have h2 := this.2
          simp at h2
          omega

end Go.Proofs.Ytimgindeiekpmaa.Wv
