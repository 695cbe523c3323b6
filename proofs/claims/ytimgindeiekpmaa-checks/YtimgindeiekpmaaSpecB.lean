import Derived.Test.YtimgindeiekpmaaSpec
namespace Go.Proofs.Ytimgindeiekpmaa.Wv

/-- What comes of a thread that was read: the threads behind it. -/
def aft (s : ByteArray) (n : Nat) (L : List (List Nat)) : Except Nat (List Nat × Nat) → Except Nat (List (List Nat))
  | .error p => .error p
  | .ok (l, j) => if pk s j = -1 then .ok (L ++ [l]) else match n with
    | 0 => .error j
    | n + 1 => rd s n (j + 1) (L ++ [l])
/-- .. of the place behind a thread's steps, whatever stands there. -/
def beh (s : ByteArray) (n : Nat) (L : List (List Nat)) (l : List Nat) (j : Nat) : Except Nat (List (List Nat)) :=
  if pk s j = -1 then .ok (L ++ [l]) else if pk s j = 124 then match n with
    | 0 => .error j
    | n + 1 => rd s n (j + 1) (L ++ [l])
  else .error j

theorem rd_aft (s : ByteArray) (n i : Nat) (L : List (List Nat)) : rd s n i L = aft s n L (thread s i) := by
  cases n with
  | zero => rw [rd]; cases thread s i with
    | error p => rfl
    | ok x => rfl
  | succ n => rw [rd]; cases thread s i with
    | error p => rfl
    | ok x => rfl

theorem rd_none {s : ByteArray} {n i : Nat} {L : List (List Nat)} (h : pk s i = -1 ∨ pk s i = 124) : rd s n i L = beh s n L [] i := by
  rw [rd_aft, thread, if_pos h]
  rcases h with h | h
  · simp [aft, beh, h]
  · simp [aft, beh, h]
theorem rd_some {s : ByteArray} {n i : Nat} {L : List (List Nat)} (h : ¬ (pk s i = -1 ∨ pk s i = 124)) : rd s n i L = aft s n L (thr s 7 i []) := by
  rw [rd_aft, thread, if_neg h]

theorem thr_bad {s : ByteArray} {m i p : Nat} {l : List Nat} (h : stepBad s i = some p) : thr s m i l = .error p := by
  cases m <;> simp [thr, h]
theorem thr_go {s : ByteArray} {m i : Nat} {l : List Nat} (h : stepBad s i = none) (hp : pk s (stepAt s i + 1) = 59) : thr s (m + 1) i l = thr s m (stepAt s i + 2) (l ++ [i]) := by
  simp [thr, h, hp]
theorem aft_beh {s : ByteArray} {m n i : Nat} {l : List Nat} {L : List (List Nat)} (h : stepBad s i = none) (hp : pk s (stepAt s i + 1) ≠ 59 ∨ m = 0) :
    aft s n L (thr s m i l) = beh s n L (l ++ [i]) (stepAt s i + 1) := by
  by_cases h1 : pk s (stepAt s i + 1) = -1
  · cases m <;> simp [thr, h, h1, aft, beh]
  by_cases h2 : pk s (stepAt s i + 1) = 124
  · cases m <;> simp [thr, h, h2, aft, beh] <;> rfl
  have e : thr s m i l = .error (stepAt s i + 1) := by
    rcases hp with hp | hp
    · cases m <;> simp [thr, h, h1, h2, hp]
    · subst hp; simp [thr, h, h1, h2]
  rw [e]
  simp [aft, beh, h1, h2]
theorem beh_end {s : ByteArray} {n j : Nat} {l : List Nat} {L : List (List Nat)} (h : pk s j = -1) : beh s n L l j = .ok (L ++ [l]) := by simp [beh, h]
theorem beh_bar {s : ByteArray} {n j : Nat} {l : List Nat} {L : List (List Nat)} (h : pk s j = 124) : beh s (n + 1) L l j = rd s n (j + 1) (L ++ [l]) := by simp [beh, h]
theorem beh_bar0 {s : ByteArray} {j : Nat} {l : List Nat} {L : List (List Nat)} (h : pk s j = 124) : beh s 0 L l j = .error j := by simp [beh, h]
theorem beh_else {s : ByteArray} {n j : Nat} {l : List Nat} {L : List (List Nat)} (h : pk s j ≠ -1) (h' : pk s j ≠ 124) : beh s n L l j = .error j := by simp [beh, h, h']

theorem scan_le {s : ByteArray} : ∀ {fs : List UInt8} {i : Nat}, scan s fs i = none → ∀ k, k < fs.length → 0 ≤ pk s (i + k)
  | [], _, _, k, hk => by simp at hk
  | f :: fs, i, h, k, hk => by
    simp only [scan] at h
    split at h
    · rename_i hin
      cases k with
      | zero =>
        simp [kin] at hin
        have : 48 ≤ klo f.toNat := by unfold klo; split <;> (try split) <;> (try split) <;> omega
        simp; omega
      | succ k =>
        have := scan_le h k (by simpa using hk)
        rw [show i + (k + 1) = i + 1 + k from by omega]; exact this
    · cases h

end Go.Proofs.Ytimgindeiekpmaa.Wv
