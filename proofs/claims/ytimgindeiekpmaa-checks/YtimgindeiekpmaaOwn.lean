import Derived.WalkKit
import Derived.WalkSpells
namespace Go.Proofs.Ytimgindeiekpmaa

/-- A row of places' cells that lies below block B. -/
structure Inner (w : World) (base te sz : Nat) (cel : Nat → List Value) (B : Nat) (v : Value) (l : List Nat) : Prop where
  own : w.ownsRow base te sz v l.length (l.flatMap cel)
  lt : ∀ g, v.ownBlock = some g → g < B

/-- A row of such rows. -/
structure OwnT (w : World) (base ts te sz : Nat) (cel : Nat → List Value) (B : Nat) (tv : Value) (vs : List Value) (L : List (List Nat)) : Prop where
  out : w.ownsRow base ts 1 tv L.length vs
  inn : ∀ (k : Nat) (l : List Nat), L[k]? = some l → ∃ v, vs[k]? = some v ∧ Inner w base te sz cel B v l

section
variable {w w' : World} {base ts te sz : Nat} {cel : Nat → List Value} {B B' : Nat} {tv : Value} {vs : List Value} {L : List (List Nat)}

theorem Inner.kept {v : Value} {l : List Nat} {row : Option Nat} (h : Inner w base te sz cel B v l) (hg : w.grownBy w' row) (hr : ∀ r, row = some r → r < base ∨ B ≤ r) : Inner w' base te sz cel B v l := by
  refine ⟨h.own.kept hg ?_, h.lt⟩
  cases hv : v.ownBlock with
  | none => exact .inl rfl
  | some g =>
    refine .inr fun e => ?_
    have h1 := h.own.lt g hv
    have h2 := h.lt g hv
    rcases hr g e.symm with h3 | h3 <;> omega
theorem Inner.mono {v : Value} {l : List Nat} (h : Inner w base te sz cel B v l) (hB : B ≤ B') : Inner w base te sz cel B' v l := ⟨h.own, fun g hg => by have := h.lt g hg; omega⟩
/-- A row whose block holds cells of another type is not written through the outer row. -/
theorem Inner.kept_other {v : Value} {l : List Nat} {n : Nat} {xs : List Value} (h : Inner w base te sz cel B v l) (ho : w.ownsRow base ts 1 tv n xs) (hg : w.grownBy w' tv.ownBlock) (hne : te ≠ ts) : Inner w' base te sz cel B v l := by
  refine ⟨h.own.kept hg ?_, h.lt⟩
  cases hv : v.ownBlock with
  | none => exact .inl rfl
  | some g =>
    refine .inr fun e => ?_
    rcases h.own.2 with ⟨rfl, _⟩ | ⟨g1, c1, u1, rfl, _, hh1, _⟩
    · simp [Value.ownBlock] at hv
    rcases ho.2 with ⟨rfl, _⟩ | ⟨g2, c2, u2, rfl, _, hh2, _⟩
    · simp [Value.ownBlock] at e
    simp [Value.ownBlock] at hv e
    subst hv; subst e
    rw [hh1] at hh2
    simp at hh2
    exact hne hh2.2

theorem OwnT.kept {row : Option Nat} (h : OwnT w base ts te sz cel B tv vs L) (hg : w.grownBy w' row) (h1 : tv.ownBlock = none ∨ tv.ownBlock ≠ row) (h2 : ∀ r, row = some r → r < base ∨ B ≤ r) : OwnT w' base ts te sz cel B tv vs L :=
  ⟨h.out.kept hg h1, fun k l hl => let ⟨v, hv, hi⟩ := h.inn k l hl; ⟨v, hv, hi.kept hg h2⟩⟩
theorem OwnT.mono (h : OwnT w base ts te sz cel B tv vs L) (hB : B ≤ B') : OwnT w base ts te sz cel B' tv vs L :=
  ⟨h.out, fun k l hl => let ⟨v, hv, hi⟩ := h.inn k l hl; ⟨v, hv, hi.mono hB⟩⟩
theorem OwnT.len (h : OwnT w base ts te sz cel B tv vs L) : vs.length = L.length := by simpa using h.out.1
theorem OwnT.push {v tv' : Value} {l : List Nat} (h : OwnT w base ts te sz cel B tv vs L) (hi : Inner w base te sz cel B' v l) (hB : B ≤ B') (hne : te ≠ ts)
    (hg : w.grownBy w' tv.ownBlock) (ho : w'.ownsRow base ts 1 tv' (L.length + 1) (vs ++ [v])) : OwnT w' base ts te sz cel B' tv' (vs ++ [v]) (L ++ [l]) := by
  refine ⟨by simpa using ho, fun k m hm => ?_⟩
  have hlen := h.len
  rcases Nat.lt_or_ge k L.length with hk | hk
  · rw [List.getElem?_append_left hk] at hm
    obtain ⟨u, hu, hin⟩ := h.inn k m hm
    exact ⟨u, by rw [List.getElem?_append_left (by omega)]; exact hu, (hin.mono hB).kept_other h.out hg hne⟩
  · rw [List.getElem?_append_right hk] at hm
    have hk' : k = L.length := by
      rcases Nat.eq_or_lt_of_le hk with e | e
      · exact e.symm
      · rw [List.getElem?_eq_none (by simp; omega)] at hm; cases hm
    subst hk'
    simp at hm
    subst hm
    exact ⟨v, by rw [List.getElem?_append_right (by omega)]; simp [hlen], hi.kept_other h.out hg hne⟩
theorem OwnT.nil (w : World) (base ts te sz : Nat) (cel : Nat → List Value) (B : Nat) : OwnT w base ts te sz cel B (.slice none 0 0) [] [] :=
  ⟨World.ownsRow_nil w base ts 1, fun k l hl => by simp at hl⟩

/-- The outer row's block is none that holds cells of another type. -/
theorem ownsRow_ne {n sz' : Nat} {xs : List Value} {c : Array Value} {t r : Nat} {fz : Nat × Nat} (h : w.ownsRow base ts sz' tv n xs) (hb : w.heap[r]? = some (.cells c t fz)) (ht : t ≠ ts) : tv.ownBlock ≠ some r := by
  rcases h.2 with ⟨rfl, _⟩ | ⟨g1, c1, u1, rfl, _, hh1, _⟩
  · simp [Value.ownBlock]
  · simp only [Value.ownBlock]
    intro e
    simp at e
    subst e
    rw [hh1] at hb
    simp at hb
    exact ht hb.2.1.symm
/-- The value of a row that holds something. -/
theorem ownsRow_shape {n sz' : Nat} {xs : List Value} (h : w.ownsRow base ts sz' tv (n + 1) xs) : ∃ g cap, tv = .slice (some ⟨g, 0, none⟩) (n + 1) cap ∧ base ≤ g := by
  rcases h.2 with ⟨_, h0⟩ | ⟨g, cap, cur, hv, hg, _⟩
  · omega
  · exact ⟨g, cap, hv, hg⟩
theorem ownsRow_slice {n sz' : Nat} {xs : List Value} (h : w.ownsRow base ts sz' tv n xs) : ∃ ao cap, tv = .slice ao n cap := by
  rcases h.2 with ⟨h1, h0⟩ | ⟨g, cap, cur, hv, hg, _⟩
  · exact ⟨none, 0, by rw [h1, h0]⟩
  · exact ⟨_, cap, hv⟩
theorem cells_new (w : World) (xs : List Value) (t : TypeId) : ∀ (j : Nat) (u : Value), xs[j]? = some u → (w.alloc (.cells xs.toArray t)).cell? ((⟨w.heap.size, 0, none⟩ : Addr).add j) = some u := by
  intro j u hu
  have hadd : (⟨w.heap.size, 0, none⟩ : Addr).add j = ⟨w.heap.size, j, none⟩ := by unfold Addr.add; split <;> simp_all
  rw [hadd, cell_of_row _ _ j xs.toArray t (0, 0) (heap_alloc_new w _)]
  simpa using hu
theorem ownsRow_base {n sz' : Nat} {xs : List Value} {base' : Nat} (h : w.ownsRow base ts sz' tv n xs) (hb : base' ≤ base) : w.ownsRow base' ts sz' tv n xs := by
  refine ⟨h.1, ?_⟩
  rcases h.2 with h0 | ⟨g, cap, cur, hv, hg, r⟩
  · exact .inl h0
  · exact .inr ⟨g, cap, cur, hv, by omega, r⟩
end
end Go.Proofs.Ytimgindeiekpmaa
