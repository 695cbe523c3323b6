import Derived.Test.YtimgindeiekpmaaCodeC
import Derived.Test.YtimgindeiekpmaaSpecB
import Derived.Test.YtimgindeiekpmaaOwn
set_option linter.unusedSimpArgs false
set_option linter.unusedVariables false
namespace Go.Proofs.Ytimgindeiekpmaa
open Go.RowKit Wv

theorem info_steps : (Try.prog.info? 114).map (fun i => (i.zero, i.size, i.bytes)) = some (some (.slice none 0 0), 1, 24) := by kernel_rfl
theorem info_step : (Try.prog.info? 143).map (fun i => (i.zero, i.size, i.bytes)) = some (some (.agg #[.int .u8 0, .int .u8 0, .int .u8 0, .int .u8 0, .int .u8 0, .int .u8 0, .int .i64 0]), 7, 16) := by kernel_rfl

/-- What lies behind a label of readThreads. -/
def IsRest (l : Nat) (R : Code) : Prop := ∃ r0 c, Try.f58.body = some (.seq r0 (.scope c)) ∧ findLabel c l = some (.seq .skip R)

/-- The frame of readThreads. -/
def fr (p tv sv : Value) (x : Nat → Value) : Act := { tmps := #[p, x 1, x 2, tv, sv, x 5, x 6, x 7, x 8, x 9, x 10, x 11, x 12, x 13, x 14, x 15, x 16, x 17, x 18, x 19, x 20, x 21, x 22, x 23, x 24, x 25, x 26, x 27, x 28, x 29, x 30, x 31, x 32, x 33, x 34, x 35, x 36, x 37, x 38, x 39, x 40, x 41, x 42, x 43, x 44, x 45, x 46, x 47, x 48, x 49, x 50, x 51, x 52, x 53, x 54, x 55, x 56, x 57, x 58, x 59, x 60, x 61, x 62], defers := [] }

/-- In mid-reading: the reader's place, the threads so far, all of whose rows lie below block B. -/
structure JJ (w0 w : World) (b : Nat) (s : ByteArray) (i B : Nat) (tv : Value) (vs : List Value) (L : List (List Nat)) : Prop where
  rd : RdAt w b s i
  le : i ≤ s.size
  old : b < w0.heap.size
  grow : w0.grownBy w (some b)
  ownT : OwnT w w0.heap.size 114 143 7 (ccells s) B tv vs L
  lo : w0.heap.size ≤ B
  hi : B ≤ w.heap.size

theorem grownBy_new {w0 w w1 : World} {b : Option Nat} {row : Option Nat} (h : w0.grownBy w b) (hg : w.grownBy w1 row) (hr : ∀ r, row = some r → w0.heap.size ≤ r) : w0.grownBy w1 b := by
  refine ⟨hg.os.trans h.os, hg.tape.trans h.tape, hg.output.trans h.output, Nat.le_trans h.size hg.size, fun k hk hb => ?_⟩
  rw [hg.block k (Nat.lt_of_lt_of_le hk h.size) (fun e => by have := hr k e.symm; omega)]
  exact h.block k hk hb

section
variable {w0 w w1 : World} {b : Nat} {s : ByteArray} {i B : Nat} {tv : Value} {vs : List Value} {L : List (List Nat)}

theorem JJ.tvne (h : JJ w0 w b s i B tv vs L) : tv.ownBlock ≠ some b := by
  intro e
  have := h.ownT.out.lt b e
  have := h.old
  omega
theorem JJ.drewN (h : JJ w0 w b s i B tv vs L) (n : Nat) : JJ w0 (w.drewN n) b s i B tv vs L :=
  ⟨h.rd.drewN n, h.le, h.old, grownBy_trans h.grow (grownBy_drewN w n _), h.ownT.kept (grownBy_drewN w n none) (by cases tv.ownBlock <;> simp) (by simp), h.lo, h.hi⟩
theorem JJ.alloc (h : JJ w0 w b s i B tv vs L) (o : Obj) : JJ w0 (w.alloc o) b s i B tv vs L :=
  ⟨h.rd.alloc o, h.le, h.old, grownBy_alloc_of h.grow o, h.ownT.kept (World.grownBy_alloc w o none) (by cases tv.ownBlock <;> simp) (by simp), h.lo, by have := h.hi; simp; omega⟩
/-- The reader has gone on. -/
theorem JJ.read (h : JJ w0 w b s i B tv vs L) {j : Nat} (hr : RdAt w1 b s j) (hj : j ≤ s.size) (hg : w.grownBy w1 (some b)) : JJ w0 w1 b s j B tv vs L :=
  ⟨hr, hj, h.old, grownBy_trans h.grow hg, h.ownT.kept hg (.inr h.tvne) (fun r e => by cases e; exact .inl h.old), h.lo, Nat.le_trans h.hi hg.size⟩
theorem JJ.place (h : JJ w0 w b s i B tv vs L) (v : Int) (hv : v = ((i + 1 : Nat) : Int)) (hlt : i < s.size) : JJ w0 (w.setCell ⟨b, 1, none⟩ (.int .i64 v)) b s (i + 1) B tv vs L :=
  h.read (h.rd.set (i + 1) v hv) (by omega) (grownBy_setCell _ _ _ _)
theorem JJ.top (h : JJ w0 w b s i B tv vs L) : JJ w0 w b s i w.heap.size tv vs L :=
  ⟨h.rd, h.le, h.old, h.grow, h.ownT.mono h.hi, Nat.le_trans h.lo h.hi, Nat.le_refl _⟩
theorem JJ.row (h : JJ w0 w b s i B tv vs L) {sv : Value} {n : Nat} {xs : List Value} (hl : w.ownsRow B 143 7 sv n xs) (hg : w.grownBy w1 (some b)) : w1.ownsRow B 143 7 sv n xs := by
  refine hl.kept hg (.inr fun e => ?_)
  have := (hl.lt b e).1
  have := h.lo
  have := h.old
  omega
/-- A thread more. -/
theorem JJ.pushed (h : JJ w0 w b s i B tv vs L) {sv tv' : Value} {l : List Nat} (hl : w.ownsRow B 143 7 sv l.length (l.flatMap (ccells s))) {row : Option Nat}
    (hrow : row = tv.ownBlock) (hg : w.grownBy w1 row) (ho : w1.ownsRow w0.heap.size 114 1 tv' (L.length + 1) (vs ++ [sv])) : JJ w0 w1 b s i w1.heap.size tv' (vs ++ [sv]) (L ++ [l]) := by
  subst hrow
  have hB := h.hi
  have hsz := hg.size
  have hlo := h.lo
  refine ⟨⟨?_⟩, h.le, h.old, grownBy_new h.grow hg (fun r e => (h.ownT.out.lt r e).1), ?_, by omega, Nat.le_refl _⟩
  · rw [hg.block b h.rd.lt (fun e => h.tvne e.symm)]; exact h.rd.blk
  · refine (h.ownT.push (B' := w.heap.size) ⟨ownsRow_base hl h.lo, fun g hgv => (hl.lt g hgv).2⟩ hB (by decide) hg ho).mono hsz
/-- A step more in a row of its own. -/
theorem JJ.grown (h : JJ w0 w b s i B tv vs L) {sv sv' : Value} {n m : Nat} {xs ys : List Value} (hl : w.ownsRow B 143 7 sv n xs)
    (hg : w.grownBy w1 sv.ownBlock) (ho : w1.ownsRow B 143 7 sv' m ys) : JJ w0 w1 b s i B tv vs L := by
  have hlo := h.lo
  have hold := h.old
  have hge : ∀ r, sv.ownBlock = some r → B ≤ r := fun r e => (hl.lt r e).1
  refine ⟨⟨?_⟩, h.le, h.old, grownBy_new h.grow hg (fun r e => by have := hge r e; omega), h.ownT.kept hg ?_ (fun r e => .inr (hge r e)), h.lo, Nat.le_trans h.hi hg.size⟩
  · rw [hg.block b h.rd.lt (fun e => by have := hge b e.symm; omega)]; exact h.rd.blk
  · rcases hl.2 with ⟨rfl, _⟩ | ⟨g, cap, cur, rfl, _, hh, _⟩
    · cases ht : tv.ownBlock with
      | none => exact .inl rfl
      | some g => exact .inr (by simp [Value.ownBlock])
    · exact .inr (ownsRow_ne h.ownT.out hh (by decide))
end

/-- What readThreads comes to. -/
def RtPost (w0 : World) (b : Nat) (s : ByteArray) (R : Except Nat (List (List Nat))) (e : Ending) (w' : World) : Prop :=
  w0.grownBy w' (some b) ∧ match R with
  | .error q => e = .panicked (refusal 2 (q : Int))
  | .ok L => ∃ tv vs, e = .returned tv ∧ OwnT w' w0.heap.size 114 143 7 (ccells s) w'.heap.size tv vs L

/-- The act is a frame of readThreads with these three. -/
def FrOf (a : Act) (p tv sv : Value) : Prop := a = fr p tv sv (fun k => a.tmps.getD k undef)
theorem FrOf.out {a : Act} {p tv sv : Value} (h : FrOf a p tv sv) : ∃ x, a = fr p tv sv x := ⟨_, h⟩

def J0 (w0 : World) (b : Nat) (s : ByteArray) (R : Except Nat (List (List Nat))) (i : Nat) (a : Act) (w : World) : Prop :=
  ∃ tv sv vs L, FrOf a (.pointer (some ⟨b, 0, none⟩)) tv sv ∧ JJ w0 w b s i w.heap.size tv vs L ∧ L.length ≤ 2 ∧ rd s (2 - L.length) i L = R
def J1 (w0 : World) (b : Nat) (s : ByteArray) (R : Except Nat (List (List Nat))) (i : Nat) (a : Act) (w : World) : Prop :=
  ∃ tv sv vs L l B, FrOf a (.pointer (some ⟨b, 0, none⟩)) tv sv ∧ JJ w0 w b s i B tv vs L ∧ L.length ≤ 2 ∧ w.ownsRow B 143 7 sv l.length (l.flatMap (ccells s)) ∧ beh s (2 - L.length) L l i = R
def J2 (w0 : World) (b : Nat) (s : ByteArray) (R : Except Nat (List (List Nat))) (i : Nat) (a : Act) (w : World) : Prop :=
  ∃ tv sv vs L l B, FrOf a (.pointer (some ⟨b, 0, none⟩)) tv sv ∧ JJ w0 w b s i B tv vs L ∧ L.length ≤ 2 ∧ w.ownsRow B 143 7 sv l.length (l.flatMap (ccells s)) ∧ l.length ≤ 7 ∧
    aft s (2 - L.length) L (thr s (7 - l.length) i l) = R

theorem step_le {s : ByteArray} {i : Nat} (h : stepBad s i = none) : stepAt s i + 1 ≤ s.size := by
  unfold stepBad at h
  split at h
  · cases h
  · rename_i hne
    have := scan_le h ((frm (pk s i)).length - 1) (by have := List.length_pos_iff.2 hne; omega)
    have hp := List.length_pos_iff.2 hne
    have := pk_some this
    unfold stepAt
    omega

set_option maxHeartbeats 1000000 in
set_option maxRecDepth 100000 in
theorem rt1 (w0 : World) (b : Nat) (s : ByteArray) (R : Except Nat (List (List Nat))) (hs : s.size ≤ 150) (Rc : Code) (hrc : IsRest 1 Rc) (Jp : Nat → Act → World → Prop)
    (w : World) (i : Nat) (hJ0 : ∀ a w i', i < i' → J0 w0 b s R i' a w → Jp 0 a w)
    (a : Act) (hj1 : J1 w0 b s R i a w) : Rc.wp Try.prog (jmp Jp (bodyPost Try.prog Try.f58 (RtPost w0 b s R))) a w := by
  obtain ⟨tv, sv, vs, L, l, B, hfr, hj, h2, hl, hR⟩ := hj1
  obtain ⟨x, rfl⟩ := hfr.out
  clear hfr
  obtain ⟨ao, cap, rfl⟩ := ownsRow_slice hl
  obtain ⟨r0, c, hb, hf⟩ := hrc
  cases hb
  cases hf
  obtain ⟨i0, hi, hz0, hz1, hz2⟩ := info_parts info_steps
  have HPK : Hid (∀ W, RdAt W b s i → Calls Try.prog 77 #[.pointer (some ⟨b, 0, none⟩)] W fun e w' => e = .returned (.int .i64 (pk s i)) ∧ ∃ n, w' = W.drewN n) := fun W hW => peek_any s i b W hW hj.le hs
  have hown := hj.ownT.out
  have HJ : Hid _ := hj
  have HL : Hid _ := hl
  have HR : Hid _ := hR
  have HJ0 : Hid _ := hJ0
  have hlo := hj.lo
  have hhi := hj.hi
  clear hj hl hR hJ0
  unfold fr
  go_wp2_with (at_builtin; go_must (refine wpList_append_own _ rfl _ _ 74 rfl w0.heap.size 114 i0 (.slice none 0 0) 1 24 Try.underlying74 hi hz0 hz1 hz2 rfl (by decide) _ _ _ rfl (hown.alloc _) ⟨w.heap.size, 0, none⟩ 1 1 [.slice ao l.length cap] rfl rfl ?c1 ?c2 ?c3 ?c4 ?c5 ?_))
  case c1 =>
    intro j u hj
    match j, hj with
    | 0, hj => simp at hj; subst hj; simp [Addr.add]
  case c2 => intro u hu; simp at hu; subst hu; rfl
  case c3 => unfold maxLen; omega
  case c4 => omega
  case c5 => simp; omega
  intro v' w1 hown' hgrow _
  obtain ⟨g, cap', hv, hgb⟩ := ownsRow_shape hown'
  have JP := HJ.out.alloc (.cells #[.slice ao l.length cap] 114)
  have J1 : JJ w0 w1 b s i w1.heap.size v' (vs ++ [.slice ao l.length cap]) (L ++ [l]) := JP.pushed (World.ownsRow.alloc HL.out _) rfl hgrow hown'
  clear hown' hgrow JP hown HJ HL
  subst hv
  have c1 := J1.rd.c1
  have fz := J1.rd.f1
  have HJ1 : Hid _ := J1
  clear J1
  by_cases hq : pk s i = 124
  · have hR := HR.out
    by_cases hL : 2 ≤ L.length
    · rw [show 2 - L.length = 0 from by omega, beh_bar0 hq] at hR
      subst hR
      clear HR
      generalize pk s i = p at *
      subst hq
      go_wp2_with (go_at_call 77; go_must (refine Calls.mono (HPK.out _ (by first | exact HJ1.out.rd | exact HJ1.out.rd.drewN _)) ?_; rintro e w2 ⟨rfl, n, rfl⟩))
      exact ⟨rfl, (HJ1.out.drewN _).grow, rfl⟩
    · rw [show 2 - L.length = (1 - L.length) + 1 from by omega, beh_bar hq] at hR
      have hlt : i < s.size := pk_some (by omega)
      have HR1 : Hid (rd s (2 - (L ++ [l]).length) (i + 1) (L ++ [l]) = R) := by
        rw [show 2 - (L ++ [l]).length = 1 - L.length from by simp]; exact hR
      clear hR HR
      generalize pk s i = p at *
      subst hq
      go_wp2_with (go_at_call 77; go_must (refine Calls.mono (HPK.out _ (by first | exact HJ1.out.rd | exact HJ1.out.rd.drewN _)) ?_; rintro e w2 ⟨rfl, n, rfl⟩))
      go_step3
      refine HJ0.out _ _ (i + 1) (by omega) ⟨_, _, _, _, rfl, ((HJ1.out.drewN _).place ((i : Int) + 1) (by omega) hlt).top, by simp; omega, HR1.out⟩
  · by_cases hq2 : pk s i = -1
    · have hR := HR.out
      rw [beh_end hq2] at hR
      subst hR
      clear HR hq
      generalize pk s i = p at *
      subst hq2
      go_wp2_with (go_at_call 77; go_must (refine Calls.mono (HPK.out _ (by first | exact HJ1.out.rd | exact HJ1.out.rd.drewN _)) ?_; rintro e w2 ⟨rfl, n, rfl⟩))
      go_ret
      exact ⟨(HJ1.out.drewN _).grow, _, _, rfl, (HJ1.out.drewN _).ownT⟩
    · have hR := HR.out
      rw [beh_else hq2 hq] at hR
      have q1 : (pk s i == 124) = false := by simpa using hq
      have q2 : (pk s i != -1) = true := by simpa using hq2
      subst hR
      clear hq hq2 HR
      generalize pk s i = p at *
      go_wp2_with (go_at_call 77; go_must (refine Calls.mono (HPK.out _ (by first | exact HJ1.out.rd | exact HJ1.out.rd.drewN _)) ?_; rintro e w2 ⟨rfl, n, rfl⟩))
      exact ⟨rfl, (HJ1.out.drewN _).grow, rfl⟩

set_option maxHeartbeats 1000000 in
set_option maxRecDepth 100000 in
theorem rt2 (w0 : World) (b : Nat) (s : ByteArray) (R : Except Nat (List (List Nat))) (hs : s.size ≤ 150) (Rc : Code) (hrc : IsRest 2 Rc) (Jp : Nat → Act → World → Prop)
    (w : World) (i : Nat) (hJ0 : ∀ a w i', i < i' → J0 w0 b s R i' a w → Jp 0 a w) (hJ2 : ∀ a w i', i < i' → J2 w0 b s R i' a w → Jp 2 a w)
    (a : Act) (hj2 : J2 w0 b s R i a w) : Rc.wp Try.prog (jmp Jp (bodyPost Try.prog Try.f58 (RtPost w0 b s R))) a w := by
  obtain ⟨tv, sv, vs, L, l, B, hfr, hj, h2, hl, hl7, hR⟩ := hj2
  obtain ⟨x, rfl⟩ := hfr.out
  clear hfr
  obtain ⟨r0, c, hb, hf⟩ := hrc
  cases hb
  cases hf
  obtain ⟨i0, hi, hz0, hz1, hz2⟩ := info_parts info_step
  have HST : Hid _ := readStep_any s i b w hj.rd hj.le hs
  have HJ : Hid _ := hj
  have HL : Hid _ := hl
  have HR : Hid _ := hR
  have HJ0 : Hid _ := hJ0
  have HJ2 : Hid _ := hJ2
  have hlo := hj.lo
  have hhi := hj.hi
  clear hj hl hR hJ0 hJ2
  unfold fr
  cases hsb : stepBad s i with
  | some q =>
    have hR := HR.out
    rw [thr_bad hsb] at hR
    have hst : Calls Try.prog 78 #[.pointer (some ⟨b, 0, none⟩)] w fun e w' => e = .panicked (refusal 2 (q : Int)) ∧ w.grownBy w' (some b) :=
      Calls.mono HST.out fun e w' h => by unfold StepPost at h; rw [hsb] at h; exact h
    have HS : Hid _ := hst
    clear hst HST HR hsb
    subst hR
    go_wp2_with (go_at_call 78; go_must (refine Calls.mono HS.out ?_; rintro e w2 ⟨rfl, hg⟩))
    exact ⟨rfl, grownBy_trans HJ.out.grow hg, rfl⟩
  | none =>
    obtain ⟨a0, a1, a2, a3, a4, a5, a6, hcc⟩ : ∃ a0 a1 a2 a3 a4 a5 a6, ccells s i = [.int .u8 a0, .int .u8 a1, .int .u8 a2, .int .u8 a3, .int .u8 a4, .int .u8 a5, .int .i64 a6] := ⟨_, _, _, _, _, _, _, rfl⟩
    have hst : Calls Try.prog 78 #[.pointer (some ⟨b, 0, none⟩)] w fun e w' => e = .returned (.agg #[.int .u8 a0, .int .u8 a1, .int .u8 a2, .int .u8 a3, .int .u8 a4, .int .u8 a5, .int .i64 a6]) ∧ RdAt w' b s (stepAt s i + 1) ∧ w.grownBy w' (some b) :=
      Calls.mono HST.out fun e w' h => by unfold StepPost at h; rw [hsb, hcc] at h; exact h
    have HS : Hid _ := hst
    have HCC : Hid _ := hcc
    have HSB : Hid _ := hsb
    have hile : stepAt s i + 1 ≤ s.size := step_le hsb
    have hige : i ≤ stepAt s i := by unfold stepAt; omega
    clear hst HST hsb hcc
    go_wp2_with (first | (go_at_call 78; go_must (refine Calls.mono HS.out ?_; rintro e w2 ⟨rfl, hrd, hg⟩; have hown2 := HJ.out.row HL.out hg; have hsz2 := hg.size; have HG : Hid _ := hg; clear hg; have HRD : Hid _ := hrd; clear hrd)) | (at_builtin; go_must (refine wpList_append_own _ rfl _ _ 114 rfl B 143 i0 _ 7 16 Try.underlying114 hi hz0 hz1 hz2 rfl (by decide) _ _ _ rfl (hown2.alloc _) ⟨w2.heap.size, 0, none⟩ 1 1 [.int .u8 a0, .int .u8 a1, .int .u8 a2, .int .u8 a3, .int .u8 a4, .int .u8 a5, .int .i64 a6] rfl rfl ?c1 ?c2 ?c3 ?c4 ?c5 ?_)))
    case c1 => exact cells_new w2 [.int .u8 a0, .int .u8 a1, .int .u8 a2, .int .u8 a3, .int .u8 a4, .int .u8 a5, .int .i64 a6] _
    case c2 =>
      intro u hu
      simp at hu
      rcases hu with rfl | rfl | rfl | rfl | rfl | rfl | rfl <;> rfl
    case c3 => unfold maxLen; omega
    case c4 => omega
    case c5 => simp; omega
    intro v' w3 hown' hgrow _
    obtain ⟨g, cap', hv, hgb⟩ := ownsRow_shape hown'
    have J2' : JJ w0 w2 b s (stepAt s i + 1) B tv vs L := HJ.out.read HRD.out hile HG.out
    have J3 : JJ w0 w3 b s (stepAt s i + 1) B tv vs L := (J2'.alloc _).grown (hown2.alloc _) hgrow hown'
    have hown3 : w3.ownsRow B 143 7 v' (l ++ [i]).length ((l ++ [i]).flatMap (ccells s)) := by
      rw [List.flatMap_append]
      simpa [HCC.out] using hown'
    clear hown' hgrow J2' hown2 HG HRD HS HJ HL HCC
    subst hv
    have c1 := J3.rd.c1
    have fz := J3.rd.f1
    have HPK : Hid (∀ W, RdAt W b s (stepAt s i + 1) → Calls Try.prog 77 #[.pointer (some ⟨b, 0, none⟩)] W fun e w' => e = .returned (.int .i64 (pk s (stepAt s i + 1))) ∧ ∃ n, w' = W.drewN n) := fun W hW => peek_any s _ b W hW hile hs
    have HJ3 : Hid _ := J3
    have HO3 : Hid _ := hown3
    clear J3 hown3
    by_cases hq : pk s (stepAt s i + 1) = 59
    · by_cases hL : l.length < 7
      · have hR := HR.out
        rw [show 7 - l.length = (6 - l.length) + 1 from by omega, thr_go HSB.out hq] at hR
        have hlt : stepAt s i + 1 < s.size := pk_some (by omega)
        have HR1 : Hid (aft s (2 - L.length) L (thr s (7 - (l ++ [i]).length) (stepAt s i + 2) (l ++ [i])) = R) := by
          rw [show 7 - (l ++ [i]).length = 6 - l.length from by simp]; exact hR
        clear hR HR HSB
        generalize pk s (stepAt s i + 1) = p at *
        generalize stepAt s i = k at *
        subst hq
        go_wp2_with (go_at_call 77; go_must (refine Calls.mono (HPK.out _ (by first | exact HJ3.out.rd | exact HJ3.out.rd.drewN _)) ?_; rintro e w4 ⟨rfl, n, rfl⟩))
        go_step3
        refine HJ2.out _ _ (k + 2) (by omega) ⟨_, _, _, L, l ++ [i], B, rfl, (HJ3.out.drewN n).place _ (by rfl) hlt, h2, HJ3.out.row HO3.out (grownBy_trans (grownBy_drewN w3 n _) (grownBy_setCell _ _ _ _)), by simp; omega, HR1.out⟩
      · have HR1 : Hid (beh s (2 - L.length) L (l ++ [i]) (stepAt s i + 1) = R) := by
          have hR := HR.out
          rw [aft_beh HSB.out (.inr (by omega))] at hR
          exact hR
        clear HR HSB
        generalize pk s (stepAt s i + 1) = p at *
        generalize stepAt s i = k at *
        subst hq
        go_wp2_with (go_at_call 77; go_must (refine Calls.mono (HPK.out _ (by first | exact HJ3.out.rd | exact HJ3.out.rd.drewN _)) ?_; rintro e w4 ⟨rfl, n, rfl⟩))
        go_step3
        rename_i K hK
        refine hK _ _ ?_
        exact rt1 w0 b s R hs _ ⟨_, _, rfl, rfl⟩ Jp _ (k + 1) (fun a w i' hi' h => HJ0.out a w i' (by omega) h) _ ⟨_, _, _, L, l ++ [i], B, rfl, HJ3.out.drewN n, h2, HJ3.out.row HO3.out (grownBy_drewN w3 n _), HR1.out⟩
    · have HR1 : Hid (beh s (2 - L.length) L (l ++ [i]) (stepAt s i + 1) = R) := by
        have hR := HR.out
        rw [aft_beh HSB.out (.inl hq)] at hR
        exact hR
      have q1 : (pk s (stepAt s i + 1) == 59) = false := by simpa using hq
      clear HR HSB hq
      generalize pk s (stepAt s i + 1) = p at *
      generalize stepAt s i = k at *
      go_wp2_with (go_at_call 77; go_must (refine Calls.mono (HPK.out _ (by first | exact HJ3.out.rd | exact HJ3.out.rd.drewN _)) ?_; rintro e w4 ⟨rfl, n, rfl⟩))
      go_step3
      rename_i K hK
      refine hK _ _ ?_
      exact rt1 w0 b s R hs _ ⟨_, _, rfl, rfl⟩ Jp _ (k + 1) (fun a w i' hi' h => HJ0.out a w i' (by omega) h) _ ⟨_, _, _, L, l ++ [i], B, rfl, HJ3.out.drewN n, h2, HJ3.out.row HO3.out (grownBy_drewN w3 n _), HR1.out⟩

set_option maxHeartbeats 1000000 in
set_option maxRecDepth 100000 in
theorem rt0 (w0 : World) (b : Nat) (s : ByteArray) (R : Except Nat (List (List Nat))) (hs : s.size ≤ 150) (Rc : Code) (hrc : IsRest 0 Rc) (Jp : Nat → Act → World → Prop)
    (w : World) (i : Nat) (hJ0 : ∀ a w i', i < i' → J0 w0 b s R i' a w → Jp 0 a w) (hJ1 : ∀ a w, J1 w0 b s R i a w → Jp 1 a w) (hJ2 : ∀ a w i', i < i' → J2 w0 b s R i' a w → Jp 2 a w)
    (a : Act) (hj0 : J0 w0 b s R i a w) : Rc.wp Try.prog (jmp Jp (bodyPost Try.prog Try.f58 (RtPost w0 b s R))) a w := by
  obtain ⟨tv, sv, vs, L, hfr, hj, h2, hR⟩ := hj0
  obtain ⟨x, rfl⟩ := hfr.out
  clear hfr
  obtain ⟨r0, c, hb, hf⟩ := hrc
  cases hb
  cases hf
  have HPK : Hid (∀ W, RdAt W b s i → Calls Try.prog 77 #[.pointer (some ⟨b, 0, none⟩)] W fun e w' => e = .returned (.int .i64 (pk s i)) ∧ ∃ n, w' = W.drewN n) := fun W hW => peek_any s i b W hW hj.le hs
  have HJ : Hid _ := hj
  have HR : Hid _ := hR
  have HJ0 : Hid _ := hJ0
  have HJ1 : Hid _ := hJ1
  have HJ2 : Hid _ := hJ2
  clear hj hR hJ0 hJ1 hJ2
  unfold fr
  by_cases hq : pk s i = -1 ∨ pk s i = 124
  · have HR1 : Hid (beh s (2 - L.length) L [] i = R) := by
      have hR := HR.out
      rw [rd_none hq] at hR
      exact hR
    clear HR
    generalize pk s i = p at *
    rcases hq with hq | hq
    all_goals
      subst hq
      go_wp2_with (go_at_call 77; go_must (refine Calls.mono (HPK.out _ HJ.out.rd) ?_; rintro e w4 ⟨rfl, n, rfl⟩))
      go_step3
      exact HJ1.out _ _ ⟨_, _, _, L, [], w.heap.size, rfl, HJ.out.drewN n, h2, World.ownsRow_nil _ _ _ _, HR1.out⟩
  · have HR1 : Hid (aft s (2 - L.length) L (thr s (7 - ([] : List Nat).length) i []) = R) := by
      have hR := HR.out
      rw [rd_some hq] at hR
      exact hR
    have q1 : (pk s i == -1) = false := by simp; exact fun h => hq (.inl h)
    have q2 : (pk s i == 124) = false := by simp; exact fun h => hq (.inr h)
    clear HR hq
    generalize pk s i = p at *
    go_wp2_with (go_at_call 77; go_must (refine Calls.mono (HPK.out _ HJ.out.rd) ?_; rintro e w4 ⟨rfl, n, rfl⟩))
    go_step3
    rename_i K hK
    refine hK _ _ ?_
    exact rt2 w0 b s R hs _ ⟨_, _, rfl, rfl⟩ Jp _ i HJ0.out HJ2.out _ ⟨_, _, _, L, [], w.heap.size, rfl, HJ.out.drewN n, h2, World.ownsRow_nil _ _ _ _, by simp, HR1.out⟩

/-- The reader's place, off the world. -/
def plc (w : World) (b : Nat) : Nat := match w.cell? ⟨b, 1, none⟩ with
  | some (.int _ n) => n.toNat
  | _ => 0
theorem RdAt.plc {w : World} {b : Nat} {s : ByteArray} {i : Nat} (h : RdAt w b s i) : plc w b = i := by unfold Go.Proofs.Ytimgindeiekpmaa.plc; rw [h.c1]; simp

theorem J0.at {w0 w : World} {b : Nat} {s : ByteArray} {R : Except Nat (List (List Nat))} {i : Nat} {a : Act} (h : J0 w0 b s R i a w) : plc w b = i ∧ i ≤ s.size := by
  obtain ⟨_, _, _, _, _, hj, _⟩ := h; exact ⟨hj.rd.plc, hj.le⟩
theorem J1.at {w0 w : World} {b : Nat} {s : ByteArray} {R : Except Nat (List (List Nat))} {i : Nat} {a : Act} (h : J1 w0 b s R i a w) : plc w b = i ∧ i ≤ s.size := by
  obtain ⟨_, _, _, _, _, _, _, hj, _⟩ := h; exact ⟨hj.rd.plc, hj.le⟩
theorem J2.at {w0 w : World} {b : Nat} {s : ByteArray} {R : Except Nat (List (List Nat))} {i : Nat} {a : Act} (h : J2 w0 b s R i a w) : plc w b = i ∧ i ≤ s.size := by
  obtain ⟨_, _, _, _, _, _, _, hj, _⟩ := h; exact ⟨hj.rd.plc, hj.le⟩

set_option maxHeartbeats 1000000 in
set_option maxRecDepth 100000 in
theorem readThreads_any (s : ByteArray) (b : Nat) (w : World) (hb : RdAt w b s 0) (hs : s.size ≤ 150) :
    Calls Try.prog 58 #[.pointer (some ⟨b, 0, none⟩)] w (RtPost w b s (rd s 2 0 [])) := by
  generalize hRR : rd s 2 0 [] = R
  have HB : Hid _ := hb
  have HRR : Hid _ := hRR
  clear hb hRR
  go_enter Try.func58, Try.ntmps58
  go_wp2
  refine wp_scope_all (fun l a w1 => (l = 0 ∧ ∃ i, J0 w b s R i a w1) ∨ (l = 1 ∧ ∃ i, J1 w b s R i a w1) ∨ (l = 2 ∧ ∃ i, J2 w b s R i a w1)) (fun l a w1 => 3 * (200 - plc w1 b) + if l = 0 then 2 else 0) ?_ ?_
  · go_wp2
    go_step3
    rename_i K hK
    refine hK _ _ ?_
    refine rt0 w b s R hs _ ⟨_, _, rfl, rfl⟩ _ _ 0 (fun a w i' _ h => .inl ⟨rfl, i', h⟩) (fun a w h => .inr (.inl ⟨rfl, 0, h⟩)) (fun a w i' _ h => .inr (.inr ⟨rfl, i', h⟩)) _ ⟨_, _, [], [], rfl, ?_, by simp, HRR.out⟩
    exact ⟨HB.out, Nat.zero_le _, HB.out.lt, grownBy_refl _ _, OwnT.nil _ _ _ _ _ _ _, Nat.le_refl _, Nat.le_refl _⟩
  · rintro l a1 w1 hJ
    rcases hJ with ⟨rfl, i, h⟩ | ⟨rfl, i, h⟩ | ⟨rfl, i, h⟩
    · have hp := h.at
      refine ⟨_, rfl, wp_seq (wp_skip ?_)⟩
      refine rt0 w b s R hs _ ⟨_, _, rfl, rfl⟩ _ _ i (fun a w i' hi' h' => ⟨.inl ⟨rfl, i', h'⟩, ?_⟩) (fun a w h' => ⟨.inr (.inl ⟨rfl, i, h'⟩), ?_⟩) (fun a w i' hi' h' => ⟨.inr (.inr ⟨rfl, i', h'⟩), ?_⟩) _ h
      all_goals
        have hp' := h'.at
        rw [hp.1, hp'.1]
        simp
        try omega
    · have hp := h.at
      refine ⟨_, rfl, wp_seq (wp_skip ?_)⟩
      refine rt1 w b s R hs _ ⟨_, _, rfl, rfl⟩ _ _ i (fun a w i' hi' h' => ⟨.inl ⟨rfl, i', h'⟩, ?_⟩) _ h
      have hp' := h'.at
      rw [hp.1, hp'.1]
      simp
      omega
    · have hp := h.at
      refine ⟨_, rfl, wp_seq (wp_skip ?_)⟩
      refine rt2 w b s R hs _ ⟨_, _, rfl, rfl⟩ _ _ i (fun a w i' hi' h' => ⟨.inl ⟨rfl, i', h'⟩, ?_⟩) (fun a w i' hi' h' => ⟨.inr (.inr ⟨rfl, i', h'⟩), ?_⟩) _ h
      all_goals
        have hp' := h'.at
        rw [hp.1, hp'.1]
        simp
        try omega

end Go.Proofs.Ytimgindeiekpmaa
