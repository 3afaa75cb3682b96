/- A state, a manifest as data; what was proved of the calls, restated for them. -/
import Derived.Test.YtdipccjgpkedhaaAdmit
import Derived.Test.YtdipccjgpkedhaaAdmitD
import Derived.Test.YtdipccjgpkedhaaAdmitE
import Derived.Test.YtdipccjgpkedhaaAdmitF
import Derived.Test.YtdipccjgpkedhaaAdmitG
import Derived.Test.YtdipccjgpkedhaaAdmitT
import Derived.Test.YtdipccjgpkedhaaSesRH
import Derived.Test.YtdipccjgpkedhaaStD
namespace Go.Proofs.Ytdipccjgpkedhaa
open Go.RowKit
def LSt.newer (L : LSt) (ver : Nat) : Bool := newB L.may L.act L.flo L.v0 L.v1 L.on L.m.v ver
def LSt.admitR (L : LSt) (M : LMan) : Int :=
  if (L.may && M.may) = false then 1 else if L.trial ≠ 0 then 12 else if (L.on && L.m.eqb M) = true then 8 else if L.newer M.v = false then 6 else if 4294967294 ≤ L.gen then 9 else 0
def LSt.admitted (L : LSt) (M : LMan) : LSt := { L with gen := L.gen + 1, on := true, m := M }
section
variable {w : World} {P : Nat → Prop} {cs : Array Value} {L : LSt}
theorem newerS (ver : Nat) (h : IsSt w P cs L) : Calls Try.prog 18 #[.agg cs, .int .u32 (ver : Int)] w fun e w' => e = .returned (.bool (L.newer ver)) ∧ Below w.heap.size w w' := by
  obtain ⟨A0, c0, A1, c1, A, c, rfl, r0, r1, r2⟩ := h
  exact newer_any _ _ _ _ _ _ _ _ _ _ _ _ _ _ _ _ _ _ _ _ _ _ _ w.heap.size _ _ _ ver w r0.row r1.row r2.row (Nat.le_refl _)
theorem dropS (h : IsSt w P cs L) (hl : L.light) : Calls Try.prog 43 #[.agg cs] w (RetS L.drop w) := by
  obtain ⟨A0, c0, A1, c1, A, c, rfl, r0, r1, r2⟩ := h
  obtain ⟨l0, l1, l2⟩ := hl
  cases hm : L.may with
  | false =>
    refine (drop_no _ _ _ _ _ _ _ _ _ _ _ _ _ _ _ _ _ _ _ _ _ _ _ w.heap.size _ _ _ w hm r0.row r1.row r2.row (Nat.le_refl _) (by omega) (by omega) (by omega)).mono fun e w' ⟨he, hb⟩ => ?_
    refine ⟨zState, he, ?_, hb⟩
    rw [LSt.drop, hm]
    exact zero_is _ _
  | true =>
    refine (drop_yes _ _ _ _ _ _ _ _ _ _ _ _ _ _ _ _ _ _ _ _ _ _ _ w.heap.size _ _ _ w hm r0.row r1.row r2.row (Nat.le_refl _) (by omega) (by omega) (by omega)).mono fun e w' ⟨B0, d0, B1, d1, B, d, he, s0, s1, s2, hb⟩ => ?_
    refine ⟨_, he, ?_, hb⟩
    rw [LSt.drop, hm]
    exact ⟨B0, d0, B1, d1, B, d, rfl, s0.out, s1.out, s2.out⟩
def AdmitYesS (L : LSt) (M : LMan) (w : World) (e : Ending) (w' : World) : Prop := ∃ cs, e = .returned (.tuple #[.agg cs, .int .i64 0]) ∧ Hid (IsSt w' (fun b => w.heap.size ≤ b) cs (L.admitted M)) ∧ Hid (Below w.heap.size w w')
theorem admitS_no {P' : Nat → Prop} {ms : Array Value} {M : LMan} {r : Int} (h : IsSt w P cs L) (hm : IsMan w P' ms M) (hr : L.admitR M = r) (hne : r ≠ 0) :
    Calls Try.prog 16 #[.agg cs, .agg ms] w (AdmitNo r w) := by
  obtain ⟨A0, c0, A1, c1, A, c, rfl, r0, r1, r2⟩ := h
  obtain ⟨MA, mc, rfl, rm⟩ := hm
  unfold LSt.admitR at hr
  by_cases h1 : (L.may && M.may) = false
  · rw [if_pos h1] at hr
    subst hr
    cases hl : L.may with
    | false => exact admit_a _ _ _ _ _ _ _ _ _ _ _ _ _ _ _ _ _ _ _ _ _ _ _ w.heap.size _ _ _ _ _ _ _ _ _ _ _ _ w hl r0.row r1.row r2.row rm.row (Nat.le_refl _)
    | true =>
      rw [hl, Bool.true_and] at h1
      exact admit_b _ _ _ _ _ _ _ _ _ _ _ _ _ _ _ _ _ _ _ _ _ _ _ w.heap.size _ _ _ _ _ _ _ _ _ _ _ _ w hl h1 r0.row r1.row r2.row rm.row (Nat.le_refl _)
  rw [if_neg h1] at hr
  rw [Bool.not_eq_false, Bool.and_eq_true] at h1
  obtain ⟨hl, hmm⟩ := h1
  by_cases h2 : L.trial ≠ 0
  · rw [if_pos h2] at hr
    subst hr
    exact admit_c _ _ _ _ _ _ _ _ _ _ _ _ _ _ _ _ _ _ _ _ _ _ _ w.heap.size _ _ _ _ _ _ _ _ _ _ _ _ w hl hmm h2 r0.row r1.row r2.row rm.row (Nat.le_refl _)
  rw [if_neg h2] at hr
  rw [Decidable.not_not] at h2
  obtain ⟨act, trial, flo, gen, v0, l0, h0, v1, l1, h1, on, m⟩ := L
  subst h2
  cases on with
  | false =>
    rw [Bool.false_and, if_neg (by decide)] at hr
    by_cases h4 : LSt.newer ⟨act, 0, flo, gen, v0, l0, h0, v1, l1, h1, false, m⟩ M.v = false
    · rw [if_pos h4] at hr
      subst hr
      exact admit_ef act flo gen v0 l0 A0 _ c0 v1 l1 A1 _ c1 m.s m.v m.l m.z m.p A _ c w.heap.size h0 h1 m.h M.s M.v M.l M.z M.p MA _ mc M.h w hl hmm h4 r0.row r1.row r2.row rm.row (Nat.le_refl _)
    · rw [if_neg h4] at hr
      rw [Bool.not_eq_false] at h4
      by_cases h5 : 4294967294 ≤ gen
      · rw [if_pos h5] at hr
        subst hr
        exact admit_ff act flo gen v0 l0 A0 _ c0 v1 l1 A1 _ c1 m.s m.v m.l m.z m.p A _ c w.heap.size h0 h1 m.h M.s M.v M.l M.z M.p MA _ mc M.h w hl hmm h4 h5 r0.row r1.row r2.row rm.row (Nat.le_refl _)
      · rw [if_neg h5] at hr; exact absurd hr.symm hne
  | true =>
    rw [Bool.true_and] at hr
    by_cases h3 : m.eqb M = true
    · rw [if_pos h3] at hr
      subst hr
      exact admit_d act flo gen v0 l0 A0 _ c0 v1 l1 A1 _ c1 m.s m.v m.l m.z m.p A _ c w.heap.size h0 h1 m.h M.s M.v M.l M.z M.p MA _ mc M.h w hl hmm h3 r0.row r1.row r2.row rm.row (Nat.le_refl _)
    rw [if_neg h3] at hr
    rw [Bool.not_eq_true] at h3
    by_cases h4 : LSt.newer ⟨act, 0, flo, gen, v0, l0, h0, v1, l1, h1, true, m⟩ M.v = false
    · rw [if_pos h4] at hr
      subst hr
      exact admit_et act flo gen v0 l0 A0 _ c0 v1 l1 A1 _ c1 m.s m.v m.l m.z m.p A _ c w.heap.size h0 h1 m.h M.s M.v M.l M.z M.p MA _ mc M.h w hl hmm h3 h4 r0.row r1.row r2.row rm.row (Nat.le_refl _)
    · rw [if_neg h4] at hr
      rw [Bool.not_eq_false] at h4
      by_cases h5 : 4294967294 ≤ gen
      · rw [if_pos h5] at hr
        subst hr
        exact admit_ft act flo gen v0 l0 A0 _ c0 v1 l1 A1 _ c1 m.s m.v m.l m.z m.p A _ c w.heap.size h0 h1 m.h M.s M.v M.l M.z M.p MA _ mc M.h w hl hmm h3 h4 h5 r0.row r1.row r2.row rm.row (Nat.le_refl _)
      · rw [if_neg h5] at hr; exact absurd hr.symm hne
theorem admitS_yes {P' : Nat → Prop} {ms : Array Value} {M : LMan} (h : IsSt w P cs L) (hm : IsMan w P' ms M) (hr : L.admitR M = 0) :
    Calls Try.prog 16 #[.agg cs, .agg ms] w (AdmitYesS L M w) := by
  obtain ⟨A0, c0, A1, c1, A, c, rfl, r0, r1, r2⟩ := h
  obtain ⟨MA, mc, rfl, rm⟩ := hm
  unfold LSt.admitR at hr
  by_cases h1 : (L.may && M.may) = false
  · rw [if_pos h1] at hr; exact absurd hr (by decide)
  rw [if_neg h1] at hr
  rw [Bool.not_eq_false, Bool.and_eq_true] at h1
  obtain ⟨hl, hmm⟩ := h1
  obtain ⟨k0, k1, k2⟩ := light_of_may hl
  obtain ⟨_, _, _, _, _, _, _, _, _, _, _, h32⟩ := man_bounds hmm
  by_cases h2 : L.trial ≠ 0
  · rw [if_pos h2] at hr; exact absurd hr (by decide)
  rw [if_neg h2] at hr
  rw [Decidable.not_not] at h2
  obtain ⟨act, trial, flo, gen, v0, l0, h0, v1, l1, h1, on, m⟩ := L
  subst h2
  cases on with
  | false =>
    rw [Bool.false_and, if_neg (by decide)] at hr
    by_cases h4 : LSt.newer ⟨act, 0, flo, gen, v0, l0, h0, v1, l1, h1, false, m⟩ M.v = false
    · rw [if_pos h4] at hr; exact absurd hr (by decide)
    rw [if_neg h4] at hr
    rw [Bool.not_eq_false] at h4
    by_cases h5 : 4294967294 ≤ gen
    · rw [if_pos h5] at hr; exact absurd hr (by decide)
    refine (admit_gf act flo gen v0 l0 A0 _ c0 v1 l1 A1 _ c1 m.s m.v m.l m.z m.p A _ c w.heap.size h0 h1 m.h M.s M.v M.l M.z M.p MA _ mc M.h w hl hmm h32 (Nat.le_trans k0 (by decide)) (Nat.le_trans k1 (by decide)) (Nat.le_trans k2 (by decide)) h4 (by omega) r0.row r1.row r2.row rm.row (Nat.le_refl _)).mono fun e w' ⟨B0, d0, B1, d1, B, d, he, s0, s1, s2, hb⟩ => ?_
    refine ⟨_, he, ⟨B0, d0, B1, d1, B, d, ?_, s0.out, s1.out, ?_⟩, hb⟩
    · simp only [LSt.cells, LSt.admitted, h32]
    · show RowP w' (fun b => w.heap.size ≤ b) B M.h.length (bv M.h); rw [h32]; exact s2.out
  | true =>
    rw [Bool.true_and] at hr
    by_cases h3 : m.eqb M = true
    · rw [if_pos h3] at hr; exact absurd hr (by decide)
    rw [if_neg h3] at hr
    rw [Bool.not_eq_true] at h3
    by_cases h4 : LSt.newer ⟨act, 0, flo, gen, v0, l0, h0, v1, l1, h1, true, m⟩ M.v = false
    · rw [if_pos h4] at hr; exact absurd hr (by decide)
    rw [if_neg h4] at hr
    rw [Bool.not_eq_false] at h4
    by_cases h5 : 4294967294 ≤ gen
    · rw [if_pos h5] at hr; exact absurd hr (by decide)
    refine (admit_gt act flo gen v0 l0 A0 _ c0 v1 l1 A1 _ c1 m.s m.v m.l m.z m.p A _ c w.heap.size h0 h1 m.h M.s M.v M.l M.z M.p MA _ mc M.h w hl hmm h32 (Nat.le_trans k0 (by decide)) (Nat.le_trans k1 (by decide)) (Nat.le_trans k2 (by decide)) h3 h4 (by omega) r0.row r1.row r2.row rm.row (Nat.le_refl _)).mono fun e w' ⟨B0, d0, B1, d1, B, d, he, s0, s1, s2, hb⟩ => ?_
    refine ⟨_, he, ⟨B0, d0, B1, d1, B, d, ?_, s0.out, s1.out, ?_⟩, hb⟩
    · simp only [LSt.cells, LSt.admitted, h32]
    · show RowP w' (fun b => w.heap.size ≤ b) B M.h.length (bv M.h); rw [h32]; exact s2.out
end
end Go.Proofs.Ytdipccjgpkedhaa
