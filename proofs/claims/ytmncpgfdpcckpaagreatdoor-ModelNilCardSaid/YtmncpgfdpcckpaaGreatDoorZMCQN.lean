/- law19.First, Heavy, law22.good: by contracts. -/
import Derived.Test.YtmncpgfdpcckpaaGreatDoorZMAQN
import Derived.Test.YtmncpgfdpcckpaaGreatDoorZSQN
import Derived.Test.YtmncpgfdpcckpaaGreatDoorZZIQN
import Derived.Test.YtmncpgfdpcckpaaGreatDoorZMBQN
namespace Go.Proofs.YtmncpgfdpcckpaaGreatDoor
open Go.RowKit
theorem made_list (v : Value) (n : Nat) : madeCells #[v] n = Array.replicate n v := by
 apply Array.toList_inj.1
 rw [toList_madeCells_one]; simp
theorem mk_bytes (c : Nat) (hc : c ≤ 1000000000) (w : World) : (Instr.makeSlice 22 (.int .i64 (c : Int)) (.int .i64 (c : Int))).run Tryz.prog w = .ok (.slice (some ⟨w.heap.size, 0, none⟩) c c) (w.alloc (.cells (Array.replicate c (.int .u8 0)) 5)) := by
 obtain ⟨i0, hi, hz0, hz1, hz2⟩ := info_parts Tryz.info5
 have := run_make (P := Tryz.prog) w 22 5 i0 (.int .u8 0) Tryz.underlying22 hi hz0 .i64 .i64 c c (by omega) (Int.le_refl _) (by rw [hz2]; omega) (by omega)
 simpa [hz1, Value.cells, made_list] using this
end Go.Proofs.YtmncpgfdpcckpaaGreatDoor
namespace Go.Proofs.YtmncpgfdpcckpaaGreatDoor
open Go.RowKit
theorem aw_man : manB 3 2 0 32 = true := by decide
end Go.Proofs.YtmncpgfdpcckpaaGreatDoor
namespace Go.Proofs.YtmncpgfdpcckpaaGreatDoor
open Go.RowKit
theorem may_less {act trial : Int} {v0 : Nat} {l0 : Int} {v1 : Nat} {l1 : Int} {on : Bool} {s v : Nat} {l z p : Int} {h0 h1 h : List UInt8} (hm : mayB2 act trial v0 l0 h0 v1 l1 h1 on s v l z p h = true) : mayB2 act trial v0 l0 h0 v1 l1 h1 false 0 0 0 0 0 [] = true := by
 unfold mayB2 at hm ⊢
 simp only [Bool.and_eq_true] at hm ⊢
 exact ⟨⟨hm.1.1, by simp⟩, hm.2⟩
end Go.Proofs.YtmncpgfdpcckpaaGreatDoor
namespace Go.Proofs.YtmncpgfdpcckpaaGreatDoor
open Go.RowKit
def LSt.newer (L : LSt) (ver : Nat) : Bool := newB L.may L.act L.flo L.v0 L.v1 L.on L.m.v ver
def LSt.admitR (L : LSt) (M : LMan) : Int :=
 if (L.may && M.may) = false then 1 else if L.trial ≠ 0 then 12 else if (L.on && L.m.eqb M) = true then 8 else if L.newer M.v = false then 6 else if 4294967294 ≤ L.gen then 9 else 0
def LSt.admitted (L : LSt) (M : LMan) : LSt := { L with gen := L.gen + 1, on := true, m := M }
section
variable {w : World} {P : Nat → Prop} {cs : Array Value} {L : LSt}
theorem dropS (h : IsSt w P cs L) (hl : L.light) : Calls Tryz.prog 65 #[.agg cs] w (RetS L.drop w) := by
 obtain ⟨A0, c0, A1, c1, A, c, rfl, r0, r1, r2⟩ := h
 obtain ⟨l0, l1, l2⟩ := hl
 cases hm : L.may with
 | false =>
  refine (drop_no _ _ _ _ _ _ _ _ _ _ _ _ _ _ _ _ _ _ _ _ _ _ _ w.heap.size _ _ _ w hm r0.row r1.row r2.row (Nat.le_refl _) (by omega) (by omega) (by omega)).mono fun e w' ⟨he, hb⟩ => ?_
  refine ⟨zState, he, ?_, hb⟩
  rw [LSt.drop, hm]
  exact zero_is _ _
 | true =>
  refine (drop_yes _ _ _ _ _ _ _ _ _ _ _ _ _ _ _ _ _ _ _ _ _ _ _ w.heap.size _ _ _ w hm r0.row r1.row r2.row (Nat.le_refl _) (by omega) (by omega) (by omega)).mono fun e w' ⟨B0, d0, B1, d1, B, d, he, s0, s1, s2, hb⟩ => ?_
  refine ⟨_, he, ?_, hb⟩
  rw [LSt.drop, hm]
  exact ⟨B0, d0, B1, d1, B, d, rfl, s0.out, s1.out, s2.out⟩
def AdmitYesS (L : LSt) (M : LMan) (w : World) (e : Ending) (w' : World) : Prop := ∃ cs, e = .returned (.tuple #[.agg cs, .int .i64 0]) ∧ Hid (IsSt w' (fun b => w.heap.size ≤ b) cs (L.admitted M)) ∧ Hid (Below w.heap.size w w')
theorem admitS_no {P' : Nat → Prop} {ms : Array Value} {M : LMan} {r : Int} (h : IsSt w P cs L) (hm : IsMan w P' ms M) (hr : L.admitR M = r) (hne : r ≠ 0) :
  Calls Tryz.prog 41 #[.agg cs, .agg ms] w (AdmitNo r w) := by
 obtain ⟨A0, c0, A1, c1, A, c, rfl, r0, r1, r2⟩ := h
 obtain ⟨MA, mc, rfl, rm⟩ := hm
 unfold LSt.admitR at hr
 by_cases h1 : (L.may && M.may) = false
 ·rw [if_pos h1] at hr
  subst hr
  cases hl : L.may with
  | false => exact admit_a _ _ _ _ _ _ _ _ _ _ _ _ _ _ _ _ _ _ _ _ _ _ _ w.heap.size _ _ _ _ _ _ _ _ _ _ _ _ w hl r0.row r1.row r2.row rm.row (Nat.le_refl _)
  | true =>
   rw [hl, Bool.true_and] at h1
   exact admit_b _ _ _ _ _ _ _ _ _ _ _ _ _ _ _ _ _ _ _ _ _ _ _ w.heap.size _ _ _ _ _ _ _ _ _ _ _ _ w hl h1 r0.row r1.row r2.row rm.row (Nat.le_refl _)
 rw [if_neg h1] at hr
 rw [Bool.not_eq_false, Bool.and_eq_true] at h1
 obtain ⟨hl, hmm⟩ := h1
 by_cases h2 : L.trial ≠ 0
 ·rw [if_pos h2] at hr
  subst hr
  exact admit_c _ _ _ _ _ _ _ _ _ _ _ _ _ _ _ _ _ _ _ _ _ _ _ w.heap.size _ _ _ _ _ _ _ _ _ _ _ _ w hl hmm h2 r0.row r1.row r2.row rm.row (Nat.le_refl _)
 rw [if_neg h2] at hr
 rw [Decidable.not_not] at h2
 obtain ⟨act, trial, flo, gen, v0, l0, h0, v1, l1, h1, on, m⟩ := L
 subst h2
 cases on with
 | false =>
  rw [Bool.false_and, if_neg (by decide)] at hr
  by_cases h4 : LSt.newer ⟨act, 0, flo, gen, v0, l0, h0, v1, l1, h1, false, m⟩ M.v = false
  ·rw [if_pos h4] at hr
   subst hr
   exact admit_ef act flo gen v0 l0 A0 _ c0 v1 l1 A1 _ c1 m.s m.v m.l m.z m.p A _ c w.heap.size h0 h1 m.h M.s M.v M.l M.z M.p MA _ mc M.h w hl hmm h4 r0.row r1.row r2.row rm.row (Nat.le_refl _)
  ·rw [if_neg h4] at hr
   rw [Bool.not_eq_false] at h4
   by_cases h5 : 4294967294 ≤ gen
   ·rw [if_pos h5] at hr
    subst hr
    exact admit_ff act flo gen v0 l0 A0 _ c0 v1 l1 A1 _ c1 m.s m.v m.l m.z m.p A _ c w.heap.size h0 h1 m.h M.s M.v M.l M.z M.p MA _ mc M.h w hl hmm h4 h5 r0.row r1.row r2.row rm.row (Nat.le_refl _)
   ·rw [if_neg h5] at hr; exact absurd hr.symm hne
 | true =>
  rw [Bool.true_and] at hr
  by_cases h3 : m.eqb M = true
  ·rw [if_pos h3] at hr
   subst hr
   exact admit_d act flo gen v0 l0 A0 _ c0 v1 l1 A1 _ c1 m.s m.v m.l m.z m.p A _ c w.heap.size h0 h1 m.h M.s M.v M.l M.z M.p MA _ mc M.h w hl hmm h3 r0.row r1.row r2.row rm.row (Nat.le_refl _)
  rw [if_neg h3] at hr
  rw [Bool.not_eq_true] at h3
  by_cases h4 : LSt.newer ⟨act, 0, flo, gen, v0, l0, h0, v1, l1, h1, true, m⟩ M.v = false
  ·rw [if_pos h4] at hr
   subst hr
   exact admit_et act flo gen v0 l0 A0 _ c0 v1 l1 A1 _ c1 m.s m.v m.l m.z m.p A _ c w.heap.size h0 h1 m.h M.s M.v M.l M.z M.p MA _ mc M.h w hl hmm h3 h4 r0.row r1.row r2.row rm.row (Nat.le_refl _)
  ·rw [if_neg h4] at hr
   rw [Bool.not_eq_false] at h4
   by_cases h5 : 4294967294 ≤ gen
   ·rw [if_pos h5] at hr
    subst hr
    exact admit_ft act flo gen v0 l0 A0 _ c0 v1 l1 A1 _ c1 m.s m.v m.l m.z m.p A _ c w.heap.size h0 h1 m.h M.s M.v M.l M.z M.p MA _ mc M.h w hl hmm h3 h4 h5 r0.row r1.row r2.row rm.row (Nat.le_refl _)
   ·rw [if_neg h5] at hr; exact absurd hr.symm hne
theorem admitS_yes {P' : Nat → Prop} {ms : Array Value} {M : LMan} (h : IsSt w P cs L) (hm : IsMan w P' ms M) (hr : L.admitR M = 0) :
  Calls Tryz.prog 41 #[.agg cs, .agg ms] w (AdmitYesS L M w) := by
 obtain ⟨A0, c0, A1, c1, A, c, rfl, r0, r1, r2⟩ := h
 obtain ⟨MA, mc, rfl, rm⟩ := hm
 unfold LSt.admitR at hr
 by_cases h1 : (L.may && M.may) = false
 ·rw [if_pos h1] at hr; exact absurd hr (by decide)
 rw [if_neg h1] at hr
 rw [Bool.not_eq_false, Bool.and_eq_true] at h1
 obtain ⟨hl, hmm⟩ := h1
 obtain ⟨k0, k1, k2⟩ := light_of_may hl
 obtain ⟨_, _, _, _, _, _, _, _, _, _, _, h32⟩ := man_bounds hmm
 by_cases h2 : L.trial ≠ 0
 ·rw [if_pos h2] at hr; exact absurd hr (by decide)
 rw [if_neg h2] at hr
 rw [Decidable.not_not] at h2
 obtain ⟨act, trial, flo, gen, v0, l0, h0, v1, l1, h1, on, m⟩ := L
 subst h2
 cases on with
 | false =>
  rw [Bool.false_and, if_neg (by decide)] at hr
  by_cases h4 : LSt.newer ⟨act, 0, flo, gen, v0, l0, h0, v1, l1, h1, false, m⟩ M.v = false
  ·rw [if_pos h4] at hr; exact absurd hr (by decide)
  rw [if_neg h4] at hr
  rw [Bool.not_eq_false] at h4
  by_cases h5 : 4294967294 ≤ gen
  ·rw [if_pos h5] at hr; exact absurd hr (by decide)
  refine (admit_gf act flo gen v0 l0 A0 _ c0 v1 l1 A1 _ c1 m.s m.v m.l m.z m.p A _ c w.heap.size h0 h1 m.h M.s M.v M.l M.z M.p MA _ mc M.h w hl hmm h32 (Nat.le_trans k0 (by decide)) (Nat.le_trans k1 (by decide)) (Nat.le_trans k2 (by decide)) h4 (by omega) r0.row r1.row r2.row rm.row (Nat.le_refl _)).mono fun e w' ⟨B0, d0, B1, d1, B, d, he, s0, s1, s2, hb⟩ => ?_
  refine ⟨_, he, ⟨B0, d0, B1, d1, B, d, ?_, s0.out, s1.out, ?_⟩, hb⟩
  ·simp only [LSt.cells, LSt.admitted, h32]
  ·show RowP w' (fun b => w.heap.size ≤ b) B M.h.length (bv M.h); rw [h32]; exact s2.out
 | true =>
  rw [Bool.true_and] at hr
  by_cases h3 : m.eqb M = true
  ·rw [if_pos h3] at hr; exact absurd hr (by decide)
  rw [if_neg h3] at hr
  rw [Bool.not_eq_true] at h3
  by_cases h4 : LSt.newer ⟨act, 0, flo, gen, v0, l0, h0, v1, l1, h1, true, m⟩ M.v = false
  ·rw [if_pos h4] at hr; exact absurd hr (by decide)
  rw [if_neg h4] at hr
  rw [Bool.not_eq_false] at h4
  by_cases h5 : 4294967294 ≤ gen
  ·rw [if_pos h5] at hr; exact absurd hr (by decide)
  refine (admit_gt act flo gen v0 l0 A0 _ c0 v1 l1 A1 _ c1 m.s m.v m.l m.z m.p A _ c w.heap.size h0 h1 m.h M.s M.v M.l M.z M.p MA _ mc M.h w hl hmm h32 (Nat.le_trans k0 (by decide)) (Nat.le_trans k1 (by decide)) (Nat.le_trans k2 (by decide)) h3 h4 (by omega) r0.row r1.row r2.row rm.row (Nat.le_refl _)).mono fun e w' ⟨B0, d0, B1, d1, B, d, he, s0, s1, s2, hb⟩ => ?_
  refine ⟨_, he, ⟨B0, d0, B1, d1, B, d, ?_, s0.out, s1.out, ?_⟩, hb⟩
  ·simp only [LSt.cells, LSt.admitted, h32]
  ·show RowP w' (fun b => w.heap.size ≤ b) B M.h.length (bv M.h); rw [h32]; exact s2.out
end
end Go.Proofs.YtmncpgfdpcckpaaGreatDoor
namespace Go.Proofs.YtmncpgfdpcckpaaGreatDoor
theorem admitR_zero {L : LSt} {M : LMan} (h : L.admitR M = 0) : L.may = true ∧ M.may = true ∧ L.trial = 0 ∧ (L.on && L.m.eqb M) = false ∧ L.newer M.v = true ∧ L.gen < 4294967294 := by
 unfold LSt.admitR at h
 by_cases h1 : (L.may && M.may) = false
 ·rw [if_pos h1] at h; exact absurd h (by decide)
 rw [if_neg h1] at h
 by_cases h2 : L.trial ≠ 0
 ·rw [if_pos h2] at h; exact absurd h (by decide)
 rw [if_neg h2] at h
 by_cases h3 : (L.on && L.m.eqb M) = true
 ·rw [if_pos h3] at h; exact absurd h (by decide)
 rw [if_neg h3] at h
 by_cases h4 : L.newer M.v = false
 ·rw [if_pos h4] at h; exact absurd h (by decide)
 rw [if_neg h4] at h
 by_cases h5 : 4294967294 ≤ L.gen
 ·rw [if_pos h5] at h; exact absurd h (by decide)
 rw [Bool.not_eq_false, Bool.and_eq_true] at h1
 exact ⟨h1.1, h1.2, Decidable.not_not.1 h2, by simpa using h3, by simpa using h4, by omega⟩
theorem may_man {L : LSt} {M : LMan} (h : L.may = true) (hm : M.may = true) (g : Nat) : ({ L with gen := g, on := true, m := M } : LSt).may = true := by
 unfold LSt.may mayB2 at h ⊢
 simp only [Bool.and_eq_true] at h ⊢
 exact ⟨⟨h.1.1, hm⟩, h.2⟩
theorem may_off {L : LSt} (h : L.may = true) : ({ L with on := false, m := LMan.zero } : LSt).may = true := may_less h
theorem newer_of {L : LSt} {v : Nat} (hm : L.may = true) (h1 : L.flo < v) (h2 : (if L.act = 0 then L.v0 else L.v1) < v) (h3 : L.on = true → L.m.v < v) : L.newer v = true := by
 unfold LSt.newer newB
 simp only [Bool.and_eq_true, Bool.or_eq_true, decide_eq_true_eq]
 refine ⟨⟨⟨hm, h1⟩, h2⟩, ?_⟩
 cases ho : L.on with
 | false => exact .inl rfl
 | true => exact .inr (h3 ho)
theorem admitR_off {L : LSt} {M : LMan} (hm : L.may = true) (hM : M.may = true) (ht : L.trial = 0) (ho : L.on = false) (hn : L.newer M.v = true) : L.admitR M = if 4294967294 ≤ L.gen then 9 else 0 := by
 unfold LSt.admitR
 rw [if_neg (by simp [hm, hM]), if_neg (by simp [ht]), if_neg (by simp [ho]), if_neg (by simp [hn])]
end Go.Proofs.YtmncpgfdpcckpaaGreatDoor
namespace Go.Proofs.YtmncpgfdpcckpaaGreatDoor
open Go.RowKit
def LSt.eqb (L K : LSt) : Bool := decide (L.act = K.act ∧ L.trial = K.trial ∧ L.flo = K.flo ∧ L.gen = K.gen ∧ (L.v0 = K.v0 ∧ L.l0 = K.l0 ∧ L.h0 = K.h0) ∧ (L.v1 = K.v1 ∧ L.l1 = K.l1 ∧ L.h1 = K.h1) ∧ L.on = K.on ∧ (L.m.s = K.m.s ∧ L.m.v = K.m.v ∧ L.m.l = K.m.l ∧ L.m.z = K.m.z ∧ L.m.p = K.m.p ∧ L.m.h = K.m.h))
theorem eqb_refl (L : LSt) : L.eqb L = true := by simp [LSt.eqb]
def SameOk (b : Bool) (w : World) (e : Ending) (w' : World) : Prop := e = .returned (.bool b) ∧ Below w.heap.size w w'
end Go.Proofs.YtmncpgfdpcckpaaGreatDoor
