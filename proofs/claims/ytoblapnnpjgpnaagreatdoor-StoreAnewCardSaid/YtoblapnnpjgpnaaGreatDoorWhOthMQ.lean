/- WheelOther: the flash under a wheel that has only grown, another generation beside it. -/
import Derived.Test.YtoblapnnpjgpnaaGreatDoorWhAwQ
import Derived.Test.YtoblapnnpjgpnaaGreatDoorLawWhCallQ
namespace Go.Proofs.YtoblapnnpjgpnaaGreatDoor
open Go.RowKit
/-- flash of wear 9, never erased: generation 1 has filled all places from 0 to i -/
structure OtF (f : Fl) (size i : Nat) : Prop where
  down : f.down = false
  there : f.there = false
  wear : f.wear = 9
  er : ∀ s, f.er s = 0
  full : ∀ s, s < 8 → s * (256 / (size + 13)) < i → cntB f 1 size s = true
  rest : ∀ s, s < 8 → i ≤ s * (256 / (size + 13)) → allFF (secB f s) = true
theorem plAt_four (b : List UInt8) (w : Nat) (hw : 4 ≤ w) : (plAt b w 0).take 4 = b.take 4 := by
  unfold plAt
  rw [Nat.zero_mul, List.drop_zero, List.take_take, Nat.min_eq_left hw]
theorem cnt_gen2 {f : Fl} {g g' size size' s : Nat} (h : cntB f g size s = true) (hg : g ≠ g') : cntB f g' size' s = false := by
  have := (plB_yes h).2.2
  rw [plAt_four _ _ (by omega)] at this
  apply decide_eq_false
  rintro ⟨_, _, h3⟩
  rw [plAt_four _ _ (by omega)] at h3
  exact hg (this.symm.trans h3)
theorem cnt_blank {f : Fl} {g size s : Nat} (h : allFF (secB f s) = true) (hs : size + 13 ≤ 256) : cntB f g size s = false := by
  unfold cntB
  rw [plAt_sub f s _ 0 (by omega)]
  refine blank_no (allFF_of fun q hq => ?_) (by rw [f.sub_length]; omega)
  rw [f.sub_length] at hq
  rw [sub_get _ _ _ _ hq]
  have := sub_ff2 h q (by omega)
  rwa [show 256 * (6 + s) + 0 * (size + 13) + q = 256 * (6 + s) + q by omega]
theorem OtF.add {f : Fl} {size i id : Nat} {d : List UInt8} (h : OtF f size i) (h1 : 1 ≤ size) (h2 : size ≤ 16) (hd : d.length = size) (hid : id < 4294967296) (hn : (opW f 1 size 8).next = i) (hi : i < 8 * (256 / (size + 13))) :
    ∃ f2, (opW f 1 size 8).add f id d = (opW f2 1 size 8, f2, 0) ∧ OtF f2 size (i + 1) ∧ (opW f2 1 size 8).next = i + 1 ∧ (opW f2 1 size 8).L.length = (opW f 1 size 8).L.length + 1 := by
  have hp := per_bounds h1 h2
  obtain ⟨S, hS⟩ : ∃ S, i / (256 / (size + 13)) = S := ⟨_, rfl⟩
  obtain ⟨j, hj⟩ : ∃ j, i % (256 / (size + 13)) = j := ⟨_, rfl⟩
  have hS8 : S < 8 := by rw [← hS]; exact Nat.div_lt_of_lt_mul (by rw [Nat.mul_comm]; exact hi)
  have hdm := Nat.div_add_mod i (256 / (size + 13))
  rw [hS, hj, Nat.mul_comm] at hdm
  have hjl : j < 256 / (size + 13) := by rw [← hj]; exact Nat.mod_lt _ (by omega)
  have hrd : (opW f 1 size 8).ready = (S : Int) ∨ allFF (secB f S) = true := by
    by_cases e : (opW f 1 size 8).ready = (S : Int)
    · exact .inl e
    · rcases begin_zero (S := S) (j := j) h1 h2 (by rw [hn]; exact hS) (by rw [hn]; exact hj) e with ⟨q, _⟩ | q
      · exact .inr (h.rest S hS8 (by omega))
      · omega
  have hcase := add_cases (f := f) (gen := 1) (size := size) (S := S) (j := j) (id := id) (d := d) h1 h2 hd (by omega) hid h.down (by rw [hn]; exact hi) (by rw [hn]; exact hS) (by rw [hn]; exact hj)
  have hmono2 : ∀ s, S < s → S * (256 / (size + 13)) + 256 / (size + 13) ≤ s * (256 / (size + 13)) := fun s hs => by
    have := Nat.mul_le_mul_right (256 / (size + 13)) hs
    rwa [Nat.succ_mul] at this
  have hmono : ∀ s, s < S → s * (256 / (size + 13)) < S * (256 / (size + 13)) := fun s hs => Nat.mul_lt_mul_of_pos_right hs (by omega)
  rcases hcase with ⟨f2, a1, a2, a3, a4, a5⟩ | ⟨a0, _⟩ | ⟨_, b2, _, _⟩
  · refine ⟨f2, a1, ⟨a4, a5 h.there, a3.wear.trans h.wear, fun s => ?_, fun s hs hsi => ?_, fun s hs hsi => ?_⟩, by rw [a2]; show (opW f 1 size 8).next + 1 = _; rw [hn], by rw [a2]; simp⟩
    · rw [a3.er]
      unfold erW
      rw [if_pos (hrd.imp (fun e => e.symm) (fun h => h))]
      exact h.er s
    · by_cases hsS : s = S
      · rcases opW_state f2 1 size h1 h2 with ⟨c1, _⟩ | ⟨r, i0, c1, c2, c3, c4, c5, c6, c7, c8⟩
        · rw [c1] at a2
          have : (-1 : Int) = (S : Int) := congrArg Wh.ready a2
          omega
        · rw [a2] at c6
          have hrS : r = S := (Int.ofNat.inj (show (S : Int) = (r : Int) from c6)).symm
          rw [hsS, ← hrS]; exact c3
      · have hlt : s < S := by
          rcases Nat.lt_or_gt_of_ne hsS with q | q
          · exact q
          · have := hmono2 s q; omega
        have := h.full s hs (by have := hmono s hlt; omega)
        unfold cntB at this ⊢
        rw [a3.out.sec hsS]; exact this
    · have hsS : s ≠ S := fun q => by rw [q] at hsi; omega
      have := h.rest s hs (by omega)
      rw [a3.out.sec hsS]; exact this
  · rw [h.there] at a0; cases a0
  · rw [h.wear, h.er] at b2; omega
/-- another generation, of another size maybe: it finds nothing -/
theorem OtF.other {f : Fl} {size i : Nat} (h : OtF f size i) (size' : Nat) (h2 : size' ≤ 16) : opW f 2 size' 8 = ⟨2, size', [], -1, 0⟩ :=
  opW_skip 8 (Nat.zero_le _) fun s _ hs => by
    by_cases hi : s * (256 / (size + 13)) < i
    · exact cnt_gen2 (h.full s hs hi) (by omega)
    · exact cnt_blank (h.rest s hs (by omega)) (by omega)
/-- its first record -/
theorem OtF.first {f : Fl} {size i size' id : Nat} {d : List UInt8} (h : OtF f size i) (hs1 : 1 ≤ size) (hs2 : size ≤ 16) (h1 : 1 ≤ size') (h2 : size' ≤ 16) (hd : d.length = size') (hid : id < 4294967296) :
    ∃ f2, (⟨2, size', [], -1, 0⟩ : Wh).add f id d = (opW f2 2 size' 8, f2, 0) ∧ (opW f2 2 size' 8).L = [(id, d)] ∧ f2.down = false ∧ (0 < i → f2.er 6 = 1) ∧ ∀ k, (opW f2 1 size k).L.length ≤ (opW f 1 size k).L.length := by
  have ho := h.other size' h2
  have hp := per_bounds h1 h2
  have hcase := add_cases (f := f) (gen := 2) (size := size') (S := 0) (j := 0) (id := id) (d := d) h1 h2 hd (by omega) hid h.down (by rw [ho]; show 0 < _; omega) (by rw [ho]; exact Nat.zero_div _) (by rw [ho]; exact Nat.zero_mod _)
  rcases hcase with ⟨f2, a1, a2, a3, a4, a5⟩ | ⟨a0, _⟩ | ⟨_, b2, _, _⟩
  · rw [ho] at a1
    refine ⟨f2, a1, by rw [a2, ho]; rfl, a4, fun hi => ?_, ?_⟩
    · rw [a3.er, ho]
      unfold erW
      have hc := h.full 0 (by omega) (by omega)
      have hnf : allFF (secB f 0) = false := by
        cases e : allFF (secB f 0) with
        | false => rfl
        | true => rw [cnt_blank e (by omega)] at hc; cases hc
      rw [if_neg (by rw [hnf]; simp)]
      unfold erUp
      rw [if_pos rfl, h.er]
      rfl
    · have hc2 : cntB f2 2 size' 0 = true := by
        rcases opW_state f2 2 size' h1 h2 with ⟨c1, _⟩ | ⟨r, i0, c1, c2, c3, c4, c5, c6, c7, c8⟩
        · rw [c1] at a2
          have : (-1 : Int) = ((0 : Nat) : Int) := congrArg Wh.ready a2
          omega
        · rw [a2] at c6
          have hrS : r = 0 := (Int.ofNat.inj (show ((0 : Nat) : Int) = (r : Int) from c6)).symm
          rw [← hrS]; exact c3
      have hc1 : cntB f2 1 size 0 = false := cnt_gen2 hc2 (by omega)
      intro k
      induction k with
      | zero => exact Nat.le_refl _
      | succ k ih =>
        cases hq : cntB f2 1 size k with
        | false =>
          rw [opW_no hq]
          cases hq2 : cntB f 1 size k with
          | false => rw [opW_no hq2]; exact ih
          | true =>
            rw [opW_yes hq2]
            show _ ≤ ((opW f 1 size k).L ++ _).length
            rw [List.length_append]
            omega
        | true =>
          have hk : k ≠ 0 := fun e => by rw [e, hc1] at hq; cases hq
          have hs := a3.out.sec hk
          have hq2 : cntB f 1 size k = true := by
            unfold cntB at hq ⊢
            rw [hs] at hq; exact hq
          rw [opW_yes hq, opW_yes hq2]
          show ((opW f2 1 size k).L ++ recsUp (opW f2 1 size k).gen (opW f2 1 size k).wide (secB f2 k) _).length ≤ ((opW f 1 size k).L ++ recsUp (opW f 1 size k).gen (opW f 1 size k).wide (secB f k) _).length
          unfold Wh.wide
          rw [opW_gen, opW_gen, opW_size, opW_size, hs, List.length_append, List.length_append]
          omega
  · rw [h.there] at a0; cases a0
  · rw [h.wear, h.er] at b2; omega
theorem OtF.new (size : Nat) : OtF ((flNew 9).fill 0 3584) size 0 :=
  ⟨rfl, rfl, rfl, fun _ => rfl, fun s _ h => absurd h (by omega), fun s hs _ => allFF_of fun q hq => by
    rw [secB_length] at hq
    unfold secB
    rw [sub_get _ _ _ _ hq]
    show (if 0 ≤ _ ∧ _ < 0 + 3584 then (255 : UInt8) else _) = 255
    rw [if_pos (by omega)]⟩
end Go.Proofs.YtoblapnnpjgpnaaGreatDoor
