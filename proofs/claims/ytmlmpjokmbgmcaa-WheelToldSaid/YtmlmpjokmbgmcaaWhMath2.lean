/- Wheel: what Add makes of flash, whole or torn: mathematics. -/
import Derived.Test.YtmlmpjokmbgmcaaWhMath
namespace Go.Proofs.Ytmlmpjokmbgmcaa
open Go.RowKit
theorem wrec_take4 (gen id : Nat) (d : List UInt8) : (wrec gen id d).take 4 = CrcM.four gen := by simp [wrec, CrcM.put, wmsg, CrcM.four]
theorem wrec_whole (gen id : Nat) (d : List UInt8) (hg : gen < 4294967296) : plB gen (wrec gen id d) = true := by
  apply decide_eq_true
  refine ⟨?_, ?_, ?_⟩
  · have e : (wrec gen id d).take ((wrec gen id d).length - 1) = CrcM.put (wmsg gen id d) := by unfold wrec; simp
    rw [e]; exact CrcM.put_right _
  · unfold wrec; simp [List.getD]
  · rw [wrec_take4]; exact CrcM.number_four gen hg
theorem wrec_rec (gen id : Nat) (d : List UInt8) (hid : id < 4294967296) : plR (wrec gen id d) = (id, d) := by
  unfold plR
  have e1 : ((wrec gen id d).drop 4).take 4 = CrcM.four id := by simp [wrec, CrcM.put, wmsg, CrcM.four]
  have e2 : ((wrec gen id d).take ((wrec gen id d).length - 5)).drop 8 = d := by
    rw [wrec_length, show d.length + 13 - 5 = d.length + 8 by omega]
    have e : wrec gen id d = wmsg gen id d ++ (CrcM.four (CrcM.sum (wmsg gen id d)) ++ [0]) := by simp [wrec, CrcM.put]
    rw [e, List.take_left' (wmsg_length gen id d)]
    simp [wmsg, CrcM.four]
  rw [e1, e2, CrcM.number_four id hid]
theorem last_no {gen : Nat} {p : List UInt8} (h : p.getD (p.length - 1) 0 ≠ 0) : plB gen p = false := by
  apply decide_eq_false
  rintro ⟨_, h2, _⟩
  exact h h2
theorem gen_no {gen : Nat} {p : List UInt8} (h : p.getD 0 0 = 255) (hp : 4 ≤ p.length) (hg : gen < 4278190080) : plB gen p = false := by
  apply decide_eq_false
  rintro ⟨_, _, h3⟩
  match p, hp with
  | x0 :: x1 :: x2 :: x3 :: t, _ =>
    have e : x0 = 255 := h
    subst e
    have e2 : CrcM.number (((255 : UInt8) :: x1 :: x2 :: x3 :: t).take 4) = (((255 : UInt8).toNat * 256 + x1.toNat) * 256 + x2.toNat) * 256 + x3.toNat := by simp [CrcM.number]
    rw [e2] at h3
    have e3 : (255 : UInt8).toNat = 255 := rfl
    rw [e3] at h3
    omega
/-- bytes outside sector S of the wheel are the same -/
def outS (f f' : Fl) (S : Nat) : Prop := ∀ i, i < 256 * (6 + S) ∨ 256 * (6 + S) + 256 ≤ i → f'.bs i = f.bs i
theorem outS.sec {f f' : Fl} {S s : Nat} (h : outS f f' S) (hs : s ≠ S) : secB f' s = secB f s := by
  unfold secB Fl.sub
  apply List.map_congr_left
  intro i hi
  have : i < 256 := by simpa using hi
  exact h _ (by omega)
theorem sub_congr {f f' : Fl} {a n : Nat} (h : ∀ q, q < n → f'.bs (a + q) = f.bs (a + q)) : f'.sub a n = f.sub a n := by
  unfold Fl.sub
  apply List.map_congr_left
  intro i hi
  exact h _ (by simpa using hi)
theorem sub_eq {f : Fl} {a n : Nat} {l : List UInt8} (hl : l.length = n) (h : ∀ q, q < n → f.bs (a + q) = l.getD q 0) : f.sub a n = l := by
  apply List.ext_getElem
  · rw [f.sub_length, hl]
  · intro i h1 h2
    rw [f.sub_length] at h1
    have := h i h1
    rw [List.getD_eq_getElem?_getD, List.getElem?_eq_getElem h2] at this
    simp only [Fl.sub, List.getElem_map, List.getElem_range]
    simpa using this
theorem sub_ff2 {f : Fl} {a n : Nat} (h : allFF (f.sub a n) = true) (q : Nat) (hq : q < n) : f.bs (a + q) = 255 := by
  have := allFF_get h q (by rw [f.sub_length]; exact hq) 0
  rwa [sub_get f a n q hq] at this
theorem begin_zero {f : Fl} {gen size S j : Nat} (h1 : 1 ≤ size) (h2 : size ≤ 16) (hS : (opW f gen size 8).next / (256 / (size + 13)) = S) (hj : (opW f gen size 8).next % (256 / (size + 13)) = j) (hr : (opW f gen size 8).ready ≠ (S : Int)) : j = 0 ∧ cntB f gen size S = false ∨ 8 ≤ S := by
  have hp := per_bounds h1 h2
  rcases opW_state f gen size h1 h2 with ⟨a1, a2⟩ | ⟨r, i, a1, a2, a3, a4, a5, a6, a7, a8⟩
  · have hn0 : (opW f gen size 8).next = 0 := by rw [a1]
    rw [hn0] at hS hj
    rw [Nat.zero_div] at hS
    rw [Nat.zero_mod] at hj
    subst hS
    exact .inl ⟨hj.symm, a2 0 (by omega)⟩
  · obtain ⟨pr, hpr⟩ : ∃ pr, 256 / (size + 13) = pr := ⟨_, rfl⟩
    rw [hpr] at hp a2 a7 hS hj
    have e : (opW f gen size 8).next = r * pr + (i + 1) := by rw [a7]; omega
    by_cases hlt : i + 1 < pr
    · exfalso
      apply hr
      rw [a6, ← hS, e, Nat.mul_comm, Nat.mul_add_div (by omega), Nat.div_eq_of_lt hlt, Nat.add_zero]
    · have hi : i + 1 = pr := by omega
      have e2 : (opW f gen size 8).next = (r + 1) * pr := by rw [e, hi, Nat.succ_mul]
      have hS2 : S = r + 1 := by rw [← hS, e2]; exact Nat.mul_div_cancel _ (by omega)
      by_cases h8 : S < 8
      · exact .inl ⟨by rw [← hj, e2]; exact Nat.mul_mod_left _ _, a4 S (by omega) h8⟩
      · exact .inr (by omega)
structure WEff (f f' : Fl) (S : Nat) (er : Nat → Int) : Prop where
  out : outS f f' S
  er : f'.er = er
  wear : f'.wear = f.wear
/-- what becomes of the erasures -/
def erW (f : Fl) (ready : Int) (S : Nat) : Nat → Int := if (S : Int) = ready ∨ allFF (secB f S) = true then f.er else erUp f.er (6 + S)
theorem place_apart {i j w q r : Nat} (h : i ≠ j) (hq : q < w) (hr : r < w) : i * w + q ≠ j * w + r := by
  intro e
  rcases Nat.lt_or_gt_of_ne h with hlt | hlt
  · have := Nat.mul_le_mul_right w hlt
    rw [Nat.succ_mul] at this
    omega
  · have := Nat.mul_le_mul_right w hlt
    rw [Nat.succ_mul] at this
    omega
/-- f1: where the next place is blank; f2: where it is programmed, whole or torn -/
theorem prog_open {f f1 f2 : Fl} {gen size S j id : Nat} {d : List UInt8} (h1 : 1 ≤ size) (h2 : size ≤ 16) (hd : d.length = size) (hg : gen < 4294967296) (hid : id < 4294967296) (hn : (opW f gen size 8).next < 8 * (256 / (size + 13))) (hS : (opW f gen size 8).next / (256 / (size + 13)) = S) (hj : (opW f gen size 8).next % (256 / (size + 13)) = j)
    (hout : outS f f1 S) (hrdy : (opW f gen size 8).ready = (S : Int) → f1 = f) (hbeg : (opW f gen size 8).ready ≠ (S : Int) → ∀ q, q < 256 → f1.bs (256 * (6 + S) + q) = 255)
    (hother : ∀ i, i < 256 * (6 + S) + j * (size + 13) ∨ 256 * (6 + S) + j * (size + 13) + (size + 13) ≤ i → f2.bs i = f1.bs i)
    (hpl : f2.sub (256 * (6 + S) + j * (size + 13)) (size + 13) = wrec gen id d ∨ plB gen (f2.sub (256 * (6 + S) + j * (size + 13)) (size + 13)) = false) :
    (f2.sub (256 * (6 + S) + j * (size + 13)) (size + 13) = wrec gen id d → opW f2 gen size 8 = { opW f gen size 8 with L := (opW f gen size 8).L ++ [(id, d)], ready := (S : Int), next := (opW f gen size 8).next + 1 }) ∧
    ((opW f2 gen size 8).L = (opW f gen size 8).L ∨ (opW f2 gen size 8).L = (opW f gen size 8).L ++ [(id, d)]) ∧ outS f f2 S := by
  have hp := per_bounds h1 h2
  have hjl : j < 256 / (size + 13) := by rw [← hj]; exact Nat.mod_lt _ (by omega)
  have hjw : (j + 1) * (size + 13) ≤ 256 := Nat.le_trans (Nat.mul_le_mul_right _ hjl) hp.2.2
  have hjw2 : j * (size + 13) + (size + 13) ≤ 256 := by rw [Nat.succ_mul] at hjw; exact hjw
  have hout2 : outS f f2 S := fun i hi => by
    rw [hother i (by omega)]; exact hout i hi
  have hst := open_step (f := f) (f' := f2) (gen := gen) h1 h2 hn hS hj (fun s _ hs => hout2.sec hs)
    (fun hr i hi hij => by
      have hiw : (i + 1) * (size + 13) ≤ 256 := Nat.le_trans (Nat.mul_le_mul_right _ hi) hp.2.2
      rw [plAt_sub f2 S _ i hiw, plAt_sub f S _ i hiw]
      refine sub_congr fun q hq => ?_
      rw [hother _ ?_, hrdy hr]
      rcases Nat.lt_or_gt_of_ne hij with hlt | hlt
      · have := Nat.mul_le_mul_right (size + 13) hlt
        rw [Nat.succ_mul] at this
        omega
      · have := Nat.mul_le_mul_right (size + 13) hlt
        rw [Nat.succ_mul] at this
        omega)
    (fun hr _ i h0 hi => by
      have hiw : (i + 1) * (size + 13) ≤ 256 := Nat.le_trans (Nat.mul_le_mul_right _ hi) hp.2.2
      rw [plAt_sub f2 S _ i hiw]
      refine allFF_of fun q hq => ?_
      rw [f2.sub_length] at hq
      rw [sub_get _ _ _ _ hq]
      have hiw2 : i * (size + 13) + (size + 13) ≤ 256 := by rw [Nat.succ_mul] at hiw; exact hiw
      have hS8 : S < 8 := by rw [← hS]; exact Nat.div_lt_of_lt_mul (by rw [Nat.mul_comm]; exact hn)
      have hj0 : j = 0 := by
        rcases begin_zero h1 h2 hS hj hr with ⟨h, _⟩ | h
        · exact h
        · omega
      rw [hother _ ?_]
      · have := hbeg hr (i * (size + 13) + q) (by omega)
        rwa [← Nat.add_assoc] at this
      · right
        have := Nat.mul_le_mul_right (size + 13) h0
        rw [hj0]
        omega)
  rw [plAt_sub f2 S _ j hjw] at hst
  refine ⟨fun e => ?_, ?_, hout2⟩
  · have := hst.1 (by rw [e]; exact wrec_whole gen id d hg)
    rw [this, e, wrec_rec gen id d hid]
  · rcases hpl with e | e
    · right
      have := hst.1 (by rw [e]; exact wrec_whole gen id d hg)
      rw [this, e, wrec_rec gen id d hid]
    · exact .inl (hst.2 e)
end Go.Proofs.Ytmlmpjokmbgmcaa
