/- Wheel: Add by cases: mathematics. -/
import Derived.Test.YtmlmpjokmbgmcaaWhMath2
namespace Go.Proofs.Ytmlmpjokmbgmcaa
open Go.RowKit
theorem prog_part {f f1 : Fl} {gen size S j id : Nat} {d : List UInt8} (h1 : 1 ≤ size) (h2 : size ≤ 16) (hd : d.length = size) (hg : gen < 4294967296) (hid : id < 4294967296) (hn : (opW f gen size 8).next < 8 * (256 / (size + 13))) (hS : (opW f gen size 8).next / (256 / (size + 13)) = S) (hj : (opW f gen size 8).next % (256 / (size + 13)) = j)
    (hout : outS f f1 S) (hrdy : (opW f gen size 8).ready = (S : Int) → f1 = f) (hbeg : (opW f gen size 8).ready ≠ (S : Int) → ∀ q, q < 256 → f1.bs (256 * (6 + S) + q) = 255) :
    (∃ f2, f1.prog (256 * (6 + S) + j * (size + 13)) (wrec gen id d) = (f2, 0) ∧ opW f2 gen size 8 = { opW f gen size 8 with L := (opW f gen size 8).L ++ [(id, d)], ready := (S : Int), next := (opW f gen size 8).next + 1 } ∧ outS f f2 S ∧ f2.er = f1.er ∧ f2.wear = f1.wear ∧ f2.down = f1.down ∧ (f1.there = false → f2.there = false) ∧ f2.steps = f1.steps + ((size + 13 : Nat) : Int)) ∨
    (f1.there = true ∧ ∃ f2, f1.prog (256 * (6 + S) + j * (size + 13)) (wrec gen id d) = (f2, 11) ∧ ((opW f2 gen size 8).L = (opW f gen size 8).L ∨ (opW f2 gen size 8).L = (opW f gen size 8).L ++ [(id, d)]) ∧ outS f f2 S ∧ f2.er = f1.er ∧ f2.wear = f1.wear ∧ f2.down = true ∧ f2.there = false) := by
  have hp := per_bounds h1 h2
  have hjl : j < 256 / (size + 13) := by rw [← hj]; exact Nat.mod_lt _ (by omega)
  have hjw : (j + 1) * (size + 13) ≤ 256 := Nat.le_trans (Nat.mul_le_mul_right _ hjl) hp.2.2
  have hjw2 : j * (size + 13) + (size + 13) ≤ 256 := by rw [Nat.succ_mul] at hjw; exact hjw
  have hwl := wrec_length gen id d
  rw [hd] at hwl
  have hbl : ∀ q, q < size + 13 → f1.bs (256 * (6 + S) + j * (size + 13) + q) = 255 := by
    intro q hq
    by_cases hr : (opW f gen size 8).ready = (S : Int)
    · rw [hrdy hr]
      have := next_blank h1 h2 hS hj hr
      rw [plAt_sub f S _ j hjw] at this
      exact sub_ff2 this q hq
    · have := hbeg hr (j * (size + 13) + q) (by omega)
      rwa [← Nat.add_assoc] at this
  generalize hat : 256 * (6 + S) + j * (size + 13) = at0 at *
  rcases prog_cases (wrec gen id d) f1 at0 with ⟨f2, a1, a2, a3, a4, a5, a6⟩ | ⟨a0, f2, k, tb, a1, a2, a3, a4, a5, a6⟩
  · left
    have hsub : f2.sub at0 (size + 13) = wrec gen id d := sub_eq hwl fun q hq => by
      rw [a2]
      unfold bsAll
      rw [if_pos (by omega), hbl q hq, u8_ff, Nat.add_sub_cancel_left]
    have hoth : ∀ i, i < at0 ∨ at0 + (size + 13) ≤ i → f2.bs i = f1.bs i := fun i hi => by
      rw [a2]; unfold bsAll; rw [if_neg (by omega)]
    have ho := prog_open (f2 := f2) (id := id) (d := d) h1 h2 hd hg hid hn hS hj hout hrdy hbeg (by rw [hat]; exact hoth) (by rw [hat]; exact .inl hsub)
    rw [hat] at ho
    exact ⟨f2, a1, ho.1 hsub, ho.2.2, a3.er, a3.wear, a5, a6, by rw [a4, hwl]⟩
  · right
    rw [hwl] at a1
    have hget : ∀ q, q < size + 13 → (f2.sub at0 (size + 13)).getD q 0 = if q < k then (wrec gen id d).getD q 0 else if q = k then (wrec gen id d).getD k 0 ||| tb else 255 := by
      intro q hq
      rw [sub_get _ _ _ _ hq, a3]
      unfold bsTorn
      by_cases e1 : q < k
      · rw [if_pos (by omega), if_pos e1, hbl q hq, u8_ff, Nat.add_sub_cancel_left]
      · rw [if_neg (by omega), if_neg e1]
        by_cases e2 : q = k
        · rw [if_pos (by omega), if_pos e2, hbl q hq, u8_ff]
        · rw [if_neg (by omega), if_neg e2, hbl q hq]
    have hlast : (wrec gen id d).getD (size + 12) 0 = 0 := by
      unfold wrec
      simp [List.getD, CrcM.put_length, wmsg_length, hd]
    have hpl : f2.sub at0 (size + 13) = wrec gen id d ∨ plB gen (f2.sub at0 (size + 13)) = false := by
      by_cases hk : k = size + 12
      · by_cases ht : tb = 0
        · left
          refine sub_eq hwl fun q hq => ?_
          have := hget q hq
          rw [sub_get _ _ _ _ hq] at this
          rw [this]
          by_cases e1 : q < k
          · rw [if_pos e1]
          · rw [if_neg e1, if_pos (by omega), ht, hk, hlast, show q = size + 12 by omega, hlast]; decide
        · right
          apply last_no
          rw [f2.sub_length, show size + 13 - 1 = size + 12 by omega, hget _ (by omega), if_neg (by omega), if_pos hk.symm, hk, hlast]
          intro e
          apply ht
          apply UInt8.toNat.inj
          have := congrArg UInt8.toNat e
          simpa using this
      · right
        apply last_no
        rw [f2.sub_length, show size + 13 - 1 = size + 12 by omega, hget _ (by omega), if_neg (by omega), if_neg (by omega)]
        decide
    have hoth : ∀ i, i < at0 ∨ at0 + (size + 13) ≤ i → f2.bs i = f1.bs i := fun i hi => by
      rw [a3]; unfold bsTorn; rw [if_neg (by omega), if_neg (by omega)]
    have ho := prog_open (f2 := f2) (id := id) (d := d) h1 h2 hd hg hid hn hS hj hout hrdy hbeg (by rw [hat]; exact hoth) (by rw [hat]; exact hpl)
    exact ⟨a0, f2, a2, ho.2.1, ho.2.2, a4.er, a4.wear, a5, a6⟩
theorem add_form (x : Wh) (f : Fl) (id S j : Nat) (d : List UInt8) (hd : d.length = x.size) (hdn : f.down = false) (hn : x.next < 8 * (256 / (x.size + 13))) (hS : x.next / (256 / (x.size + 13)) = S) (hj : x.next % (256 / (x.size + 13)) = j) :
    x.add f id d = if (f.prepW x.ready S).2 = 0 then
      if ((f.prepW x.ready S).1.prog (256 * (6 + S) + j * (x.size + 13)) (wrec x.gen id d)).2 = 0 then
        ({ x with L := x.L ++ [(id, d)], ready := (S : Int), next := x.next + 1 }, ((f.prepW x.ready S).1.prog (256 * (6 + S) + j * (x.size + 13)) (wrec x.gen id d)).1, 0)
      else ({ x with ready := (S : Int) }, (f.prepW x.ready S).1.prog (256 * (6 + S) + j * (x.size + 13)) (wrec x.gen id d))
      else (x, f.prepW x.ready S) := by
  unfold Wh.add Wh.at_ Wh.wide Wh.per
  rw [if_pos hd, if_neg (by omega), if_neg (by rw [hdn]; decide), hS, hj]
theorem add_cases {f : Fl} {gen size S j id : Nat} {d : List UInt8} (h1 : 1 ≤ size) (h2 : size ≤ 16) (hd : d.length = size) (hg : gen < 4278190080) (hid : id < 4294967296) (hdn : f.down = false) (hn : (opW f gen size 8).next < 8 * (256 / (size + 13))) (hS : (opW f gen size 8).next / (256 / (size + 13)) = S) (hj : (opW f gen size 8).next % (256 / (size + 13)) = j) :
    (∃ f2, (opW f gen size 8).add f id d = (opW f2 gen size 8, f2, 0) ∧ opW f2 gen size 8 = { opW f gen size 8 with L := (opW f gen size 8).L ++ [(id, d)], ready := (S : Int), next := (opW f gen size 8).next + 1 } ∧ WEff f f2 S (erW f (opW f gen size 8).ready S) ∧ f2.down = false ∧ (f.there = false → f2.there = false)) ∨
    (f.there = true ∧ ∃ hx f2, (opW f gen size 8).add f id d = (hx, f2, 11) ∧ ((opW f2 gen size 8).L = (opW f gen size 8).L ∨ (opW f2 gen size 8).L = (opW f gen size 8).L ++ [(id, d)]) ∧ WEff f f2 S (erW f (opW f gen size 8).ready S) ∧ f2.down = true ∧ f2.there = false) ∨
    ((opW f gen size 8).add f id d = (opW f gen size 8, f, 10) ∧ f.wear ≤ f.er (6 + S) ∧ (opW f gen size 8).ready ≠ (S : Int) ∧ allFF (secB f S) = false) := by
  have e1 := opW_gen f gen size 8
  have e2 := opW_size f gen size 8
  have hS8 : S < 8 := by rw [← hS]; exact Nat.div_lt_of_lt_mul (by rw [Nat.mul_comm]; exact hn)
  have hp := per_bounds h1 h2
  have hjl : j < 256 / (size + 13) := by rw [← hj]; exact Nat.mod_lt _ (by omega)
  have hjw : (j + 1) * (size + 13) ≤ 256 := Nat.le_trans (Nat.mul_le_mul_right _ hjl) hp.2.2
  have hadd := add_form (opW f gen size 8) f id S j d (by rw [e2]; exact hd) hdn (by rw [e2]; exact hn) (by rw [e2]; exact hS) (by rw [e2]; exact hj)
  simp only [e1, e2] at hadd
  have hsec : allFF (f.sub (256 * (6 + S)) 256) = allFF (secB f S) := rfl
  -- where the place is made ready
  have fin : ∀ f1 : Fl, f.prepW (opW f gen size 8).ready S = (f1, 0) → outS f f1 S → ((opW f gen size 8).ready = (S : Int) → f1 = f) → ((opW f gen size 8).ready ≠ (S : Int) → ∀ q, q < 256 → f1.bs (256 * (6 + S) + q) = 255) → f1.er = erW f (opW f gen size 8).ready S → f1.wear = f.wear → f1.down = false → (f.there = false → f1.there = false) → _ :=
    fun f1 hpr ho hr hb her hw hdn1 hth => by
      rw [hpr] at hadd
      rw [if_pos rfl] at hadd
      dsimp only at hadd
      have hee : ({ gen := gen, size := size, L := (opW f gen size 8).L ++ [(id, d)], ready := (S : Int), next := (opW f gen size 8).next + 1 } : Wh) = { opW f gen size 8 with L := (opW f gen size 8).L ++ [(id, d)], ready := (S : Int), next := (opW f gen size 8).next + 1 } := by
        show _ = (⟨(opW f gen size 8).gen, (opW f gen size 8).size, _, _, _⟩ : Wh)
        rw [e1, e2]
      rw [hee] at hadd
      refine (?_ : (∃ f2, (opW f gen size 8).add f id d = (opW f2 gen size 8, f2, 0) ∧ opW f2 gen size 8 = { opW f gen size 8 with L := (opW f gen size 8).L ++ [(id, d)], ready := (S : Int), next := (opW f gen size 8).next + 1 } ∧ WEff f f2 S (erW f (opW f gen size 8).ready S) ∧ f2.down = false ∧ (f.there = false → f2.there = false)) ∨
        (f.there = true ∧ ∃ hx f2, (opW f gen size 8).add f id d = (hx, f2, 11) ∧ ((opW f2 gen size 8).L = (opW f gen size 8).L ∨ (opW f2 gen size 8).L = (opW f gen size 8).L ++ [(id, d)]) ∧ WEff f f2 S (erW f (opW f gen size 8).ready S) ∧ f2.down = true ∧ f2.there = false) ∨
        ((opW f gen size 8).add f id d = (opW f gen size 8, f, 10) ∧ f.wear ≤ f.er (6 + S) ∧ (opW f gen size 8).ready ≠ (S : Int) ∧ allFF (secB f S) = false))
      rcases prog_part (f := f) (f1 := f1) (id := id) (d := d) h1 h2 hd (by omega) hid hn hS hj ho hr hb with ⟨f2, b1, b2, b3, b4, b5, b6, b7, _⟩ | ⟨b0, f2, b1, b2, b3, b4, b5, b6, b7⟩
      · rw [b1, if_pos rfl] at hadd
        exact .inl ⟨f2, by rw [hadd, b2], b2, ⟨b3, b4.trans her, b5.trans hw⟩, b6.trans hdn1, fun h => b7 (hth h)⟩
      · rw [b1, if_neg (show ¬ (11 : Int) = 0 by decide)] at hadd
        refine .inr (.inl ⟨?_, _, f2, hadd, b2, ⟨b3, b4.trans her, b5.trans hw⟩, b6, b7⟩)
        cases h : f.there with
        | true => rfl
        | false => rw [hth h] at b0; cases b0
  by_cases hr : (S : Int) = (opW f gen size 8).ready
  · exact fin f (by unfold Fl.prepW; rw [if_pos hr]) (fun _ _ => rfl) (fun _ => rfl) (fun h => absurd hr.symm h) (by unfold erW; rw [if_pos (.inl hr)]) rfl hdn (fun h => h)
  · by_cases hff : allFF (secB f S) = true
    · exact fin f (by unfold Fl.prepW; rw [if_neg hr, hsec, if_pos hff]) (fun _ _ => rfl) (fun h => absurd h.symm hr) (fun _ q hq => sub_ff2 hff q hq) (by unfold erW; rw [if_pos (.inr hff)]) rfl hdn (fun h => h)
    · have hff : allFF (secB f S) = false := by simpa using hff
      have hpw : f.prepW (opW f gen size 8).ready S = f.erase (6 + S) := by
        unfold Fl.prepW
        rw [if_neg hr, if_neg (by rw [show allFF (f.sub (256 * (6 + S)) 256) = false from hff]; decide)]
      have her : erW f (opW f gen size 8).ready S = erUp f.er (6 + S) := by unfold erW; rw [if_neg (by rw [hff]; simp [hr])]
      by_cases hw : f.er (6 + S) < f.wear
      · rcases erase_cases f (6 + S) hw with ⟨f1, c1, c2, c3, c4, c5, c6, c7⟩ | ⟨c0, f1, t, c1, c2, c3, c4, c5, c6, c7⟩
        · exact fin f1 (hpw.trans c1) (fun i hi => by rw [c2]; exact if_neg (by omega)) (fun h => absurd h.symm hr) (fun _ q hq => by rw [c2]; exact if_pos (by omega)) (c3.trans her.symm) c4 (c6.trans hdn) c7
        · rw [hpw, c2] at hadd
          rw [if_neg (show ¬ (11 : Int) = 0 by decide)] at hadd
          have hout : outS f f1 S := fun i hi => by rw [c3]; exact if_neg (by omega)
          refine .inr (.inl ⟨c0, _, f1, hadd, .inl ?_, ⟨hout, c4.trans her.symm, c5⟩, c6, c7⟩)
          have hbz := begin_zero h1 h2 hS hj (fun h => hr h.symm)
          have hbz2 : j = 0 ∧ cntB f gen size S = false := by
            rcases hbz with h | h
            · exact h
            · omega
          obtain ⟨hj0, hcn⟩ := hbz2
          have hpl0 : plB gen (plAt (secB f1 S) (size + 13) j) = false := by
            rw [plAt_sub f1 S _ j hjw]
            by_cases ht : t = 0
            · have e : f1.sub (256 * (6 + S) + j * (size + 13)) (size + 13) = f.sub (256 * (6 + S) + j * (size + 13)) (size + 13) := sub_congr fun q _ => by rw [c3]; exact if_neg (by omega)
              rw [e, ← plAt_sub f S _ j hjw, hj0]
              exact hcn
            · refine gen_no ?_ (by rw [f1.sub_length]; omega) hg
              rw [sub_get _ _ _ _ (by omega), c3, hj0]
              exact if_pos (by omega)
          exact (open_step (f := f) (f' := f1) (gen := gen) h1 h2 hn hS hj (fun s _ hs => hout.sec hs) (fun h => absurd h.symm hr) (fun _ h => by rw [hpl0] at h; cases h)).2 hpl0
      · have e : f.erase (6 + S) = (f, 10) := by unfold Fl.erase; rw [if_pos (by omega)]
        rw [hpw, e, if_neg (show ¬ (10 : Int) = 0 by decide)] at hadd
        refine .inr (.inr ⟨hadd, by omega, fun h => hr h.symm, hff⟩)
end Go.Proofs.Ytmlmpjokmbgmcaa
