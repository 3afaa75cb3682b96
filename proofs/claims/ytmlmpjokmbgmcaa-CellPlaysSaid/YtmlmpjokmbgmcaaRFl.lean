/- The reference's Flash, as the same data: how it lies in memory; step, Program, Erase, Fuse, Cut, Start: by contracts. -/
import Derived.Test.YtmlmpjokmbgmcaaFlFree
namespace Go.Proofs.Ytmlmpjokmbgmcaa
open Go.RowKit
def rcell (gB : Nat) (f : Fl) (fu : Bool) (fz : Int) (i : Nat) : Value :=
  if i = 0 then .slice (some ⟨gB, 0, none⟩) 3584 3584
  else if i = 1 then .int .i64 f.wear
  else if i < 16 then .int .i64 (f.er (i - 2))
  else if i = 16 then .bool f.down
  else if i = 17 then .int .i64 f.steps
  else if i = 18 then .bool fu
  else if i = 19 then .int .i64 fz
  else .int .i64 f.torn
structure FuseOk (f : Fl) (fu : Bool) (fz : Int) : Prop where
  yes : f.there = true → fu = true ∧ fz = f.left ∧ 0 ≤ fz
  no : f.there = false → fu = false ∨ (fu = true ∧ fz < 0 ∧ f.down = true)
  lo : -9223372036854775808 ≤ fz
  hi : fz ≤ 9223372036854775807
def RHead (W : World) (gm gB : Nat) (f : Fl) (fu : Bool) (fz : Int) : Prop :=
  ∃ cs : Array Value, W.heap[gm]? = some (.cells cs 43 (0, 0)) ∧ cs.size = 21 ∧ ∀ i, i < 21 → cs[i]? = some (rcell gB f fu fz i)
def RBody (W : World) (gB : Nat) (f : Fl) : Prop :=
  ∃ cs : Array Value, W.heap[gB]? = some (.cells cs 5 (0, 0)) ∧ cs.size = 3584 ∧ ∀ i, i < 3584 → cs[i]? = some (.int .u8 ((f.bs i).toNat : Int))
/-- the reference's flash lies in blocks gm and gB -/
def RfAt (W : World) (gm gB : Nat) (f : Fl) : Prop := gm ≠ gB ∧ RBody W gB f ∧ ∃ fu fz, FuseOk f fu fz ∧ RHead W gm gB f fu fz
/-- grown, nothing old written but blocks a and b -/
structure Gr2 (a b : Nat) (w w' : World) : Prop where
  os : w'.os = w.os
  tape : w'.tape = w.tape
  output : w'.output = w.output
  size : w.heap.size ≤ w'.heap.size
  block : ∀ k, k < w.heap.size → k ≠ a → k ≠ b → w'.heap[k]? = w.heap[k]?
section
variable {W W' : World} {gm gB a b : Nat} {f f' : Fl} {fu : Bool} {fz : Int}
theorem Gr2.refl (a b : Nat) (w : World) : Gr2 a b w w := ⟨rfl, rfl, rfl, Nat.le_refl _, fun _ _ _ _ => rfl⟩
theorem Gr2.trans {w w1 w2 : World} (h : Gr2 a b w w1) (h2 : Gr2 a b w1 w2) : Gr2 a b w w2 :=
  ⟨h2.os.trans h.os, h2.tape.trans h.tape, h2.output.trans h.output, Nat.le_trans h.size h2.size, fun k hk ha hb => (h2.block k (Nat.lt_of_lt_of_le hk h.size) ha hb).trans (h.block k hk ha hb)⟩
theorem Gr2.drew {w w1 : World} (h : Gr2 a b w w1) : Gr2 a b w w1.drew := ⟨h.os, h.tape, h.output, h.size, h.block⟩
theorem Gr2.below {w w1 w2 : World} (h : Gr2 a b w w1) (h2 : Below w1.heap.size w1 w2) : Gr2 a b w w2 :=
  ⟨h2.os.trans h.os, h2.tape.trans h.tape, h2.output.trans h.output, Nat.le_trans h.size h2.size, fun k hk ha hb => (h2.block k (Nat.lt_of_lt_of_le hk h.size)).trans (h.block k hk ha hb)⟩
theorem gr2_a (w : World) (a b k : Nat) (v : Value) : Gr2 a b w (w.setCell ⟨a, k, none⟩ v) := ⟨rfl, rfl, rfl, by simp, fun j _ ha _ => heap_setCell_other w ⟨a, k, none⟩ j v ha⟩
theorem gr2_b (w : World) (a b k : Nat) (v : Value) : Gr2 a b w (w.setCell ⟨b, k, none⟩ v) := ⟨rfl, rfl, rfl, by simp, fun j _ _ hb => heap_setCell_other w ⟨b, k, none⟩ j v hb⟩
theorem below_gr2 {B : Nat} {w w1 w2 : World} (h : Below B w w1) (h2 : Gr2 a b w1 w2) (hB : B ≤ w1.heap.size) (ha : B ≤ a) (hb : B ≤ b) : Below B w w2 :=
  ⟨h2.os.trans h.os, h2.tape.trans h.tape, h2.output.trans h.output, Nat.le_trans h.size h2.size, fun k hk => (h2.block k (by omega) (by omega) (by omega)).trans (h.block k hk)⟩
theorem Row.gr2 {B n : Nat} {A : Option Addr} {xs : List Value} {w w' : World} (h : Row w B A n xs) (hA : 0 < n → ∀ q o, A = some ⟨q, o, none⟩ → q ≠ a ∧ q ≠ b) (hg : Gr2 a b w w') (hB : B ≤ w.heap.size) : Row w' B A n xs :=
  ⟨h.1, fun hn => by
    obtain ⟨q, o, e, hq, hc⟩ := h.2 hn
    refine ⟨q, o, e, hq, fun j u hu => ?_⟩
    have hne := hA hn q o e
    rw [World.cell?_of_block (w := w) (w' := w') (a := ⟨q, o + j, none⟩) (hg.block q (by omega) hne.1 hne.2)]
    exact hc j u hu⟩
theorem RHead.lt (h : RHead W gm gB f fu fz) : gm < W.heap.size := by obtain ⟨cs, hg, _⟩ := h; exact (Array.getElem?_eq_some_iff.1 hg).1
theorem RBody.lt (h : RBody W gB f) : gB < W.heap.size := by obtain ⟨cs, hg, _⟩ := h; exact (Array.getElem?_eq_some_iff.1 hg).1
theorem RHead.at_ (h : RHead W gm gB f fu fz) {i : Nat} (hi : i < 21) : W.cell? ⟨gm, i, none⟩ = some (rcell gB f fu fz i) := by
  obtain ⟨cs, hg, _, hc⟩ := h
  rw [cell_of_row W gm i cs _ (0, 0) hg]; exact hc i hi
theorem RHead.frozen (h : RHead W gm gB f fu fz) (i : Nat) : W.frozen? ⟨gm, i, none⟩ = false := by
  obtain ⟨cs, hg, _, _⟩ := h
  exact frozen_of_row W gm i cs _ hg
theorem RBody.at_ (h : RBody W gB f) {i : Nat} (hi : i < 3584) : W.cell? ⟨gB, i, none⟩ = some (.int .u8 ((f.bs i).toNat : Int)) := by
  obtain ⟨cs, hg, _, hc⟩ := h
  rw [cell_of_row W gB i cs _ (0, 0) hg]; exact hc i hi
theorem RBody.frozen (h : RBody W gB f) (i : Nat) : W.frozen? ⟨gB, i, none⟩ = false := by
  obtain ⟨cs, hg, _, _⟩ := h
  exact frozen_of_row W gB i cs _ hg
theorem RHead.set (h : RHead W gm gB f fu fz) {k : Nat} {v : Value} {fu' : Bool} {fz' : Int} (hf : ∀ i, i < 21 → rcell gB f' fu' fz' i = if i = k then v else rcell gB f fu fz i) : RHead (W.setCell ⟨gm, k, none⟩ v) gm gB f' fu' fz' := by
  obtain ⟨cs, hg, hs, hc⟩ := h
  refine ⟨cs.setIfInBounds k v, heap_setCell_same W gm k cs _ v hg, by simpa using hs, fun i hi => ?_⟩
  rw [hf i hi, Array.getElem?_setIfInBounds]
  by_cases e : k = i
  · subst e; rw [if_pos rfl, if_pos (by omega), if_pos rfl]
  · rw [if_neg e, if_neg (fun e' => e e'.symm)]; exact hc i hi
theorem RBody.set (h : RBody W gB f) {k : Nat} (hk : k < 3584) (hb : ∀ i, i ≠ k → f'.bs i = f.bs i) : RBody (W.setCell ⟨gB, k, none⟩ (.int .u8 ((f'.bs k).toNat : Int))) gB f' := by
  obtain ⟨cs, hg, hs, hc⟩ := h
  refine ⟨cs.setIfInBounds k _, heap_setCell_same W gB k cs _ _ hg, by simpa using hs, fun i hi => ?_⟩
  rw [Array.getElem?_setIfInBounds]
  by_cases e : k = i
  · subst e; rw [if_pos rfl, if_pos (by omega)]
  · rw [if_neg e, hb i (fun e' => e e'.symm)]; exact hc i hi
theorem RBody.bits (h : RBody W gB f) (hb : f'.bs = f.bs) : RBody W gB f' := by
  obtain ⟨cs, hg, hs, hc⟩ := h
  exact ⟨cs, hg, hs, fun i hi => by rw [hb]; exact hc i hi⟩
theorem RBody.keep (h : RBody W gB f) (e : W'.heap[gB]? = W.heap[gB]?) : RBody W' gB f := by obtain ⟨cs, hg, r⟩ := h; exact ⟨cs, e.trans hg, r⟩
theorem RHead.keep (h : RHead W gm gB f fu fz) (e : W'.heap[gm]? = W.heap[gm]?) : RHead W' gm gB f fu fz := by obtain ⟨cs, hg, r⟩ := h; exact ⟨cs, e.trans hg, r⟩
theorem RfAt.below (h : RfAt W gm gB f) (hb : Below W.heap.size W W') : RfAt W' gm gB f := by
  obtain ⟨h1, h2, fu, fz, h3, h4⟩ := h
  exact ⟨h1, h2.keep (hb.block gB h2.lt), fu, fz, h3, h4.keep (hb.block gm h4.lt)⟩
theorem RfAt.grown (h : RfAt W gm gB f) {g : Nat} (hg : W.grownBy W' (some g)) (h1 : gm ≠ g) (h2 : gB ≠ g) : RfAt W' gm gB f := by
  obtain ⟨q1, q2, fu, fz, q3, q4⟩ := h
  exact ⟨q1, q2.keep (hg.block gB q2.lt (by simpa using h2)), fu, fz, q3, q4.keep (hg.block gm q4.lt (by simpa using h1))⟩
theorem FlAt.gr2 {g : Nat} (h : FlAt W g f) (hg : Gr2 a b W W') (h1 : g ≠ a) (h2 : g ≠ b) : FlAt W' g f := h.keep (hg.block g h.lt h1 h2)
theorem RBody.row (h : RBody W gB f) {a n : Nat} (hn : a + n ≤ 3584) : Row W W.heap.size (some ⟨gB, a, none⟩) n (bv (f.sub a n)) := by
  refine ⟨by simp [bv, Fl.sub], fun _ => ⟨gB, a, rfl, h.lt, fun j u hu => ?_⟩⟩
  have hj : j < n := by have := (List.getElem?_eq_some_iff.1 hu).1; simpa [bv, Fl.sub] using this
  rw [h.at_ (by omega), ← hu]
  simp [bv, Fl.sub, hj]
end
/-- the head's cells but one -/
theorem rcell_tail {gB : Nat} {f f' : Fl} {fu fu' : Bool} {fz fz' : Int} (k : Nat) (v : Value) (hk : 16 ≤ k) (h1 : f'.wear = f.wear) (h2 : f'.er = f.er) (h : ∀ i, i = 16 ∨ i = 17 ∨ i = 18 ∨ i = 19 ∨ i = 20 → rcell gB f' fu' fz' i = if i = k then v else rcell gB f fu fz i) :
    ∀ i, i < 21 → rcell gB f' fu' fz' i = if i = k then v else rcell gB f fu fz i := by
  intro i hi
  by_cases h3 : i < 16
  · rw [if_neg (by omega)]
    unfold rcell
    by_cases h4 : i = 0
    · rw [if_pos h4, if_pos h4]
    · rw [if_neg h4, if_neg h4]
      by_cases h5 : i = 1
      · rw [if_pos h5, if_pos h5, h1]
      · rw [if_neg h5, if_neg h5, if_pos h3, if_pos h3, h2]
  · exact h i (by omega)
def RDone (gm gB : Nat) (f : Fl) (w w' : World) : Prop := RfAt w' gm gB f ∧ Gr2 gm gB w w'
theorem RDone.trans {gm gB : Nat} {f1 f2 : Fl} {w w1 w2 : World} (h : RDone gm gB f1 w w1) (h2 : RDone gm gB f2 w1 w2) : RDone gm gB f2 w w2 := ⟨h2.1, h.2.trans h2.2⟩
theorem RDone.drew {gm gB : Nat} {f : Fl} {w w1 : World} (h : RDone gm gB f w w1) : RDone gm gB f w w1.drew := ⟨h.1, h.2.drew⟩
set_option maxRecDepth 100000 in
set_option maxHeartbeats 1600000 in
theorem rstep_any (gm gB : Nat) (f : Fl) (w : World) (hf : RfAt w gm gB f) (hd : f.down = false) (h0 : 0 ≤ f.steps) (h1 : f.steps < 9223372036854775807) :
    Calls Try.prog 55 #[.pointer (some ⟨gm, 0, none⟩)] w fun e w' => e = .returned (.bool f.stepB) ∧ Hid (RDone gm gB f.stepF w w') := by
  obtain ⟨hne, hB, fu, fz, hfu, hH⟩ := hf
  have c17 : w.cell? ⟨gm, 17, none⟩ = some (.int .i64 f.steps) := hH.at_ (i := 17) (by omega)
  have z17 := hH.frozen 17
  obtain ⟨w1, hw1⟩ : ∃ w1, w.setCell ⟨gm, 17, none⟩ (.int .i64 (f.steps + 1)) = w1 := ⟨_, rfl⟩
  have hH1 : RHead w1 gm gB f.tick fu fz := by
    rw [← hw1]
    refine hH.set (rcell_tail 17 _ (by omega) rfl rfl ?_)
    intro i hi
    rcases hi with rfl | rfl | rfl | rfl | rfl <;> rfl
  have hg1 : Gr2 gm gB w w1 := by rw [← hw1]; exact gr2_a w gm gB 17 _
  have hB1 : RBody w1 gB f.tick := (hB.keep (by rw [← hw1]; exact heap_setCell_other w ⟨gm, 17, none⟩ gB _ (fun e => hne e.symm))).bits rfl
  have c18 : w1.cell? ⟨gm, 18, none⟩ = some (.bool fu) := hH1.at_ (i := 18) (by omega)
  have c19 : w1.cell? ⟨gm, 19, none⟩ = some (.int .i64 fz) := hH1.at_ (i := 19) (by omega)
  have z19 := hH1.frozen 19
  have HW1 := Lib.hid hw1
  have HG1 := Lib.hid hg1
  have HH1 := Lib.hid hH1
  have HB1 := Lib.hid hB1
  have HNE := Lib.hid hne
  have b1 := hfu.lo
  have b2 := hfu.hi
  cases ht : f.there with
  | false =>
    have e1 : f.stepB = true := by unfold Fl.stepB; rw [ht]; rfl
    have e2 : f.stepF = f.tick := by unfold Fl.stepF; rw [if_neg (by rw [ht]; decide)]
    have hfu0 : fu = false := by
      rcases hfu.no ht with h | ⟨_, _, h⟩
      · exact h
      · rw [hd] at h; cases h
    have HF : Hid (FuseOk f.tick fu fz) := ⟨fun h => (by rw [show f.tick.there = f.there from rfl, ht] at h; cases h), fun _ => .inl hfu0, b1, b2⟩
    subst hfu0
    rw [e1, e2]
    generalize f.steps = S at *
    clear hH hB hg1 hH1 hB1 hne hfu e1 e2 ht hd hw1 c19 z19
    go_enter Try.func55, Try.ntmps55
    go_upto_region 2 with fail
    rw [HW1.out]
    clear c17 z17 HW1
    go_wp2_with fail
    go_ret
    exact ⟨rfl, ⟨HNE.out, HB1.out, false, fz, HF.out, HH1.out⟩, HG1.out⟩
  | true =>
    obtain ⟨rfl, q2, q3⟩ := hfu.yes ht
    have hw19 : IntKind.i64.wrap (fz - 1) = fz - 1 := IntWalk.i64_in _ ⟨by omega, by omega⟩
    obtain ⟨w2, hw2⟩ : ∃ w2, w1.setCell ⟨gm, 19, none⟩ (.int .i64 (fz - 1)) = w2 := ⟨_, rfl⟩
    have hH2 : RHead w2 gm gB f.tick true (fz - 1) := by
      rw [← hw2]
      refine hH1.set (rcell_tail 19 _ (by omega) rfl rfl ?_)
      intro i hi
      rcases hi with rfl | rfl | rfl | rfl | rfl <;> rfl
    have hg2 : Gr2 gm gB w w2 := by rw [← hw2]; exact hg1.trans (gr2_a w1 gm gB 19 _)
    have hB2 : RBody w2 gB f.tick := hB1.keep (by rw [← hw2]; exact heap_setCell_other w1 ⟨gm, 19, none⟩ gB _ (fun e => hne e.symm))
    have d19 : w2.cell? ⟨gm, 19, none⟩ = some (.int .i64 (fz - 1)) := hH2.at_ (i := 19) (by omega)
    have d16 : w2.cell? ⟨gm, 16, none⟩ = some (.bool f.tick.down) := hH2.at_ (i := 16) (by omega)
    have z16 := hH2.frozen 16
    have HW2 := Lib.hid hw2
    have HG2 := Lib.hid hg2
    have HH2 := Lib.hid hH2
    have HB2 := Lib.hid hB2
    have b3 : -9223372036854775808 ≤ fz - 1 := by omega
    by_cases hp : 0 < f.left
    · have e1 : f.stepB = true := by unfold Fl.stepB; rw [ht]; simpa using hp
      have e2 : f.stepF = { f.tick with left := f.left - 1 } := by unfold Fl.stepF; rw [if_pos ht, if_pos hp]
      have HF : Hid (FuseOk { f.tick with left := f.left - 1 } true (fz - 1)) := ⟨fun _ => ⟨rfl, by rw [q2], by omega⟩, fun h => (by rw [show ({ f.tick with left := f.left - 1 } : Fl).there = f.there from rfl, ht] at h; cases h), by omega, by omega⟩
      have HH3 : Hid (RHead w2 gm gB { f.tick with left := f.left - 1 } true (fz - 1)) := HH2.out
      have HB3 : Hid (RBody w2 gB { f.tick with left := f.left - 1 }) := HB2.out.bits rfl
      have hnn : ¬ (fz - 1 < 0) := by omega
      rw [e1, e2]
      generalize ({ f.tick with left := f.left - 1 } : Fl) = f9 at *
      generalize f.steps = S at *
      clear hH hB hg1 hH1 hB1 hne hfu e1 e2 ht hd hw1 hw2 hH2 hg2 hB2 hp HH1 HB1 HG1 HH2 HB2 d16 z16 q2
      go_enter Try.func55, Try.ntmps55
      go_upto_region 2 with fail
      rw [HW1.out]
      clear c17 z17 HW1
      go_upto_region 5 with fail
      rw [HW2.out]
      clear c18 c19 z19 HW2
      go_wp2_with fail
      go_ret
      exact ⟨rfl, ⟨HNE.out, HB3.out, true, fz - 1, HF.out, HH3.out⟩, HG2.out⟩
    · have e1 : f.stepB = false := by unfold Fl.stepB; rw [ht]; simpa using hp
      have e2 : f.stepF = { f.tick with there := false, down := true } := by unfold Fl.stepF; rw [if_pos ht, if_neg hp]
      have HF : Hid (FuseOk { f.tick with there := false, down := true } true (fz - 1)) := ⟨fun h => (by cases h), fun _ => .inr ⟨rfl, by omega, rfl⟩, by omega, by omega⟩
      have HH3 : Hid (RHead (w2.setCell ⟨gm, 16, none⟩ (.bool true)) gm gB { f.tick with there := false, down := true } true (fz - 1)) := by
        refine HH2.out.set (rcell_tail 16 _ (by omega) rfl rfl ?_)
        intro i hi
        rcases hi with rfl | rfl | rfl | rfl | rfl <;> rfl
      have HB3 : Hid (RBody (w2.setCell ⟨gm, 16, none⟩ (.bool true)) gB { f.tick with there := false, down := true }) := (HB2.out.keep (heap_setCell_other w2 ⟨gm, 16, none⟩ gB _ (fun e => hne e.symm))).bits rfl
      have HG3 : Hid (Gr2 gm gB w (w2.setCell ⟨gm, 16, none⟩ (.bool true))) := HG2.out.trans (gr2_a w2 gm gB 16 _)
      have hnn : fz - 1 < 0 := by omega
      rw [e1, e2]
      generalize ({ f.tick with there := false, down := true } : Fl) = f9 at *
      generalize f.steps = S at *
      clear hH hB hg1 hH1 hB1 hne hfu e1 e2 ht hd hw1 hw2 hH2 hg2 hB2 hp HH1 HB1 HG1 HH2 HB2 q2
      go_enter Try.func55, Try.ntmps55
      go_upto_region 2 with fail
      rw [HW1.out]
      clear c17 z17 HW1
      go_upto_region 5 with fail
      rw [HW2.out]
      clear c18 c19 z19 HW2
      go_wp2_with fail
      go_ret
      exact ⟨rfl, ⟨HNE.out, HB3.out, true, fz - 1, HF.out, HH3.out⟩, HG3.out⟩
end Go.Proofs.Ytmlmpjokmbgmcaa
