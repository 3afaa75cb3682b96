/- The reference's Flash, as the same data: how it lies in memory; step, Program, Erase, Fuse, Cut, Start: by contracts. The reference's Flash: there, Program, Erase, Fuse, Cut, Start: by contracts. The reference's Flash: Fuse, Start, Erase, New: by contracts. Flash, ours and the reference's: New of whatever wear. The reference's Flash: Read, Blank: by contracts. -/
import Derived.Test.YtekaoodagaplmaaFlFree
import Derived.Test.YtekaoodagaplmaaR1Join
namespace Go.Proofs.Ytekaoodagaplmaa
open Go.RowKit
def rcell (gB : Nat) (f : Fl) (fu : Bool) (fz : Int) (i : Nat) : Value :=
  if i = 0 then .slice (some ⟨gB, 0, none⟩) 3584 3584
  else if i = 1 then .int .i64 f.wear
  else if i < 16 then .int .i64 (f.er (i - 2))
  else if i = 16 then .bool f.down
  else if i = 17 then .int .i64 f.steps
  else if i = 18 then .bool fu
  else if i = 19 then .int .i64 fz
  else .int .i64 f.torn
structure FuseOk (f : Fl) (fu : Bool) (fz : Int) : Prop where
  yes : f.there = true → fu = true ∧ fz = f.left ∧ 0 ≤ fz
  no : f.there = false → fu = false ∨ (fu = true ∧ fz < 0 ∧ f.down = true)
  lo : -9223372036854775808 ≤ fz
  hi : fz ≤ 9223372036854775807
def RHead (W : World) (gm gB : Nat) (f : Fl) (fu : Bool) (fz : Int) : Prop :=
  ∃ cs : Array Value, W.heap[gm]? = some (.cells cs 52 (0, 0)) ∧ cs.size = 21 ∧ ∀ i, i < 21 → cs[i]? = some (rcell gB f fu fz i)
def RBody (W : World) (gB : Nat) (f : Fl) : Prop :=
  ∃ cs : Array Value, W.heap[gB]? = some (.cells cs 5 (0, 0)) ∧ cs.size = 3584 ∧ ∀ i, i < 3584 → cs[i]? = some (.int .u8 ((f.bs i).toNat : Int))
/-- the reference's flash lies in blocks gm and gB -/
def RfAt (W : World) (gm gB : Nat) (f : Fl) : Prop := gm ≠ gB ∧ RBody W gB f ∧ ∃ fu fz, FuseOk f fu fz ∧ RHead W gm gB f fu fz
/-- grown, nothing old written but blocks a and b -/
structure Gr2 (a b : Nat) (w w' : World) : Prop where
  os : w'.os = w.os
  tape : w'.tape = w.tape
  output : w'.output = w.output
  size : w.heap.size ≤ w'.heap.size
  block : ∀ k, k < w.heap.size → k ≠ a → k ≠ b → w'.heap[k]? = w.heap[k]?
section
variable {W W' : World} {gm gB a b : Nat} {f f' : Fl} {fu : Bool} {fz : Int}
theorem Gr2.refl (a b : Nat) (w : World) : Gr2 a b w w := ⟨rfl, rfl, rfl, Nat.le_refl _, fun _ _ _ _ => rfl⟩
theorem Gr2.trans {w w1 w2 : World} (h : Gr2 a b w w1) (h2 : Gr2 a b w1 w2) : Gr2 a b w w2 :=
  ⟨h2.os.trans h.os, h2.tape.trans h.tape, h2.output.trans h.output, Nat.le_trans h.size h2.size, fun k hk ha hb => (h2.block k (Nat.lt_of_lt_of_le hk h.size) ha hb).trans (h.block k hk ha hb)⟩
theorem Gr2.drew {w w1 : World} (h : Gr2 a b w w1) : Gr2 a b w w1.drew := ⟨h.os, h.tape, h.output, h.size, h.block⟩
theorem Gr2.below {w w1 w2 : World} (h : Gr2 a b w w1) (h2 : Below w1.heap.size w1 w2) : Gr2 a b w w2 :=
  ⟨h2.os.trans h.os, h2.tape.trans h.tape, h2.output.trans h.output, Nat.le_trans h.size h2.size, fun k hk ha hb => (h2.block k (Nat.lt_of_lt_of_le hk h.size)).trans (h.block k hk ha hb)⟩
theorem gr2_a (w : World) (a b k : Nat) (v : Value) : Gr2 a b w (w.setCell ⟨a, k, none⟩ v) := ⟨rfl, rfl, rfl, by simp, fun j _ ha _ => heap_setCell_other w ⟨a, k, none⟩ j v ha⟩
theorem gr2_b (w : World) (a b k : Nat) (v : Value) : Gr2 a b w (w.setCell ⟨b, k, none⟩ v) := ⟨rfl, rfl, rfl, by simp, fun j _ _ hb => heap_setCell_other w ⟨b, k, none⟩ j v hb⟩
theorem below_gr2 {B : Nat} {w w1 w2 : World} (h : Below B w w1) (h2 : Gr2 a b w1 w2) (hB : B ≤ w1.heap.size) (ha : B ≤ a) (hb : B ≤ b) : Below B w w2 :=
  ⟨h2.os.trans h.os, h2.tape.trans h.tape, h2.output.trans h.output, Nat.le_trans h.size h2.size, fun k hk => (h2.block k (by omega) (by omega) (by omega)).trans (h.block k hk)⟩
theorem Row.gr2 {B n : Nat} {A : Option Addr} {xs : List Value} {w w' : World} (h : Row w B A n xs) (hA : 0 < n → ∀ q o, A = some ⟨q, o, none⟩ → q ≠ a ∧ q ≠ b) (hg : Gr2 a b w w') (hB : B ≤ w.heap.size) : Row w' B A n xs :=
  ⟨h.1, fun hn => by
    obtain ⟨q, o, e, hq, hc⟩ := h.2 hn
    refine ⟨q, o, e, hq, fun j u hu => ?_⟩
    have hne := hA hn q o e
    rw [World.cell?_of_block (w := w) (w' := w') (a := ⟨q, o + j, none⟩) (hg.block q (by omega) hne.1 hne.2)]
    exact hc j u hu⟩
theorem RHead.lt (h : RHead W gm gB f fu fz) : gm < W.heap.size := by obtain ⟨cs, hg, _⟩ := h; exact (Array.getElem?_eq_some_iff.1 hg).1
theorem RBody.lt (h : RBody W gB f) : gB < W.heap.size := by obtain ⟨cs, hg, _⟩ := h; exact (Array.getElem?_eq_some_iff.1 hg).1
theorem RHead.at_ (h : RHead W gm gB f fu fz) {i : Nat} (hi : i < 21) : W.cell? ⟨gm, i, none⟩ = some (rcell gB f fu fz i) := by
  obtain ⟨cs, hg, _, hc⟩ := h
  rw [cell_of_row W gm i cs _ (0, 0) hg]; exact hc i hi
theorem RHead.frozen (h : RHead W gm gB f fu fz) (i : Nat) : W.frozen? ⟨gm, i, none⟩ = false := by
  obtain ⟨cs, hg, _, _⟩ := h
  exact frozen_of_row W gm i cs _ hg
theorem RBody.at_ (h : RBody W gB f) {i : Nat} (hi : i < 3584) : W.cell? ⟨gB, i, none⟩ = some (.int .u8 ((f.bs i).toNat : Int)) := by
  obtain ⟨cs, hg, _, hc⟩ := h
  rw [cell_of_row W gB i cs _ (0, 0) hg]; exact hc i hi
theorem RBody.frozen (h : RBody W gB f) (i : Nat) : W.frozen? ⟨gB, i, none⟩ = false := by
  obtain ⟨cs, hg, _, _⟩ := h
  exact frozen_of_row W gB i cs _ hg
theorem RHead.set (h : RHead W gm gB f fu fz) {k : Nat} {v : Value} {fu' : Bool} {fz' : Int} (hf : ∀ i, i < 21 → rcell gB f' fu' fz' i = if i = k then v else rcell gB f fu fz i) : RHead (W.setCell ⟨gm, k, none⟩ v) gm gB f' fu' fz' := by
  obtain ⟨cs, hg, hs, hc⟩ := h
  refine ⟨cs.setIfInBounds k v, heap_setCell_same W gm k cs _ v hg, by simpa using hs, fun i hi => ?_⟩
  rw [hf i hi, Array.getElem?_setIfInBounds]
  by_cases e : k = i
  · subst e; rw [if_pos rfl, if_pos (by omega), if_pos rfl]
  · rw [if_neg e, if_neg (fun e' => e e'.symm)]; exact hc i hi
theorem RBody.set (h : RBody W gB f) {k : Nat} (hk : k < 3584) (hb : ∀ i, i ≠ k → f'.bs i = f.bs i) : RBody (W.setCell ⟨gB, k, none⟩ (.int .u8 ((f'.bs k).toNat : Int))) gB f' := by
  obtain ⟨cs, hg, hs, hc⟩ := h
  refine ⟨cs.setIfInBounds k _, heap_setCell_same W gB k cs _ _ hg, by simpa using hs, fun i hi => ?_⟩
  rw [Array.getElem?_setIfInBounds]
  by_cases e : k = i
  · subst e; rw [if_pos rfl, if_pos (by omega)]
  · rw [if_neg e, hb i (fun e' => e e'.symm)]; exact hc i hi
theorem RBody.bits (h : RBody W gB f) (hb : f'.bs = f.bs) : RBody W gB f' := by
  obtain ⟨cs, hg, hs, hc⟩ := h
  exact ⟨cs, hg, hs, fun i hi => by rw [hb]; exact hc i hi⟩
theorem RBody.keep (h : RBody W gB f) (e : W'.heap[gB]? = W.heap[gB]?) : RBody W' gB f := by obtain ⟨cs, hg, r⟩ := h; exact ⟨cs, e.trans hg, r⟩
theorem RHead.keep (h : RHead W gm gB f fu fz) (e : W'.heap[gm]? = W.heap[gm]?) : RHead W' gm gB f fu fz := by obtain ⟨cs, hg, r⟩ := h; exact ⟨cs, e.trans hg, r⟩
theorem RfAt.below (h : RfAt W gm gB f) (hb : Below W.heap.size W W') : RfAt W' gm gB f := by
  obtain ⟨h1, h2, fu, fz, h3, h4⟩ := h
  exact ⟨h1, h2.keep (hb.block gB h2.lt), fu, fz, h3, h4.keep (hb.block gm h4.lt)⟩
theorem RfAt.grown (h : RfAt W gm gB f) {g : Nat} (hg : W.grownBy W' (some g)) (h1 : gm ≠ g) (h2 : gB ≠ g) : RfAt W' gm gB f := by
  obtain ⟨q1, q2, fu, fz, q3, q4⟩ := h
  exact ⟨q1, q2.keep (hg.block gB q2.lt (by simpa using h2)), fu, fz, q3, q4.keep (hg.block gm q4.lt (by simpa using h1))⟩
theorem FlAt.gr2 {g : Nat} (h : FlAt W g f) (hg : Gr2 a b W W') (h1 : g ≠ a) (h2 : g ≠ b) : FlAt W' g f := h.keep (hg.block g h.lt h1 h2)
theorem RBody.row (h : RBody W gB f) {a n : Nat} (hn : a + n ≤ 3584) : Row W W.heap.size (some ⟨gB, a, none⟩) n (bv (f.sub a n)) := by
  refine ⟨by simp [bv, Fl.sub], fun _ => ⟨gB, a, rfl, h.lt, fun j u hu => ?_⟩⟩
  have hj : j < n := by have := (List.getElem?_eq_some_iff.1 hu).1; simpa [bv, Fl.sub] using this
  rw [h.at_ (by omega), ← hu]
  simp [bv, Fl.sub, hj]
end
/-- the head's cells but one -/
theorem rcell_tail {gB : Nat} {f f' : Fl} {fu fu' : Bool} {fz fz' : Int} (k : Nat) (v : Value) (hk : 16 ≤ k) (h1 : f'.wear = f.wear) (h2 : f'.er = f.er) (h : ∀ i, i = 16 ∨ i = 17 ∨ i = 18 ∨ i = 19 ∨ i = 20 → rcell gB f' fu' fz' i = if i = k then v else rcell gB f fu fz i) :
    ∀ i, i < 21 → rcell gB f' fu' fz' i = if i = k then v else rcell gB f fu fz i := by
  intro i hi
  by_cases h3 : i < 16
  · rw [if_neg (by omega)]
    unfold rcell
    by_cases h4 : i = 0
    · rw [if_pos h4, if_pos h4]
    · rw [if_neg h4, if_neg h4]
      by_cases h5 : i = 1
      · rw [if_pos h5, if_pos h5, h1]
      · rw [if_neg h5, if_neg h5, if_pos h3, if_pos h3, h2]
  · exact h i (by omega)
def RDone (gm gB : Nat) (f : Fl) (w w' : World) : Prop := RfAt w' gm gB f ∧ Gr2 gm gB w w'
theorem RDone.trans {gm gB : Nat} {f1 f2 : Fl} {w w1 w2 : World} (h : RDone gm gB f1 w w1) (h2 : RDone gm gB f2 w1 w2) : RDone gm gB f2 w w2 := ⟨h2.1, h.2.trans h2.2⟩
theorem RDone.drew {gm gB : Nat} {f : Fl} {w w1 : World} (h : RDone gm gB f w w1) : RDone gm gB f w w1.drew := ⟨h.1, h.2.drew⟩
set_option maxRecDepth 100000 in
set_option maxHeartbeats 1600000 in
theorem rstep_any (gm gB : Nat) (f : Fl) (w : World) (hf : RfAt w gm gB f) (hd : f.down = false) (h0 : 0 ≤ f.steps) (h1 : f.steps < 9223372036854775807) :
    Calls Try.prog 54 #[.pointer (some ⟨gm, 0, none⟩)] w fun e w' => e = .returned (.bool f.stepB) ∧ Hid (RDone gm gB f.stepF w w') := by
  obtain ⟨hne, hB, fu, fz, hfu, hH⟩ := hf
  have c17 : w.cell? ⟨gm, 17, none⟩ = some (.int .i64 f.steps) := hH.at_ (i := 17) (by omega)
  have z17 := hH.frozen 17
  obtain ⟨w1, hw1⟩ : ∃ w1, w.setCell ⟨gm, 17, none⟩ (.int .i64 (f.steps + 1)) = w1 := ⟨_, rfl⟩
  have hH1 : RHead w1 gm gB f.tick fu fz := by
    rw [← hw1]
    refine hH.set (rcell_tail 17 _ (by omega) rfl rfl ?_)
    intro i hi
    rcases hi with rfl | rfl | rfl | rfl | rfl <;> rfl
  have hg1 : Gr2 gm gB w w1 := by rw [← hw1]; exact gr2_a w gm gB 17 _
  have hB1 : RBody w1 gB f.tick := (hB.keep (by rw [← hw1]; exact heap_setCell_other w ⟨gm, 17, none⟩ gB _ (fun e => hne e.symm))).bits rfl
  have c18 : w1.cell? ⟨gm, 18, none⟩ = some (.bool fu) := hH1.at_ (i := 18) (by omega)
  have c19 : w1.cell? ⟨gm, 19, none⟩ = some (.int .i64 fz) := hH1.at_ (i := 19) (by omega)
  have z19 := hH1.frozen 19
  have HW1 := Lib.hid hw1
  have HG1 := Lib.hid hg1
  have HH1 := Lib.hid hH1
  have HB1 := Lib.hid hB1
  have HNE := Lib.hid hne
  have b1 := hfu.lo
  have b2 := hfu.hi
  cases ht : f.there with
  | false =>
    have e1 : f.stepB = true := by unfold Fl.stepB; rw [ht]; rfl
    have e2 : f.stepF = f.tick := by unfold Fl.stepF; rw [if_neg (by rw [ht]; decide)]
    have hfu0 : fu = false := by
      rcases hfu.no ht with h | ⟨_, _, h⟩
      · exact h
      · rw [hd] at h; cases h
    have HF : Hid (FuseOk f.tick fu fz) := ⟨fun h => (by rw [show f.tick.there = f.there from rfl, ht] at h; cases h), fun _ => .inl hfu0, b1, b2⟩
    subst hfu0
    rw [e1, e2]
    generalize f.steps = S at *
    clear hH hB hg1 hH1 hB1 hne hfu e1 e2 ht hd hw1 c19 z19
    go_enter Try.func54, Try.ntmps54
    go_upto_region 2 with fail
    rw [HW1.out]
    clear c17 z17 HW1
    go_wp2_with fail
    go_ret
    exact ⟨rfl, ⟨HNE.out, HB1.out, false, fz, HF.out, HH1.out⟩, HG1.out⟩
  | true =>
    obtain ⟨rfl, q2, q3⟩ := hfu.yes ht
    have hw19 : IntKind.i64.wrap (fz - 1) = fz - 1 := IntWalk.i64_in _ ⟨by omega, by omega⟩
    obtain ⟨w2, hw2⟩ : ∃ w2, w1.setCell ⟨gm, 19, none⟩ (.int .i64 (fz - 1)) = w2 := ⟨_, rfl⟩
    have hH2 : RHead w2 gm gB f.tick true (fz - 1) := by
      rw [← hw2]
      refine hH1.set (rcell_tail 19 _ (by omega) rfl rfl ?_)
      intro i hi
      rcases hi with rfl | rfl | rfl | rfl | rfl <;> rfl
    have hg2 : Gr2 gm gB w w2 := by rw [← hw2]; exact hg1.trans (gr2_a w1 gm gB 19 _)
    have hB2 : RBody w2 gB f.tick := hB1.keep (by rw [← hw2]; exact heap_setCell_other w1 ⟨gm, 19, none⟩ gB _ (fun e => hne e.symm))
    have d19 : w2.cell? ⟨gm, 19, none⟩ = some (.int .i64 (fz - 1)) := hH2.at_ (i := 19) (by omega)
    have d16 : w2.cell? ⟨gm, 16, none⟩ = some (.bool f.tick.down) := hH2.at_ (i := 16) (by omega)
    have z16 := hH2.frozen 16
    have HW2 := Lib.hid hw2
    have HG2 := Lib.hid hg2
    have HH2 := Lib.hid hH2
    have HB2 := Lib.hid hB2
    have b3 : -9223372036854775808 ≤ fz - 1 := by omega
    by_cases hp : 0 < f.left
    · have e1 : f.stepB = true := by unfold Fl.stepB; rw [ht]; simpa using hp
      have e2 : f.stepF = { f.tick with left := f.left - 1 } := by unfold Fl.stepF; rw [if_pos ht, if_pos hp]
      have HF : Hid (FuseOk { f.tick with left := f.left - 1 } true (fz - 1)) := ⟨fun _ => ⟨rfl, by rw [q2], by omega⟩, fun h => (by rw [show ({ f.tick with left := f.left - 1 } : Fl).there = f.there from rfl, ht] at h; cases h), by omega, by omega⟩
      have HH3 : Hid (RHead w2 gm gB { f.tick with left := f.left - 1 } true (fz - 1)) := HH2.out
      have HB3 : Hid (RBody w2 gB { f.tick with left := f.left - 1 }) := HB2.out.bits rfl
      have hnn : ¬ (fz - 1 < 0) := by omega
      rw [e1, e2]
      generalize ({ f.tick with left := f.left - 1 } : Fl) = f9 at *
      generalize f.steps = S at *
      clear hH hB hg1 hH1 hB1 hne hfu e1 e2 ht hd hw1 hw2 hH2 hg2 hB2 hp HH1 HB1 HG1 HH2 HB2 d16 z16 q2
      go_enter Try.func54, Try.ntmps54
      go_upto_region 2 with fail
      rw [HW1.out]
      clear c17 z17 HW1
      go_upto_region 5 with fail
      rw [HW2.out]
      clear c18 c19 z19 HW2
      go_wp2_with fail
      go_ret
      exact ⟨rfl, ⟨HNE.out, HB3.out, true, fz - 1, HF.out, HH3.out⟩, HG2.out⟩
    · have e1 : f.stepB = false := by unfold Fl.stepB; rw [ht]; simpa using hp
      have e2 : f.stepF = { f.tick with there := false, down := true } := by unfold Fl.stepF; rw [if_pos ht, if_neg hp]
      have HF : Hid (FuseOk { f.tick with there := false, down := true } true (fz - 1)) := ⟨fun h => (by cases h), fun _ => .inr ⟨rfl, by omega, rfl⟩, by omega, by omega⟩
      have HH3 : Hid (RHead (w2.setCell ⟨gm, 16, none⟩ (.bool true)) gm gB { f.tick with there := false, down := true } true (fz - 1)) := by
        refine HH2.out.set (rcell_tail 16 _ (by omega) rfl rfl ?_)
        intro i hi
        rcases hi with rfl | rfl | rfl | rfl | rfl <;> rfl
      have HB3 : Hid (RBody (w2.setCell ⟨gm, 16, none⟩ (.bool true)) gB { f.tick with there := false, down := true }) := (HB2.out.keep (heap_setCell_other w2 ⟨gm, 16, none⟩ gB _ (fun e => hne e.symm))).bits rfl
      have HG3 : Hid (Gr2 gm gB w (w2.setCell ⟨gm, 16, none⟩ (.bool true))) := HG2.out.trans (gr2_a w2 gm gB 16 _)
      have hnn : fz - 1 < 0 := by omega
      rw [e1, e2]
      generalize ({ f.tick with there := false, down := true } : Fl) = f9 at *
      generalize f.steps = S at *
      clear hH hB hg1 hH1 hB1 hne hfu e1 e2 ht hd hw1 hw2 hH2 hg2 hB2 hp HH1 HB1 HG1 HH2 HB2 q2
      go_enter Try.func54, Try.ntmps54
      go_upto_region 2 with fail
      rw [HW1.out]
      clear c17 z17 HW1
      go_upto_region 5 with fail
      rw [HW2.out]
      clear c18 c19 z19 HW2
      go_wp2_with fail
      go_ret
      exact ⟨rfl, ⟨HNE.out, HB3.out, true, fz - 1, HF.out, HH3.out⟩, HG3.out⟩
end Go.Proofs.Ytekaoodagaplmaa
namespace Go.Proofs.Ytekaoodagaplmaa
open Go.RowKit
section
variable {gm gB : Nat} {f : Fl} {w : World}
theorem FuseOk.congr {f' : Fl} {fu : Bool} {fz : Int} (h : FuseOk f fu fz) (h1 : f'.there = f.there) (h2 : f'.left = f.left) (h3 : f'.down = f.down) : FuseOk f' fu fz :=
  ⟨fun e => by rw [h1] at e; rw [h2]; exact h.yes e, fun e => by rw [h1] at e; rw [h3]; exact h.no e, h.lo, h.hi⟩
theorem RfAt.put (h : RfAt w gm gB f) (a : Nat) (x : UInt8) (ha : a < 3584) : RDone gm gB (f.put a x) w (w.setCell ⟨gB, a, none⟩ (.int .u8 ((f.bs a &&& x).toNat : Int))) := by
  obtain ⟨h1, h2, fu, fz, h3, h4⟩ := h
  have hb := h2.set (f' := f.put a x) ha (fun i hi => by simp [Fl.put, hi])
  have e : (f.put a x).bs a = f.bs a &&& x := by simp [Fl.put]
  rw [e] at hb
  exact ⟨⟨h1, hb, fu, fz, h3.congr rfl rfl rfl, (h4.keep (heap_setCell_other w ⟨gB, a, none⟩ gm _ h1))⟩, gr2_b w gm gB a _⟩
theorem RfAt.ff (a k : Nat) (ha : a + k < 3584) (f' : Fl) (hf : f' = f.fill a k) (h0 : RfAt w gm gB f') : RDone gm gB (f.fill a (k + 1)) w (w.setCell ⟨gB, a + k, none⟩ (.int .u8 255)) := by
  subst hf
  obtain ⟨h1, h2, fu, fz, h3, h4⟩ := h0
  have hb := h2.set (f' := f.fill a (k + 1)) ha (fun i hi => by
    simp only [Fl.fill]
    by_cases e : a ≤ i ∧ i < a + k
    · rw [if_pos e, if_pos (by omega)]
    · rw [if_neg e, if_neg (by omega)])
  have e : (f.fill a (k + 1)).bs (a + k) = 255 := by simp only [Fl.fill]; rw [if_pos (by omega)]
  rw [e] at hb
  exact ⟨⟨h1, hb, fu, fz, h3.congr rfl rfl rfl, (h4.keep (heap_setCell_other w ⟨gB, a + k, none⟩ gm _ h1))⟩, gr2_b w gm gB (a + k) _⟩
theorem RfAt.slot0 (h : RfAt w gm gB f) : w.cell? ⟨gm, 0, none⟩ = some (.slice (some ⟨gB, 0, none⟩) 3584 3584) := by obtain ⟨_, _, fu, fz, _, h4⟩ := h; exact h4.at_ (i := 0) (by omega)
theorem RfAt.off (h : RfAt w gm gB f) : w.cell? ⟨gm, 16, none⟩ = some (.bool f.down) := by obtain ⟨_, _, fu, fz, _, h4⟩ := h; exact h4.at_ (i := 16) (by omega)
theorem RfAt.cnt (h : RfAt w gm gB f) : w.cell? ⟨gm, 17, none⟩ = some (.int .i64 f.steps) := by obtain ⟨_, _, fu, fz, _, h4⟩ := h; exact h4.at_ (i := 17) (by omega)
theorem RfAt.tornW (h : RfAt w gm gB f) : w.cell? ⟨gm, 20, none⟩ = some (.int .i64 f.torn) := by obtain ⟨_, _, fu, fz, _, h4⟩ := h; exact h4.at_ (i := 20) (by omega)
theorem RfAt.wearC (h : RfAt w gm gB f) : w.cell? ⟨gm, 1, none⟩ = some (.int .i64 f.wear) := by obtain ⟨_, _, fu, fz, _, h4⟩ := h; exact h4.at_ (i := 1) (by omega)
theorem RfAt.erC (h : RfAt w gm gB f) {s : Nat} (hs : s < 14) : w.cell? ⟨gm, 2 + s, none⟩ = some (.int .i64 (f.er s)) := by
  obtain ⟨_, _, fu, fz, _, h4⟩ := h
  rw [h4.at_ (i := 2 + s) (by omega)]
  unfold rcell
  rw [if_neg (by omega), if_neg (by omega), if_pos (by omega), Nat.add_sub_cancel_left]
theorem RfAt.frz (h : RfAt w gm gB f) (i : Nat) : w.frozen? ⟨gm, i, none⟩ = false := by obtain ⟨_, _, fu, fz, _, h4⟩ := h; exact h4.frozen i
theorem RfAt.upEr (h : RfAt w gm gB f) (s : Nat) (hs : s < 14) : RDone gm gB (f.wearUp s) w (w.setCell ⟨gm, 2 + s, none⟩ (.int .i64 (f.er s + 1))) := by
  obtain ⟨h1, h2, fu, fz, h3, h4⟩ := h
  refine ⟨⟨h1, (h2.keep (heap_setCell_other w ⟨gm, 2 + s, none⟩ gB _ (fun e => h1 e.symm))).bits rfl, fu, fz, h3.congr rfl rfl rfl, h4.set fun i hi => ?_⟩, gr2_a w gm gB (2 + s) _⟩
  by_cases e : i = 2 + s
  · subst e
    rw [if_pos rfl]
    unfold rcell
    rw [if_neg (by omega), if_neg (by omega), if_pos (by omega), Nat.add_sub_cancel_left]
    simp [Fl.wearUp]
  · rw [if_neg e]
    unfold rcell
    by_cases e0 : i = 0
    · rw [if_pos e0, if_pos e0]
    · rw [if_neg e0, if_neg e0]
      by_cases e1 : i = 1
      · rw [if_pos e1, if_pos e1]; rfl
      · rw [if_neg e1, if_neg e1]
        by_cases e2 : i < 16
        · rw [if_pos e2, if_pos e2]; simp [Fl.wearUp, show i - 2 ≠ s by omega]
        · rw [if_neg e2, if_neg e2]; rfl
end
theorem rthere_yes (a n : Int) (w : World) (h : 0 ≤ n ∧ n ≤ 3584 ∧ 0 ≤ a ∧ a ≤ 3584 - n) : Calls Try.prog 53 #[.int .i64 a, .int .i64 n] w fun e w' => e = .returned (.bool true) ∧ w = w' := by
  obtain ⟨h1, h2, h3, h4⟩ := h
  have HD : Hid (decide (a ≤ 3584 - n) = true) := decide_eq_true h4
  clear h4
  go_enter Try.func53, Try.ntmps53
  go_wp2_with fail
  go_ret
  exact ⟨by show Ending.returned (.bool (decide (a ≤ 3584 - n))) = _; rw [HD.out], rfl⟩
theorem rthere_no (a n : Int) (w : World) (hn : -9223372036854775808 ≤ n ∧ n ≤ 9223372036854775807) (h : ¬ (0 ≤ n ∧ n ≤ 3584 ∧ 0 ≤ a ∧ a ≤ 3584 - n)) : Calls Try.prog 53 #[.int .i64 a, .int .i64 n] w fun e w' => e = .returned (.bool false) ∧ w = w' := by
  by_cases h1 : 0 ≤ n
  · by_cases h2 : n ≤ 3584
    · by_cases h3 : 0 ≤ a
      · have HD : Hid (decide (a ≤ 3584 - n) = false) := decide_eq_false (fun h4 => h ⟨h1, h2, h3, h4⟩)
        clear h hn
        go_enter Try.func53, Try.ntmps53
        go_wp2_with fail
        go_ret
        exact ⟨by show Ending.returned (.bool (decide (a ≤ 3584 - n))) = _; rw [HD.out], rfl⟩
      · have h3' : a < 0 := by omega
        clear h hn h3
        go_enter Try.func53, Try.ntmps53
        go_wp2_with fail
        go_ret
        exact ⟨rfl, rfl⟩
    · have h2' : 3584 < n := by omega
      clear h hn h2
      go_enter Try.func53, Try.ntmps53
      go_wp2_with fail
      go_ret
      exact ⟨rfl, rfl⟩
  · have h1' : n < 0 := by omega
    clear h hn h1
    go_enter Try.func53, Try.ntmps53
    go_wp2_with fail
    go_ret
    exact ⟨rfl, rfl⟩
theorem step_down (f : Fl) (hs : f.stepB = true) : f.stepF.down = f.down := by
  unfold Fl.stepF
  unfold Fl.stepB at hs
  split
  · rename_i h
    rw [if_pos h] at hs
    rw [if_pos (by simpa using hs)]; rfl
  · rfl
def RProgOk (gm gB : Nat) (r : Fl × Int) (w : World) (e : Ending) (w' : World) : Prop := e = .returned (.int .i64 r.2) ∧ Hid (RDone gm gB r.1 w w')
set_option maxRecDepth 100000 in
set_option maxHeartbeats 3200000 in
theorem rprog_ok (gm gB a B n cap : Nat) (A : Option Addr) (l : List UInt8) (f : Fl) (w : World) (hf : RfAt w gm gB f) (hl : Row w B A n (bv l)) (hA : 0 < n → ∀ b o, A = some ⟨b, o, none⟩ → b ≠ gm ∧ b ≠ gB) (hB : B ≤ w.heap.size) (hd : f.down = false) (ha : a + n ≤ 3584)
    (h0 : 0 ≤ f.steps) (h1 : f.steps ≤ 9223372036854770000) :
    Calls Try.prog 40 #[.pointer (some ⟨gm, 0, none⟩), .int .i64 (a : Int), .slice A n cap] w (RProgOk gm gB (f.prog a l) w) := by
  have HM := Lib.hid (rthere_yes (a : Int) (n : Int) w ⟨by omega, by omega, by omega, by omega⟩)
  have hoff := hf.off
  rw [hd] at hoff
  have HBL := Lib.hid hl.blen
  have HA := Lib.hid hA
  have HF := Lib.hid hf
  have HL := Lib.hid hl
  have HS0 := Lib.hid h0
  have HS1 := Lib.hid h1
  have HD0 := Lib.hid hd
  clear hd hf hl hA h0 h1
  go_enter Try.func40, Try.ntmps40
  go_wp2_with fail
  refine HM.out.mono ?_
  rintro e w' ⟨rfl, rfl⟩
  go_wp2_with fail
  go_loopw [20] (fun i wr => ∃ (k : Nat) (fk : Fl), k ≤ n ∧ i = .int .i64 k ∧ Hid (RDone gm gB fk w wr) ∧ Hid (f.prog a l = fk.prog (a + k) (l.drop k)) ∧ Hid (fk.steps = f.steps + k) ∧ Hid (fk.down = false)) (fun i _ => n - (intOf i).toNat)
  case atStart => exact ⟨0, f, by omega, rfl, ⟨HF.out, Gr2.refl _ _ _⟩, rfl, by show _ = _; omega, HD0⟩
  case round =>
    obtain ⟨k, fk, hk, rfl, hdn, hpr, hst, hdw⟩ := hrel
    by_cases hlt : k < n
    · have hrow := HL.out.gr2 HA.out hdn.out.2 hB
      obtain ⟨b, o, rfl, _, hkl, hcell⟩ := hrow.byteAt hlt
      have HSTEP := Lib.hid (rstep_any gm gB fk wr hdn.out.1 hdw.out (by have := hst.out; have := HS0.out; omega) (by have := hst.out; have := HS1.out; omega))
      have hak : a + k < 3584 := by omega
      have haki : (a : Int) + (k : Int) < 3584 := by omega
      clear hrow
      cases hb : fk.stepB with
      | true =>
        have hnx := Lib.hid (Fl.prog_drop hpr.out hkl hb)
        rw [hb] at HSTEP
        have HST : Hid (fk.stepF.steps = f.steps + ((k + 1 : Nat) : Int)) := by show _ = _; rw [Fl.stepF_steps, hst.out]; omega
        have HDW : Hid (fk.stepF.down = false) := (step_down fk hb).trans hdw.out
        clear hb
        generalize l[k] = x at *
        generalize fk.stepF = f2 at *
        go_wp2_with fail
        refine HSTEP.out.mono ?_
        rintro e w2 ⟨rfl, hd2⟩
        have hc0 := hd2.out.1.slot0
        have hcb := hd2.out.1.2.1.at_ (i := a + k) hak
        have hfz := hd2.out.1.2.1.frozen (a + k)
        have hput := Lib.hid (hd2.out.1.put (a + k) x hak)
        go_wp2_with fail
        have HD : Hid (RDone gm gB (f2.put (a + k) x) w (w2.setCell ⟨gB, a + k, none⟩ (.int .u8 (bits .and .u8 ((f2.bs (a + k)).toNat : Int) (x.toNat : Int))))) := by
          rw [u8_and_nat _ _ (CrcM.b_lt _) (CrcM.b_lt _), ← UInt8.toNat_and]
          exact (hdn.out.trans hd2.out).trans hput.out
        clear hput hd2 hdn hcb hfz hc0
        go_roundw
        case rel => exact ⟨k + 1, _, by omega, by go_num, HD, hnx.out, HST, HDW⟩
        case measure => simp [intOf]; omega
      | false =>
        have hnx := Lib.hid (Fl.prog_torn hpr.out hkl hb)
        rw [hb] at HSTEP
        have HT : Hid (fk.stepF.torn = fk.torn) := Fl.stepF_torn fk
        clear hb
        generalize l[k] = x at *
        generalize fk.torn = tn at *
        generalize fk.stepF = f2 at *
        go_wp2_with fail
        refine HSTEP.out.mono ?_
        rintro e w2 ⟨rfl, hd2⟩
        have hc0 := hd2.out.1.slot0
        have hcb := hd2.out.1.2.1.at_ (i := a + k) hak
        have hct := hd2.out.1.tornW
        rw [HT.out] at hct
        have hfz := hd2.out.1.2.1.frozen (a + k)
        have hput := Lib.hid (hd2.out.1.put (a + k) (x ||| UInt8.ofNat (tn % 256).toNat) hak)
        go_wp2_with fail
        go_region
        have HD : Hid (RDone gm gB (f2.put (a + k) (x ||| UInt8.ofNat (tn % 256).toNat)) w (w2.setCell ⟨gB, a + k, none⟩ (.int .u8 (bits .and .u8 ((f2.bs (a + k)).toNat : Int) (bits .or .u8 (x.toNat : Int) (tn % 256))))).drew) := by
          have e : tn % 256 = ((UInt8.ofNat (tn % 256).toNat).toNat : Int) := by rw [UInt8.toNat_ofNat']; omega
          generalize UInt8.ofNat (tn % 256).toNat = y at *
          rw [e, u8_or_nat _ _ (CrcM.b_lt _) (CrcM.b_lt _), ← UInt8.toNat_or, u8_and_nat _ _ (CrcM.b_lt _) (CrcM.b_lt _), ← UInt8.toNat_and]
          exact ((hdn.out.trans hd2.out).trans hput.out).drew
        clear hput hd2 hdn hcb hfz hc0 hct
        go_wp2_with fail
        go_ret
        refine ⟨?_, ?_⟩
        · rw [hnx.out]; rfl
        · rw [hnx.out]; exact HD
    · obtain rfl : n = k := by omega
      have HPR : Hid (f.prog a l = (fk, 0)) := by
        have h := hpr.out
        rw [List.drop_of_length_le (by have := HBL.out; omega)] at h
        exact h
      clear hpr
      go_wp2_with fail
      go_ret
      refine ⟨?_, ?_⟩
      · rw [HPR.out]; rfl
      · rw [HPR.out]; exact hdn
theorem rprog_bad (gm gB n cap : Nat) (a k : Int) (A : Option Addr) (f : Fl) (w : World) (hf : RfAt w gm gB f) (hn : (n : Int) ≤ 9223372036854775807) (hk : mayE f a n = k) (hk0 : k ≠ 0) :
    Calls Try.prog 40 #[.pointer (some ⟨gm, 0, none⟩), .int .i64 a, .slice A n cap] w fun e w' => e = .returned (.int .i64 k) ∧ w = w' := by
  have hoff := hf.off
  unfold mayE at hk
  cases hd : f.down with
  | true =>
    rw [hd] at hk hoff
    simp only [if_true] at hk
    have HK := Lib.hid hk
    clear hk hd hf
    go_enter Try.func40, Try.ntmps40
    go_wp2_with fail
    go_ret
    exact ⟨by rw [← HK.out]; rfl, rfl⟩
  | false =>
    rw [hd] at hk hoff
    simp only [Bool.false_eq_true, if_false] at hk
    have hbad : (n : Int) < 0 ∨ a < 0 ∨ 3584 - (n : Int) < a := by
      by_cases h : (n : Int) < 0 ∨ a < 0 ∨ 3584 - (n : Int) < a
      · exact h
      · rw [if_neg h] at hk; exact absurd hk.symm hk0
    rw [if_pos hbad] at hk
    have HM := Lib.hid (rthere_no a (n : Int) w ⟨by omega, hn⟩ (by omega))
    have HK := Lib.hid hk
    clear hk hd hf hbad hk0
    go_enter Try.func40, Try.ntmps40
    go_wp2_with fail
    refine HM.out.mono ?_
    rintro e w' ⟨rfl, rfl⟩
    go_wp2_with fail
    go_ret
    exact ⟨by rw [← HK.out]; rfl, rfl⟩
section
variable {gm gB : Nat} {f : Fl} {w : World}
end
end Go.Proofs.Ytekaoodagaplmaa
namespace Go.Proofs.Ytekaoodagaplmaa
open Go.RowKit
section
variable {gm gB : Nat} {f : Fl} {w : World}
set_option maxRecDepth 100000 in
set_option maxHeartbeats 800000 in
theorem rfuse_any (n t : Int) (hf : RfAt w gm gB f) (hn : -9223372036854775808 ≤ n ∧ n ≤ 9223372036854775807) : Calls Try.prog 11 #[.pointer (some ⟨gm, 0, none⟩), .int .i64 n, .int .i64 t] w fun e w' => e = .returned (.tuple #[]) ∧ Hid (RDone gm gB { f with there := decide (0 ≤ n), left := n, torn := t } w w') := by
  obtain ⟨h1, h2, fu, fz, h3, h4⟩ := hf
  have c1 : w.cell? ⟨gm, 18, none⟩ = some (.bool fu) := h4.at_ (i := 18) (by omega)
  have c2 : w.cell? ⟨gm, 19, none⟩ = some (.int .i64 fz) := h4.at_ (i := 19) (by omega)
  have c3 : w.cell? ⟨gm, 20, none⟩ = some (.int .i64 f.torn) := h4.at_ (i := 20) (by omega)
  have z1 := h4.frozen 18
  have z2 := h4.frozen 19
  have z3 := h4.frozen 20
  have k1 : RHead (w.setCell ⟨gm, 18, none⟩ (.bool (decide (0 ≤ n)))) gm gB f (decide (0 ≤ n)) fz := h4.set (rcell_tail 18 _ (by omega) rfl rfl (by intro i hi; rcases hi with rfl | rfl | rfl | rfl | rfl <;> rfl))
  have k2 : RHead ((w.setCell ⟨gm, 18, none⟩ (.bool (decide (0 ≤ n)))).setCell ⟨gm, 19, none⟩ (.int .i64 n)) gm gB f (decide (0 ≤ n)) n := k1.set (rcell_tail 19 _ (by omega) rfl rfl (by intro i hi; rcases hi with rfl | rfl | rfl | rfl | rfl <;> rfl))
  have k3 : RHead (((w.setCell ⟨gm, 18, none⟩ (.bool (decide (0 ≤ n)))).setCell ⟨gm, 19, none⟩ (.int .i64 n)).setCell ⟨gm, 20, none⟩ (.int .i64 t)) gm gB { f with there := decide (0 ≤ n), left := n, torn := t } (decide (0 ≤ n)) n := k2.set (rcell_tail 20 _ (by omega) rfl rfl (by intro i hi; rcases hi with rfl | rfl | rfl | rfl | rfl <;> rfl))
  have hbo : ∀ (W : World) (i : Nat) (v : Value), (W.setCell ⟨gm, i, none⟩ v).heap[gB]? = W.heap[gB]? := fun W i v => heap_setCell_other W ⟨gm, i, none⟩ gB v (fun e => h1 e.symm)
  have HD : Hid (RDone gm gB { f with there := decide (0 ≤ n), left := n, torn := t } w (((w.setCell ⟨gm, 18, none⟩ (.bool (decide (0 ≤ n)))).setCell ⟨gm, 19, none⟩ (.int .i64 n)).setCell ⟨gm, 20, none⟩ (.int .i64 t))) := by
    refine ⟨⟨h1, (h2.keep (((hbo _ _ _).trans (hbo _ _ _)).trans (hbo _ _ _))).bits rfl, _, _, ⟨fun e => ⟨e, rfl, by simpa using e⟩, fun e => .inl e, hn.1, hn.2⟩, k3⟩, ((gr2_a w gm gB 18 _).trans (gr2_a _ gm gB 19 _)).trans (gr2_a _ gm gB 20 _)⟩
  clear h1 h2 h3 h4 k1 k2 k3 hbo
  go_enter Try.func11, Try.ntmps11
  go_wp2_with fail
  go_end0
  exact ⟨rfl, HD⟩
set_option maxRecDepth 100000 in
set_option maxHeartbeats 800000 in
theorem rstart_any (hf : RfAt w gm gB f) : Calls Try.prog 15 #[.pointer (some ⟨gm, 0, none⟩)] w fun e w' => e = .returned (.tuple #[]) ∧ Hid (RDone gm gB { f with down := false } w w') := by
  obtain ⟨h1, h2, fu, fz, h3, h4⟩ := hf
  have c0 : w.cell? ⟨gm, 16, none⟩ = some (.bool f.down) := h4.at_ (i := 16) (by omega)
  have c1 : w.cell? ⟨gm, 18, none⟩ = some (.bool fu) := h4.at_ (i := 18) (by omega)
  have c2 : w.cell? ⟨gm, 19, none⟩ = some (.int .i64 fz) := h4.at_ (i := 19) (by omega)
  have z0 := h4.frozen 16
  have z1 := h4.frozen 18
  have k1 : ∀ b, RHead ((w.setCell ⟨gm, 16, none⟩ (.bool false)).setCell ⟨gm, 18, none⟩ (.bool b)) gm gB { f with down := false } b fz := by
    intro b
    have q1 : RHead (w.setCell ⟨gm, 16, none⟩ (.bool false)) gm gB { f with down := false } fu fz := h4.set (rcell_tail 16 _ (by omega) rfl rfl (by intro i hi; rcases hi with rfl | rfl | rfl | rfl | rfl <;> rfl))
    exact q1.set (rcell_tail 18 _ (by omega) rfl rfl (by intro i hi; rcases hi with rfl | rfl | rfl | rfl | rfl <;> rfl))
  have hbo : ∀ (W : World) (i : Nat) (v : Value), (W.setCell ⟨gm, i, none⟩ v).heap[gB]? = W.heap[gB]? := fun W i v => heap_setCell_other W ⟨gm, i, none⟩ gB v (fun e => h1 e.symm)
  have mk : ∀ b, FuseOk { f with down := false } b fz → RDone gm gB { f with down := false } w ((w.setCell ⟨gm, 16, none⟩ (.bool false)).setCell ⟨gm, 18, none⟩ (.bool b)) := fun b hb =>
    ⟨⟨h1, (h2.keep ((hbo _ _ _).trans (hbo _ _ _))).bits rfl, b, fz, hb, k1 b⟩, (gr2_a w gm gB 16 _).trans (gr2_a _ gm gB 18 _)⟩
  cases fu with
  | false =>
    have HD := Lib.hid (mk false ⟨fun e => (by have := (h3.yes e).1; cases this), fun _ => .inl rfl, h3.lo, h3.hi⟩)
    clear h1 h2 h3 h4 k1 hbo mk
    go_enter Try.func15, Try.ntmps15
    go_wp2_with fail
    go_end0
    exact ⟨rfl, HD⟩
  | true =>
    by_cases hz : 0 ≤ fz
    · have HD := Lib.hid (mk true ⟨fun e => h3.yes e, fun e => (by rcases h3.no e with h | ⟨_, h, _⟩; cases h; omega), h3.lo, h3.hi⟩)
      have hq : decide (0 ≤ fz) = true := decide_eq_true hz
      clear h1 h2 h3 h4 k1 hbo mk
      go_enter Try.func15, Try.ntmps15
      go_wp2_with fail
      go_end0
      exact ⟨rfl, by simpa [hz] using HD⟩
    · have HD := Lib.hid (mk false ⟨fun e => absurd (h3.yes e).2.2 hz, fun _ => .inl rfl, h3.lo, h3.hi⟩)
      clear h1 h2 h3 h4 k1 hbo mk
      go_enter Try.func15, Try.ntmps15
      go_wp2_with fail
      go_end0
      exact ⟨rfl, by simpa [hz] using HD⟩
end
theorem flfill_zero (f : Fl) (a : Nat) : f.fill a 0 = f := by
  unfold Fl.fill; congr 1; funext i; rw [if_neg (by omega)]
theorem rerase_bad (gm gB : Nat) (s k : Int) (f : Fl) (w : World) (hf : RfAt w gm gB f) (h : f.down = true ∧ k = 11 ∨ f.down = false ∧ (s < 0 ∨ 14 ≤ s) ∧ k = 1) : Calls Try.prog 52 #[.pointer (some ⟨gm, 0, none⟩), .int .i64 s] w fun e w' => e = .returned (.int .i64 k) ∧ w = w' := by
  have hoff := hf.off
  clear hf
  rcases h with ⟨h1, rfl⟩ | ⟨h1, h2, rfl⟩
  · rw [h1] at hoff
    clear h1
    go_enter Try.func52, Try.ntmps52
    go_wp2_with fail
    go_ret
    exact ⟨rfl, rfl⟩
  · rw [h1] at hoff
    by_cases h3 : s < 0
    · clear h1 h2
      go_enter Try.func52, Try.ntmps52
      go_wp2_with fail
      go_ret
      exact ⟨rfl, rfl⟩
    · have h4 : 14 ≤ s := by omega
      clear h1 h2
      go_enter Try.func52, Try.ntmps52
      go_wp2_with fail
      go_ret
      exact ⟨rfl, rfl⟩
set_option maxRecDepth 100000 in
set_option maxHeartbeats 3200000 in
theorem rerase_ok (gm gB s : Nat) (f : Fl) (w : World) (hf : RfAt w gm gB f) (hd : f.down = false) (hs : s < 14) (he : 0 ≤ f.er s) (hwm : f.wear ≤ 9223372036854775807)
    (h0 : 0 ≤ f.steps) (h1 : f.steps < 9223372036854775807) :
    Calls Try.prog 52 #[.pointer (some ⟨gm, 0, none⟩), .int .i64 (s : Int)] w (RProgOk gm gB (f.erase s) w) := by
  have hoff := hf.off
  rw [hd] at hoff
  have hce := hf.erC hs
  have hcw := hf.wearC
  have hfz := hf.frz (2 + s)
  have hi0 : (0 : Int) ≤ (s : Int) := by omega
  have hi1 : (s : Int) < 14 := by omega
  have HF := Lib.hid hf
  by_cases hw : f.wear ≤ f.er s
  · have HE : Hid (f.erase s = (f, 10)) := by show _ = _; unfold Fl.erase; rw [if_pos hw]
    generalize f.er s = ers at *
    generalize f.wear = wr at *
    clear hf hd h0 h1
    go_enter Try.func52, Try.ntmps52
    go_wp2_with fail
    go_quiet (fail)
    go_wp2_with fail
    go_ret
    refine ⟨?_, ?_⟩
    · rw [HE.out]; rfl
    · rw [HE.out]; exact ⟨HF.out, ⟨rfl, rfl, rfl, Nat.le_refl _, fun _ _ _ _ => rfl⟩⟩
  · have hup : Hid (∀ k, RDone gm gB (f.wearUp s) w ((w.drewN k).setCell ⟨gm, 2 + s, none⟩ (.int .i64 (f.er s + 1)))) := Lib.hid fun k => by
      obtain ⟨q1, q2⟩ := (show RfAt (w.drewN k) gm gB f from hf).upEr s hs
      exact ⟨q1, q2.os, q2.tape, q2.output, q2.size, q2.block⟩
    obtain ⟨f1, hf1⟩ : ∃ f1, f.wearUp s = f1 := ⟨_, rfl⟩
    have HE : Hid (f.erase s = if f1.stepB then (f1.stepF.fill (256 * s) 256, 0) else (f1.stepF.fill (256 * s) f.tornN, 11)) := by show _ = _; unfold Fl.erase; rw [if_neg hw, hf1]
    have HS : Hid (f1.steps = f.steps ∧ f1.down = f.down ∧ f1.torn = f.torn) := by rw [← hf1]; exact ⟨rfl, rfl, rfl⟩
    rw [hf1] at hup
    have hT := Lib.hid (Fl.tornN_le f)
    have HTN : Hid ((f.tornN : Int) = max f.torn 0 % 257) := by show _ = _; unfold Fl.tornN; omega
    have HST : Hid (∀ w', RfAt w' gm gB f1 → Calls Try.prog 54 #[.pointer (some ⟨gm, 0, none⟩)] w' fun e w'' => e = .returned (.bool f1.stepB) ∧ Hid (RDone gm gB f1.stepF w' w'')) := fun w' h => rstep_any gm gB f1 w' h (HS.out.2.1.trans hd) (by rw [HS.out.1]; exact h0) (by rw [HS.out.1]; exact h1)
    have htn := Fl.stepF_torn f1
    rw [HS.out.2.2] at htn
    have HTO := Lib.hid htn
    generalize f.er s = ers at *
    generalize f.wear = wr at *
    generalize f.tornN = tn at *
    generalize f.torn = tt at *
    have hwr1 : IntKind.i64.wrap (ers + 1) = ers + 1 := IntWalk.i64_in _ ⟨by omega, by omega⟩
    clear hf hd h0 h1 htn hf1 hwm
    go_enter Try.func52, Try.ntmps52
    go_wp2_with fail
    go_quiet (fail)
    go_wp2_with fail
    go_region
    go_wp2_with fail
    refine (HST.out _ (hup.out _).1).mono ?_
    rintro e w2 ⟨rfl, hd2⟩
    have HD2 := Lib.hid ((hup.out _).trans hd2.out)
    clear hd2 hup HST hce hcw hfz hwr1 hoff
    cases hb : f1.stepB with
    | true =>
      have HE2 : Hid (f.erase s = (f1.stepF.fill (256 * s) 256, 0)) := by show _ = _; rw [HE.out, if_pos hb]
      clear HE hb HTO
      generalize f1.stepF = f2 at *
      go_wp2_with fail
      go_loopw [49] (fun i wr => ∃ k : Nat, k ≤ 256 ∧ i = .int .i64 k ∧ Hid (RDone gm gB (f2.fill (256 * s) k) w wr)) (fun i _ => 256 - (intOf i).toNat)
      case atStart => exact ⟨0, by omega, rfl, by rw [flfill_zero]; exact HD2.out⟩
      case round =>
        obtain ⟨k, hk, rfl, hdn⟩ := hrel
        by_cases hlt : k < 256
        · have hks : 256 * s + k < 3584 := by omega
          have hc0 := hdn.out.1.slot0
          have hcb := hdn.out.1.2.1.at_ (i := 256 * s + k) hks
          have hfb := hdn.out.1.2.1.frozen (256 * s + k)
          have hki : (k : Int) < 256 := by omega
          have hcb2 := hcb
          have hfb2 := hfb
          rw [show 256 * s + k = s * 256 + k by omega] at hcb2 hfb2
          have HN : Hid (RDone gm gB (f2.fill (256 * s) (k + 1)) w (wr.setCell ⟨gB, s * 256 + k, none⟩ (.int .u8 255))) := by
            show RDone _ _ _ _ _
            rw [show s * 256 + k = 256 * s + k by omega]
            exact hdn.out.trans (RfAt.ff (256 * s) k hks _ rfl hdn.out.1)
          clear hdn
          go_wp2_with fail
          go_roundw
          case rel => exact ⟨k + 1, by omega, by go_num, HN⟩
          case measure => simp [intOf]; omega
        · obtain rfl : k = 256 := by omega
          go_wp2_with fail
          go_ret
          refine ⟨?_, ?_⟩
          · rw [HE2.out]; rfl
          · rw [HE2.out]; exact hdn
    | false =>
      have HE2 : Hid (f.erase s = (f1.stepF.fill (256 * s) tn, 11)) := by show _ = _; rw [HE.out, if_neg (by rw [hb]; decide)]
      clear HE hb
      generalize f1.stepF = f2 at *
      have hct := HD2.out.1.tornW
      rw [HTO.out] at hct
      have ht256 : tn ≤ 256 := hT.out
      by_cases ht0 : tt ≤ 0
      · have h0 : tn = 0 := by have := HTN.out; omega
        subst h0
        have hnp : ¬ 0 < tt := by omega
        clear HTO
        go_wp2_with fail
        go_loopw [49] (fun i wr => ∃ k : Nat, k ≤ 0 ∧ i = .int .i64 k ∧ Hid (RDone gm gB (f2.fill (256 * s) k) w wr)) (fun i _ => 0 - (intOf i).toNat)
        case atStart => exact ⟨0, by omega, rfl, by rw [flfill_zero]; exact HD2.out⟩
        case round =>
          obtain ⟨k, hk, rfl, hdn⟩ := hrel
          obtain rfl : k = 0 := by omega
          go_wp2_with fail
          go_ret
          refine ⟨?_, ?_⟩
          · rw [HE2.out]; rfl
          · rw [HE2.out]; exact hdn
      · have ht1 : 0 < tt := by omega
        have hn : tt % 257 = (tn : Int) := by have := HTN.out; omega
        have HN1 := Lib.hid hn
        clear hn ht0 HTO
        go_upto_region 11 with fail
        rw [HN1.out]
        go_wp2_with fail
        go_loopw [49] (fun i wr => ∃ k : Nat, k ≤ tn ∧ i = .int .i64 k ∧ Hid (RDone gm gB (f2.fill (256 * s) k) w wr)) (fun i _ => tn - (intOf i).toNat)
        case atStart => exact ⟨0, by omega, rfl, by rw [flfill_zero]; exact HD2.out⟩
        case round =>
          obtain ⟨k, hk, rfl, hdn⟩ := hrel
          by_cases hlt : k < tn
          · have hks : 256 * s + k < 3584 := by omega
            have hc0 := hdn.out.1.slot0
            have hcb := hdn.out.1.2.1.at_ (i := 256 * s + k) hks
            have hfb := hdn.out.1.2.1.frozen (256 * s + k)
            have hki : (k : Int) < 256 := by omega
            have hcb2 := hcb
            have hfb2 := hfb
            rw [show 256 * s + k = s * 256 + k by omega] at hcb2 hfb2
            have HN : Hid (RDone gm gB (f2.fill (256 * s) (k + 1)) w (wr.setCell ⟨gB, s * 256 + k, none⟩ (.int .u8 255))) := by
              show RDone _ _ _ _ _
              rw [show s * 256 + k = 256 * s + k by omega]
              exact hdn.out.trans (RfAt.ff (256 * s) k hks _ rfl hdn.out.1)
            clear hdn
            go_wp2_with fail
            go_roundw
            case rel => exact ⟨k + 1, by omega, by go_num, HN⟩
            case measure => simp [intOf]; omega
          · obtain rfl : k = tn := by omega
            go_wp2_with fail
            go_ret
            refine ⟨?_, ?_⟩
            · rw [HE2.out]; rfl
            · rw [HE2.out]; exact hdn
end Go.Proofs.Ytekaoodagaplmaa
namespace Go.Proofs.Ytekaoodagaplmaa
open Go.RowKit
set_option maxRecDepth 100000 in
set_option maxHeartbeats 800000 in
theorem new_lo (x : Int) (w : World) (h : x < 1) : Calls Try.prog 6 #[.int .i64 x] w (NewOk 1 w) := by
  obtain ⟨C, hC⟩ : ∃ C, flCells 0 = C := ⟨_, rfl⟩
  have hb : ∀ w' : World, (zeroValue 63).run Try.prog w' = .ok (.agg C) w' := fun w' => by rw [← hC]; exact fl_zero w'
  have hat := Lib.hid (flCells_at 1 C hC w)
  have hs : ¬ C.size < 3599 := by rw [← hC, flCells_size]; omega
  clear hC
  go_enter Try.func6, Try.ntmps6
  go_wp2_with fail
  refine (fill_any w.heap.size 0 3584 3584 (flNew 1) _ hat.out (by omega)).mono ?_
  rintro e w' ⟨rfl, hd⟩
  have HD : Hid (FlAt w' w.heap.size ((flNew 1).fill 0 3584) ∧ Below w.heap.size w w') := ⟨hd.out.1, ((Below.refl _ _).alloc (Nat.le_refl _) _).grown hd.out.2 (by simp) (by intro g h; injection h with h; omega)⟩
  clear hd hat
  go_wp2_with fail
  go_ret
  exact ⟨_, rfl, Nat.le_refl _, HD.out.1, HD.out.2⟩
set_option maxRecDepth 100000 in
set_option maxHeartbeats 800000 in
theorem new_hi (x : Int) (w : World) (h : 10000 < x) : Calls Try.prog 6 #[.int .i64 x] w (NewOk 10000 w) := by
  obtain ⟨C, hC⟩ : ∃ C, flCells 0 = C := ⟨_, rfl⟩
  have hb : ∀ w' : World, (zeroValue 63).run Try.prog w' = .ok (.agg C) w' := fun w' => by rw [← hC]; exact fl_zero w'
  have hat := Lib.hid (flCells_at 10000 C hC w)
  have hs : ¬ C.size < 3599 := by rw [← hC, flCells_size]; omega
  have h1 : 1 ≤ x := by omega
  clear hC
  go_enter Try.func6, Try.ntmps6
  go_wp2_with fail
  refine (fill_any w.heap.size 0 3584 3584 (flNew 10000) _ hat.out (by omega)).mono ?_
  rintro e w' ⟨rfl, hd⟩
  have HD : Hid (FlAt w' w.heap.size ((flNew 10000).fill 0 3584) ∧ Below w.heap.size w w') := ⟨hd.out.1, ((Below.refl _ _).alloc (Nat.le_refl _) _).grown hd.out.2 (by simp) (by intro g h; injection h with h; omega)⟩
  clear hd hat
  go_wp2_with fail
  go_ret
  exact ⟨_, rfl, Nat.le_refl _, HD.out.1, HD.out.2⟩
theorem new_all (x : Int) (w : World) : ∃ v : Int, v ≤ 10000 ∧ v = max 1 (min x 10000) ∧ Calls Try.prog 6 #[.int .i64 x] w (NewOk v w) := by
  by_cases h1 : x < 1
  · exact ⟨1, by omega, by omega, new_lo x w h1⟩
  · by_cases h2 : 10000 < x
    · exact ⟨10000, by omega, by omega, new_hi x w h2⟩
    · exact ⟨x, by omega, by omega, new_any x w ⟨by omega, by omega⟩⟩
theorem zr_make3584 (w : World) : (Instr.makeSlice 37 (.int .i64 3584) (.int .i64 3584)).run Try.prog w = .ok (.slice (some ⟨w.heap.size, 0, none⟩) 3584 3584) (w.alloc (.cells (Array.replicate 3584 (.int .u8 0)) 5)) := by
  obtain ⟨i0, hi, hz0, hz1, hz2⟩ := info_parts Try.info5
  have e : ∀ (v : Value) (n : Nat), madeCells #[v] n = Array.replicate n v := fun v n => by
    apply Array.toList_inj.1
    rw [toList_madeCells_one]; simp
  have := run_make (P := Try.prog) w 37 5 i0 (.int .u8 0) Try.underlying37 hi hz0 .i64 .i64 3584 3584 (by omega) (Int.le_refl _) (by rw [hz2]; omega) (by omega)
  simpa [hz1, Value.cells, e] using this
def headZ (gB : Nat) (v : Int) : Array Value := #[.slice (some ⟨gB, 0, none⟩) 3584 3584, .int .i64 v, .int .i64 0, .int .i64 0, .int .i64 0, .int .i64 0, .int .i64 0, .int .i64 0, .int .i64 0, .int .i64 0, .int .i64 0, .int .i64 0, .int .i64 0, .int .i64 0, .int .i64 0, .int .i64 0, .bool false, .int .i64 0, .bool false, .int .i64 0, .int .i64 0]
theorem headZ_get (gB : Nat) (v : Int) : ∀ i, i < 21 → (headZ gB v)[i]? = some (rcell gB (flNew v) false 0 i) := by
  intro i hi
  have : i = 0 ∨ i = 1 ∨ i = 2 ∨ i = 3 ∨ i = 4 ∨ i = 5 ∨ i = 6 ∨ i = 7 ∨ i = 8 ∨ i = 9 ∨ i = 10 ∨ i = 11 ∨ i = 12 ∨ i = 13 ∨ i = 14 ∨ i = 15 ∨ i = 16 ∨ i = 17 ∨ i = 18 ∨ i = 19 ∨ i = 20 := by omega
  rcases this with rfl | rfl | rfl | rfl | rfl | rfl | rfl | rfl | rfl | rfl | rfl | rfl | rfl | rfl | rfl | rfl | rfl | rfl | rfl | rfl | rfl <;> rfl
theorem rf_new (w : World) (v : Int) : RfAt ((w.alloc (.cells (Array.replicate 3584 (.int .u8 0)) 5)).alloc (.cells (headZ w.heap.size v) 52)) (w.heap.size + 1) w.heap.size (flNew v) := by
  refine ⟨by omega, ⟨_, heap_alloc2_old _ _ _, by simp, fun i hi => ?_⟩, false, 0, ⟨fun h => Bool.noConfusion h, fun _ => .inl rfl, by decide, by decide⟩, ⟨_, heap_alloc2_new _ _ _, rfl, headZ_get _ _⟩⟩
  rw [Array.getElem?_replicate, if_pos hi]; rfl
def RNewOk (v : Int) (w : World) (e : Ending) (w' : World) : Prop :=
  ∃ gm gB, e = .returned (.pointer (some ⟨gm, 0, none⟩)) ∧ w.heap.size ≤ gm ∧ w.heap.size ≤ gB ∧ Hid (RfAt w' gm gB ((flNew v).fill 0 3584)) ∧ Hid (Below w.heap.size w w')
set_option maxRecDepth 100000 in
set_option maxHeartbeats 1600000 in
theorem rnew_mid (x : Int) (w : World) (h : 1 ≤ x ∧ x ≤ 10000) : Calls Try.prog 7 #[.int .i64 x] w (RNewOk x w) := by
  have h1 := h.1
  have h2 := h.2
  have HM := fun w => zr_make3584 w
  have hb0 : Below w.heap.size w ((w.alloc (.cells (Array.replicate 3584 (.int .u8 0)) 5)).alloc (.cells (headZ w.heap.size x) 52)) := ((Below.refl _ _).alloc (Nat.le_refl _) _).alloc (by simp) _
  have hf0 := rf_new w x
  unfold headZ at hb0 hf0
  obtain ⟨w2, hw2⟩ : ∃ w2, w2 = (w.alloc (.cells (Array.replicate 3584 (.int .u8 0)) 5)).alloc (.cells #[.slice (some ⟨w.heap.size, 0, none⟩) 3584 3584, .int .i64 x, .int .i64 0, .int .i64 0, .int .i64 0, .int .i64 0, .int .i64 0, .int .i64 0, .int .i64 0, .int .i64 0, .int .i64 0, .int .i64 0, .int .i64 0, .int .i64 0, .int .i64 0, .int .i64 0, .bool false, .int .i64 0, .bool false, .int .i64 0, .int .i64 0] 52) := ⟨_, rfl⟩
  rw [← hw2] at hb0 hf0
  have HB0 := Lib.hid hb0
  have HF0 := Lib.hid hf0
  have HW2 := Lib.hid hw2
  have hc0 := hf0.slot0
  clear hb0 hf0 hw2 h
  go_enter Try.func7, Try.ntmps7
  go_upto_region 2 with fail
  rw [show (if 1 < x then x else 1) = x by split <;> omega]
  rw [← HW2.out]
  clear HM HW2
  obtain ⟨gB, hgB⟩ : ∃ gB, gB = w.heap.size := ⟨_, rfl⟩
  rw [← hgB] at HF0 hc0
  try rw [← hgB]
  have HGB := Lib.hid hgB
  clear hgB
  go_wp2_with fail
  go_loopw [16] (fun i wr => ∃ k : Nat, k ≤ 3584 ∧ i = .int .i64 k ∧ Hid (RDone (gB + 1) gB ((flNew x).fill 0 k) w2 wr)) (fun i _ => 3584 - (intOf i).toNat)
  case atStart => exact ⟨0, by omega, rfl, by rw [flfill_zero]; exact ⟨HF0.out, Gr2.refl _ _ _⟩⟩
  case round =>
    clear hc0
    obtain ⟨k, hk, rfl, hdn⟩ := hrel
    by_cases hlt : k < 3584
    · have hc0 := hdn.out.1.slot0
      have hcb := hdn.out.1.2.1.at_ (i := k) hlt
      have hfb := hdn.out.1.2.1.frozen k
      have hki : (k : Int) < 3584 := by omega
      have HN : Hid (RDone (gB + 1) gB ((flNew x).fill 0 (k + 1)) w2 (wr.setCell ⟨gB, k, none⟩ (.int .u8 255))) := by
        have := RfAt.ff (gm := gB + 1) (gB := gB) (f := flNew x) 0 k (by omega) _ rfl hdn.out.1
        rw [Nat.zero_add] at this
        exact hdn.out.trans this
      clear hdn
      go_wp2_with fail
      go_roundw
      case rel => exact ⟨k + 1, by omega, by go_num, HN⟩
      case measure => simp [intOf]; omega
    · obtain rfl : k = 3584 := by omega
      have hgb := HGB.out
      go_wp2_with fail
      go_ret
      exact ⟨gB + 1, gB, rfl, by omega, by omega, hdn.out.1, below_gr2 HB0.out hdn.out.2 HB0.out.size (by omega) (by omega)⟩
set_option maxRecDepth 100000 in
set_option maxHeartbeats 1600000 in
theorem rnew_lo (x : Int) (w : World) (h : x < 1) : Calls Try.prog 7 #[.int .i64 x] w (RNewOk 1 w) := by
  have h1 := h
  have HM := fun w => zr_make3584 w
  have hb0 : Below w.heap.size w ((w.alloc (.cells (Array.replicate 3584 (.int .u8 0)) 5)).alloc (.cells (headZ w.heap.size 1) 52)) := ((Below.refl _ _).alloc (Nat.le_refl _) _).alloc (by simp) _
  have hf0 := rf_new w 1
  unfold headZ at hb0 hf0
  obtain ⟨w2, hw2⟩ : ∃ w2, w2 = (w.alloc (.cells (Array.replicate 3584 (.int .u8 0)) 5)).alloc (.cells #[.slice (some ⟨w.heap.size, 0, none⟩) 3584 3584, .int .i64 1, .int .i64 0, .int .i64 0, .int .i64 0, .int .i64 0, .int .i64 0, .int .i64 0, .int .i64 0, .int .i64 0, .int .i64 0, .int .i64 0, .int .i64 0, .int .i64 0, .int .i64 0, .int .i64 0, .bool false, .int .i64 0, .bool false, .int .i64 0, .int .i64 0] 52) := ⟨_, rfl⟩
  rw [← hw2] at hb0 hf0
  have HB0 := Lib.hid hb0
  have HF0 := Lib.hid hf0
  have HW2 := Lib.hid hw2
  have hc0 := hf0.slot0
  clear hb0 hf0 hw2 h
  go_enter Try.func7, Try.ntmps7
  go_upto_region 2 with fail
  rw [← HW2.out]
  clear HM HW2
  obtain ⟨gB, hgB⟩ : ∃ gB, gB = w.heap.size := ⟨_, rfl⟩
  rw [← hgB] at HF0 hc0
  try rw [← hgB]
  have HGB := Lib.hid hgB
  clear hgB
  go_wp2_with fail
  go_loopw [16] (fun i wr => ∃ k : Nat, k ≤ 3584 ∧ i = .int .i64 k ∧ Hid (RDone (gB + 1) gB ((flNew 1).fill 0 k) w2 wr)) (fun i _ => 3584 - (intOf i).toNat)
  case atStart => exact ⟨0, by omega, rfl, by rw [flfill_zero]; exact ⟨HF0.out, Gr2.refl _ _ _⟩⟩
  case round =>
    clear hc0
    obtain ⟨k, hk, rfl, hdn⟩ := hrel
    by_cases hlt : k < 3584
    · have hc0 := hdn.out.1.slot0
      have hcb := hdn.out.1.2.1.at_ (i := k) hlt
      have hfb := hdn.out.1.2.1.frozen k
      have hki : (k : Int) < 3584 := by omega
      have HN : Hid (RDone (gB + 1) gB ((flNew 1).fill 0 (k + 1)) w2 (wr.setCell ⟨gB, k, none⟩ (.int .u8 255))) := by
        have := RfAt.ff (gm := gB + 1) (gB := gB) (f := flNew 1) 0 k (by omega) _ rfl hdn.out.1
        rw [Nat.zero_add] at this
        exact hdn.out.trans this
      clear hdn
      go_wp2_with fail
      go_roundw
      case rel => exact ⟨k + 1, by omega, by go_num, HN⟩
      case measure => simp [intOf]; omega
    · obtain rfl : k = 3584 := by omega
      have hgb := HGB.out
      go_wp2_with fail
      go_ret
      exact ⟨gB + 1, gB, rfl, by omega, by omega, hdn.out.1, below_gr2 HB0.out hdn.out.2 HB0.out.size (by omega) (by omega)⟩
set_option maxRecDepth 100000 in
set_option maxHeartbeats 1600000 in
theorem rnew_hi (x : Int) (w : World) (h : 10000 < x) : Calls Try.prog 7 #[.int .i64 x] w (RNewOk 10000 w) := by
  have h1 := h
  have HM := fun w => zr_make3584 w
  have hb0 : Below w.heap.size w ((w.alloc (.cells (Array.replicate 3584 (.int .u8 0)) 5)).alloc (.cells (headZ w.heap.size 10000) 52)) := ((Below.refl _ _).alloc (Nat.le_refl _) _).alloc (by simp) _
  have hf0 := rf_new w 10000
  unfold headZ at hb0 hf0
  obtain ⟨w2, hw2⟩ : ∃ w2, w2 = (w.alloc (.cells (Array.replicate 3584 (.int .u8 0)) 5)).alloc (.cells #[.slice (some ⟨w.heap.size, 0, none⟩) 3584 3584, .int .i64 10000, .int .i64 0, .int .i64 0, .int .i64 0, .int .i64 0, .int .i64 0, .int .i64 0, .int .i64 0, .int .i64 0, .int .i64 0, .int .i64 0, .int .i64 0, .int .i64 0, .int .i64 0, .int .i64 0, .bool false, .int .i64 0, .bool false, .int .i64 0, .int .i64 0] 52) := ⟨_, rfl⟩
  rw [← hw2] at hb0 hf0
  have HB0 := Lib.hid hb0
  have HF0 := Lib.hid hf0
  have HW2 := Lib.hid hw2
  have hc0 := hf0.slot0
  clear hb0 hf0 hw2 h
  go_enter Try.func7, Try.ntmps7
  go_upto_region 2 with fail
  rw [← HW2.out]
  clear HM HW2
  obtain ⟨gB, hgB⟩ : ∃ gB, gB = w.heap.size := ⟨_, rfl⟩
  rw [← hgB] at HF0 hc0
  try rw [← hgB]
  have HGB := Lib.hid hgB
  clear hgB
  go_wp2_with fail
  go_loopw [16] (fun i wr => ∃ k : Nat, k ≤ 3584 ∧ i = .int .i64 k ∧ Hid (RDone (gB + 1) gB ((flNew 10000).fill 0 k) w2 wr)) (fun i _ => 3584 - (intOf i).toNat)
  case atStart => exact ⟨0, by omega, rfl, by rw [flfill_zero]; exact ⟨HF0.out, Gr2.refl _ _ _⟩⟩
  case round =>
    clear hc0
    obtain ⟨k, hk, rfl, hdn⟩ := hrel
    by_cases hlt : k < 3584
    · have hc0 := hdn.out.1.slot0
      have hcb := hdn.out.1.2.1.at_ (i := k) hlt
      have hfb := hdn.out.1.2.1.frozen k
      have hki : (k : Int) < 3584 := by omega
      have HN : Hid (RDone (gB + 1) gB ((flNew 10000).fill 0 (k + 1)) w2 (wr.setCell ⟨gB, k, none⟩ (.int .u8 255))) := by
        have := RfAt.ff (gm := gB + 1) (gB := gB) (f := flNew 10000) 0 k (by omega) _ rfl hdn.out.1
        rw [Nat.zero_add] at this
        exact hdn.out.trans this
      clear hdn
      go_wp2_with fail
      go_roundw
      case rel => exact ⟨k + 1, by omega, by go_num, HN⟩
      case measure => simp [intOf]; omega
    · obtain rfl : k = 3584 := by omega
      have hgb := HGB.out
      go_wp2_with fail
      go_ret
      exact ⟨gB + 1, gB, rfl, by omega, by omega, hdn.out.1, below_gr2 HB0.out hdn.out.2 HB0.out.size (by omega) (by omega)⟩
theorem rnew_all (x : Int) (w : World) (v : Int) (hv : v = max 1 (min x 10000)) : Calls Try.prog 7 #[.int .i64 x] w (RNewOk v w) := by
  by_cases h1 : x < 1
  · obtain rfl : v = 1 := by omega
    exact rnew_lo x w h1
  · by_cases h2 : 10000 < x
    · obtain rfl : v = 10000 := by omega
      exact rnew_hi x w h2
    · obtain rfl : x = v := by omega
      exact rnew_mid x w ⟨by omega, by omega⟩
end Go.Proofs.Ytekaoodagaplmaa
namespace Go.Proofs.Ytekaoodagaplmaa
open Go.RowKit
theorem mayE_bad {f : Fl} {a n : Int} (hd : f.down = false) (hk : mayE f a n ≠ 0) : mayE f a n = 1 ∧ ¬ (0 ≤ n ∧ n ≤ 3584 ∧ 0 ≤ a ∧ a ≤ 3584 - n) := by
  unfold mayE at hk ⊢
  rw [hd] at hk ⊢
  simp only [Bool.false_eq_true, if_false] at hk ⊢
  by_cases h : n < 0 ∨ a < 0 ∨ 3584 - n < a
  · rw [if_pos h]; exact ⟨rfl, by omega⟩
  · rw [if_neg h] at hk; exact absurd rfl hk
set_option maxRecDepth 100000 in
set_option maxHeartbeats 800000 in
theorem rread_bad (gm gB : Nat) (a n k : Int) (f : Fl) (w : World) (hf : RfAt w gm gB f) (hn : -9223372036854775808 ≤ n ∧ n ≤ 9223372036854775807) (hk : mayE f a n = k) (hk0 : k ≠ 0) :
    Calls Try.prog 46 #[.pointer (some ⟨gm, 0, none⟩), .int .i64 a, .int .i64 n] w fun e w' => e = .returned (.tuple #[.slice none 0 0, .int .i64 k]) ∧ w = w' := by
  have hoff := hf.off
  cases hd : f.down with
  | true =>
    have hk2 : k = 11 := by rw [← hk]; unfold mayE; rw [hd]; rfl
    subst hk2
    rw [hd] at hoff
    clear hk hd hf hk0
    go_enter Try.func46, Try.ntmps46
    go_wp2_with fail
    go_ret2
    exact ⟨rfl, rfl⟩
  | false =>
    obtain ⟨q1, q2⟩ := mayE_bad hd (by rw [hk]; exact hk0)
    obtain rfl : k = 1 := hk.symm.trans q1
    have HM := Lib.hid (rthere_no a n w hn q2)
    rw [hd] at hoff
    clear hk hd hf hk0 q1 q2
    go_enter Try.func46, Try.ntmps46
    go_wp2_with fail
    refine HM.out.mono ?_
    rintro e w' ⟨rfl, rfl⟩
    go_wp2_with fail
    go_ret2
    exact ⟨rfl, rfl⟩
set_option maxRecDepth 100000 in
set_option maxHeartbeats 1600000 in
theorem rread_ok (gm gB a n : Nat) (f : Fl) (w : World) (hf : RfAt w gm gB f) (hd : f.down = false) (h : a + n ≤ 3584) :
    Calls Try.prog 46 #[.pointer (some ⟨gm, 0, none⟩), .int .i64 (a : Int), .int .i64 (n : Int)] w (ReadOk (f.sub a n) w) := by
  have hoff := hf.off
  rw [hd] at hoff
  have hc0 := hf.slot0
  have HM := Lib.hid (rthere_yes (a : Int) (n : Int) w ⟨by omega, by omega, by omega, by omega⟩)
  have HR := Lib.hid (hf.2.1.row (a := a) (n := n) h)
  have HSL := Lib.hid (f.sub_length a n)
  have h0 : (0 : Int) ≤ (a : Int) := by omega
  have h1 : (a : Int) + n ≤ 3584 := by omega
  have h2 : (a : Int) ≤ (a : Int) + n := by omega
  have key : ∀ A cap, Row w w.heap.size A n (bv (f.sub a n)) → Calls Try.prog 38 #[.slice (some ⟨w.heap.size, 0, none⟩) 1 1] (w.alloc (.cells #[.slice A n cap] 37)) (FreshBytes (w.heap.size + 1) (f.sub a n) (w.alloc (.cells #[.slice A n cap] 37))) := by
    intro A cap hr
    have hj := join_any (w.heap.size + 1) 1 1 (some ⟨w.heap.size, 0, none⟩) [⟨A, n, cap, f.sub a n⟩] (w.alloc (.cells #[.slice A n cap] 37)) ⟨row_new w #[.slice A n cap] 37 (0, 0), fun r hr' => by
      simp only [List.mem_singleton] at hr'
      subst hr'
      exact (hr.alloc (Nat.le_refl _) _).more (by omega)⟩ (by omega) (by simp [flat, Fl.sub_length]; omega) (by simp)
    have e : flat [(⟨A, n, cap, f.sub a n⟩ : BRow)] = f.sub a n := by simp [flat]
    rw [e] at hj
    simpa using hj
  have HK := Lib.hid key
  have HBA : Hid (∀ o, Below w.heap.size w (w.alloc o)) := Lib.hid fun o => (Below.refl _ _).alloc (Nat.le_refl _) _
  clear key hd hf
  by_cases ha : 3584 = a
  · have hn0 : n = 0 := by omega
    subst hn0
    have e0 : f.sub a 0 = [] := rfl
    rw [e0] at HK ⊢
    clear HSL HR e0
    go_enter Try.func46, Try.ntmps46
    go_wp2_with fail
    refine HM.out.mono ?_
    rintro e w' ⟨rfl, rfl⟩
    go_wp2_with fail
    refine (HK.out _ _ (Row.nil _ _ _)).mono ?_
    rintro e w1 ⟨A1, n1, c1, rfl, hn1, hown1, hb1⟩
    have HO := Lib.hid (own_base hown1 (Nat.le_succ _))
    have HB := Lib.hid ((HBA.out _).trans (hb1.mono (Nat.le_succ _)))
    clear hown1 hb1
    go_wp2_with fail
    go_ret2
    exact ⟨A1, n1, c1, rfl, hn1, HO, HB⟩
  · go_enter Try.func46, Try.ntmps46
    go_wp2_with fail
    refine HM.out.mono ?_
    rintro e w' ⟨rfl, rfl⟩
    go_wp2_with fail
    refine (HK.out _ _ HR.out).mono ?_
    rintro e w1 ⟨A1, n1, c1, rfl, hn1, hown1, hb1⟩
    have HO := Lib.hid (own_base hown1 (Nat.le_succ _))
    have HB := Lib.hid ((HBA.out _).trans (hb1.mono (Nat.le_succ _)))
    clear hown1 hb1
    go_wp2_with fail
    go_ret2
    exact ⟨A1, n1, c1, rfl, hn1, HO, HB⟩
set_option maxRecDepth 100000 in
set_option maxHeartbeats 800000 in
theorem rblank_bad (gm gB : Nat) (a n k : Int) (f : Fl) (w : World) (hf : RfAt w gm gB f) (hn : -9223372036854775808 ≤ n ∧ n ≤ 9223372036854775807) (hk : mayE f a n = k) (hk0 : k ≠ 0) :
    Calls Try.prog 29 #[.pointer (some ⟨gm, 0, none⟩), .int .i64 a, .int .i64 n] w fun e w' => e = .returned (.bool false) ∧ w = w' := by
  have HR := Lib.hid (rread_bad gm gB a n k f w hf hn hk hk0)
  have hk' : (k == 0) = false := by simpa using hk0
  clear hf hk hk0 hn
  go_enter Try.func29, Try.ntmps29
  go_wp2_with fail
  refine HR.out.mono ?_
  rintro e w' ⟨rfl, rfl⟩
  go_wp2_with fail
  go_loop [20] (fun i => i = .int .i64 0) (fun _ => 0)
  case atStart => rfl
  case round =>
    obtain rfl := hrel
    go_wp2_with fail
    go_ret
    exact ⟨rfl, rfl⟩
set_option maxRecDepth 100000 in
set_option maxHeartbeats 800000 in
theorem rblank_ok (gm gB a n : Nat) (f : Fl) (w : World) (hf : RfAt w gm gB f) (hd : f.down = false) (h : a + n ≤ 3584) :
    Calls Try.prog 29 #[.pointer (some ⟨gm, 0, none⟩), .int .i64 (a : Int), .int .i64 (n : Int)] w fun e w' => e = .returned (.bool (allFF (f.sub a n))) ∧ Hid (Below w.heap.size w w') := by
  have HR := Lib.hid (rread_ok gm gB a n f w hf hd h)
  have hsl := f.sub_length a n
  clear hf hd
  generalize f.sub a n = L at *
  have HSL := Lib.hid hsl
  clear hsl
  go_enter Try.func29, Try.ntmps29
  go_wp2_with fail
  refine HR.out.mono ?_
  rintro e w1 ⟨A1, n1, c1, rfl, hn1, hown, hb⟩
  obtain rfl : n1 = n := hn1.out.trans HSL.out
  have HRW := Lib.hid (Row.of_own hown.out)
  clear hown hn1
  go_wp2_with fail
  go_loop [20] (fun i => ∃ k : Nat, k ≤ n1 ∧ i = .int .i64 k ∧ Hid (∀ j (hj : j < L.length), j < k → L[j] = 255)) (fun i => n1 - (intOf i).toNat)
  case atStart => exact ⟨0, by omega, rfl, (show ∀ j (hj : j < L.length), j < 0 → L[j] = 255 from fun j _ hj => absurd hj (by omega))⟩
  case round =>
    obtain ⟨k, hk, rfl, hall⟩ := hrel
    by_cases hlt : k < n1
    · obtain ⟨b, o, rfl, _, hkl, hcell⟩ := HRW.out.byteAt hlt
      by_cases hx : L[k] = 255
      · have e6 : ((L[k].toNat : Int) != 255) = false := by rw [hx]; rfl
        have hall2 : Hid (∀ j (hj : j < L.length), j < k + 1 → L[j] = 255) := by
          intro j hj hjk
          by_cases e : j < k
          · exact hall.out j hj e
          · obtain rfl : j = k := by omega
            exact hx
        clear hx hall
        go_wp2_with fail
        go_round
        case rel => exact ⟨k + 1, by omega, by go_num, hall2⟩
        case measure => simp [intOf]; omega
      · have e6 : ((L[k].toNat : Int) != 255) = true := bne_iff_ne.2 fun e => hx (UInt8.toNat.inj (by rw [show L[k].toNat = 255 by omega]; rfl))
        have HNO := Lib.hid (allFF_no hkl hx)
        clear hx hall
        go_wp2_with fail
        go_ret
        exact ⟨by rw [HNO.out]; rfl, hb⟩
    · obtain rfl : n1 = k := by omega
      have HY : Hid (allFF L = true) := by
        show allFF L = true
        unfold allFF
        rw [List.all_eq_true]
        intro x hx
        obtain ⟨j, hj, rfl⟩ := List.getElem_of_mem hx
        have := hall.out j hj (by have := HSL.out; omega)
        simpa using this
      clear hall
      go_wp2_with fail
      go_ret
      exact ⟨by rw [HY.out]; rfl, hb⟩
end Go.Proofs.Ytekaoodagaplmaa
