/- Cell: what a write makes of flash, whole or torn: mathematics. -/
import Derived.Test.YtmlmpjokmbgmcaaCellM
namespace Go.Proofs.Ytmlmpjokmbgmcaa
open Go.RowKit
theorem Fl.prog_append (m : List UInt8) : ∀ (l : List UInt8) (f : Fl) (a : Nat), f.prog a (l ++ m) = if (f.prog a l).2 = 0 then (f.prog a l).1.prog (a + l.length) m else f.prog a l
  | [], f, a => by simp [Fl.prog]
  | x :: l, f, a => by
    cases hs : f.stepB with
    | true =>
      have e : ∀ t, f.prog a (x :: t) = (f.stepF.put a x).prog (a + 1) t := fun t => by
        show (if f.stepB then _ else _) = _
        rw [if_pos hs]
      rw [List.cons_append, e, e, Fl.prog_append m l, List.length_cons, show a + 1 + l.length = a + (l.length + 1) by omega]
    | false =>
      have e : ∀ t, f.prog a (x :: t) = (f.stepF.put a (x ||| UInt8.ofNat (f.torn % 256).toNat), 11) := fun t => by
        show (if f.stepB then _ else _) = _
        rw [if_neg (by rw [hs]; decide)]
      rw [List.cons_append, e, e, if_neg (show ¬ (11 : Int) = 0 by decide)]
/-- what stays in any step -/
structure Kept (f f' : Fl) : Prop where
  er : f'.er = f.er
  wear : f'.wear = f.wear
theorem prog_cases (l : List UInt8) : ∀ (f : Fl) (a : Nat),
    (∃ f', f.prog a l = (f', 0) ∧ f'.bs = bsAll f.bs a l ∧ Kept f f' ∧ f'.steps = f.steps + l.length ∧ f'.down = f.down ∧ (f.there = false → f'.there = false)) ∨
    (f.there = true ∧ ∃ f' k tb, k < l.length ∧ f.prog a l = (f', 11) ∧ f'.bs = bsTorn f.bs a k l tb ∧ Kept f f' ∧ f'.down = true ∧ f'.there = false) := by
  induction l with
  | nil => intro f a; exact .inl ⟨f, rfl, (bsAll_nil _ _).symm, ⟨rfl, rfl⟩, by simp, rfl, fun h => h⟩
  | cons x t ih =>
    intro f a
    cases hs : f.stepB with
    | true =>
      have e : f.prog a (x :: t) = (f.stepF.put a x).prog (a + 1) t := by
        show (if f.stepB then _ else _) = _
        rw [if_pos hs]
      have hbs : (f.stepF.put a x).bs = fun i => if i = a then f.bs a &&& x else f.bs i := by
        show (fun i => if i = a then f.stepF.bs a &&& x else f.stepF.bs i) = _
        rw [Fl.stepF_bs]
      have hd : (f.stepF.put a x).down = f.down := by
        show f.stepF.down = _
        unfold Fl.stepF
        unfold Fl.stepB at hs
        split
        · rename_i h
          rw [if_pos h] at hs
          rw [if_pos (by simpa using hs)]; rfl
        · rfl
      have ht : f.there = false → (f.stepF.put a x).there = false := by
        intro h
        show f.stepF.there = _
        unfold Fl.stepF
        rw [if_neg (by rw [h]; decide)]; exact h
      have hk : Kept f (f.stepF.put a x) := ⟨Fl.stepF_er f, Fl.stepF_wear f⟩
      have hst : (f.stepF.put a x).steps = f.steps + 1 := Fl.stepF_steps f
      rcases ih (f.stepF.put a x) (a + 1) with ⟨f', h1, h2, h3, h4, h5, h6⟩ | ⟨h0, f', k, tb, hkl, h1, h2, h3, h4, h5⟩
      · left
        refine ⟨f', e.trans h1, ?_, ⟨h3.er.trans hk.er, h3.wear.trans hk.wear⟩, ?_, h5.trans hd, fun h => h6 (ht h)⟩
        · rw [h2, hbs, bsAll_cons]
        · rw [h4, hst, List.length_cons]; push_cast; omega
      · right
        refine ⟨?_, f', k + 1, tb, by simp only [List.length_cons]; omega, e.trans h1, ?_, ⟨h3.er.trans hk.er, h3.wear.trans hk.wear⟩, h4, h5⟩
        · cases h : f.there with
          | true => rfl
          | false => rw [ht h] at h0; cases h0
        · rw [h2, hbs, bsTorn_cons]
    | false =>
      right
      have e : f.prog a (x :: t) = (f.stepF.put a (x ||| UInt8.ofNat (f.torn % 256).toNat), 11) := by
        show (if f.stepB then _ else _) = _
        rw [if_neg (by rw [hs]; decide)]
      have h0 : f.there = true := by
        unfold Fl.stepB at hs
        cases h : f.there with
        | true => rfl
        | false => rw [if_neg (by rw [h]; decide)] at hs; cases hs
      have hsf : f.stepF = { f.tick with there := false, down := true } := by
        unfold Fl.stepB at hs
        rw [if_pos h0] at hs
        unfold Fl.stepF
        rw [if_pos h0, if_neg (by simpa using hs)]
      refine ⟨h0, _, 0, UInt8.ofNat (f.torn % 256).toNat, by simp, e, ?_, ⟨Fl.stepF_er f, Fl.stepF_wear f⟩, ?_, ?_⟩
      · rw [← bsTorn_zero]
        show (fun i => if i = a then f.stepF.bs a &&& _ else f.stepF.bs i) = _
        rw [Fl.stepF_bs]
      · show f.stepF.down = true; rw [hsf]
      · show f.stepF.there = false; rw [hsf]
def erUp (e : Nat → Int) (s : Nat) : Nat → Int := fun i => if i = s then e s + 1 else e i
theorem erase_cases (f : Fl) (s : Nat) (hw : f.er s < f.wear) :
    (∃ f', f.erase s = (f', 0) ∧ f'.bs = (fun i => if 256 * s ≤ i ∧ i < 256 * s + 256 then 255 else f.bs i) ∧ f'.er = erUp f.er s ∧ f'.wear = f.wear ∧ f'.steps = f.steps + 1 ∧ f'.down = f.down ∧ (f.there = false → f'.there = false)) ∨
    (f.there = true ∧ ∃ f' t, t ≤ 256 ∧ f.erase s = (f', 11) ∧ f'.bs = (fun i => if 256 * s ≤ i ∧ i < 256 * s + t then 255 else f.bs i) ∧ f'.er = erUp f.er s ∧ f'.wear = f.wear ∧ f'.down = true ∧ f'.there = false) := by
  have hb : (f.wearUp s).stepF.bs = f.bs := by rw [Fl.stepF_bs]; rfl
  have he : (f.wearUp s).stepF.er = erUp f.er s := by rw [Fl.stepF_er]; rfl
  have hww : (f.wearUp s).stepF.wear = f.wear := by rw [Fl.stepF_wear]; rfl
  have hfill : ∀ n, ((f.wearUp s).stepF.fill (256 * s) n).bs = (fun i => if 256 * s ≤ i ∧ i < 256 * s + n then 255 else f.bs i) := by
    intro n
    show (fun i => if 256 * s ≤ i ∧ i < 256 * s + n then 255 else (f.wearUp s).stepF.bs i) = _
    rw [hb]
  cases hs : (f.wearUp s).stepB with
  | true =>
    left
    refine ⟨(f.wearUp s).stepF.fill (256 * s) 256, ?_, hfill 256, he, hww, ?_, ?_, ?_⟩
    · unfold Fl.erase; rw [if_neg (by omega), if_pos hs]
    · show (f.wearUp s).stepF.steps = _; rw [Fl.stepF_steps]; rfl
    · show (f.wearUp s).stepF.down = f.down
      unfold Fl.stepF
      unfold Fl.stepB at hs
      split
      · rename_i h
        rw [if_pos h] at hs
        rw [if_pos (by simpa using hs)]; rfl
      · rfl
    · intro h
      show (f.wearUp s).stepF.there = false
      unfold Fl.stepF
      rw [if_neg (by show ¬ f.there = true; rw [h]; decide)]; exact h
  | false =>
    right
    have h0 : f.there = true := by
      unfold Fl.stepB at hs
      cases h : f.there with
      | true => rfl
      | false => rw [if_neg (by show ¬ f.there = true; rw [h]; decide)] at hs; cases hs
    have hsf : (f.wearUp s).stepF = { (f.wearUp s).tick with there := false, down := true } := by
      unfold Fl.stepB at hs
      rw [if_pos (show (f.wearUp s).there = true from h0)] at hs
      unfold Fl.stepF
      rw [if_pos (show (f.wearUp s).there = true from h0), if_neg (by simpa using hs)]
    refine ⟨h0, (f.wearUp s).stepF.fill (256 * s) f.tornN, f.tornN, f.tornN_le, ?_, hfill _, he, hww, ?_, ?_⟩
    · unfold Fl.erase; rw [if_neg (by omega), if_neg (by rw [hs]; decide)]
    · show (f.wearUp s).stepF.down = true; rw [hsf]
    · show (f.wearUp s).stepF.there = false; rw [hsf]
/-- the bytes of sector s -/
def Fl.sec (f : Fl) (s : Nat) : Nat → UInt8 := fun i => if i < 256 then f.bs (256 * s + i) else 255
theorem sl_sec (f : Fl) (s : Nat) : sl (f.sec s) = f.sub (256 * s) 256 := by
  unfold sl Fl.sub
  apply List.map_congr_left
  intro i hi
  have : i < 256 := by simpa using hi
  unfold Fl.sec
  rw [if_pos this]
/-- cell.put -/
def Fl.putC (f : Fl) (s n : Nat) (b : List UInt8) : Fl × Int := if (f.erase s).2 = 0 then (f.erase s).1.prog (256 * s) (msgz n b) else f.erase s
def others (f f' : Fl) (s : Nat) : Prop := ∀ i, i < 256 * s ∨ 256 * s + 256 ≤ i → f'.bs i = f.bs i
theorem others.sec {f f' : Fl} {s : Nat} (h : others f f' s) (j : Nat) (hj : j ≠ s) : f'.sec j = f.sec j := by
  funext i
  unfold Fl.sec
  split
  · exact h _ (by omega)
  · rfl
theorem putC_cases (f : Fl) (s n : Nat) (b : List UInt8) (hw : f.er s < f.wear) (hb : b.length ≤ 245) :
    (∃ f', f.putC s n b = (f', 0) ∧ f'.sec s = (fun i => (msgz n b).getD i 255) ∧ others f f' s ∧ f'.er = erUp f.er s ∧ f'.wear = f.wear ∧ f'.steps = f.steps + 1 + b.length + 11 ∧ f'.down = f.down ∧ (f.there = false → f'.there = false)) ∨
    (f.there = true ∧ ∃ f', f.putC s n b = (f', 11) ∧ ((∃ t, t ≤ 256 ∧ f'.sec s = tornE (f.sec s) t) ∨ ∃ k tb, k < b.length + 11 ∧ f'.sec s = tornP (msgz n b) k tb) ∧ others f f' s ∧ f'.er = erUp f.er s ∧ f'.wear = f.wear ∧ f'.down = true ∧ f'.there = false) := by
  have hml := msgz_length n b
  rcases erase_cases f s hw with ⟨f1, e1, b1, r1, w1, s1, d1, t1⟩ | ⟨h0, f1, t, ht, e1, b1, r1, w1, d1, t1⟩
  · have ep : f.putC s n b = f1.prog (256 * s) (msgz n b) := by unfold Fl.putC; rw [e1, if_pos rfl]
    have hff : ∀ i, 256 * s ≤ i ∧ i < 256 * s + 256 → f1.bs i = 255 := fun i hi => by rw [b1]; exact if_pos hi
    have hoo : ∀ i, i < 256 * s ∨ 256 * s + 256 ≤ i → f1.bs i = f.bs i := fun i hi => by rw [b1]; exact if_neg (by omega)
    rcases prog_cases (msgz n b) f1 (256 * s) with ⟨f2, e2, b2, k2, s2, d2, t2⟩ | ⟨h0, f2, k, tb, hk, e2, b2, k2, d2, t2⟩
    · left
      refine ⟨f2, ep.trans e2, ?_, ?_, k2.er.trans r1, k2.wear.trans w1, ?_, d2.trans d1, fun h => t2 (t1 h)⟩
      · funext i
        unfold Fl.sec
        by_cases hi : i < 256
        · rw [if_pos hi, b2]
          unfold bsAll
          by_cases hl : i < (msgz n b).length
          · rw [if_pos (by omega), hff _ (by omega), u8_ff, Nat.add_sub_cancel_left]
            simp [List.getD, hl]
          · rw [if_neg (by omega), hff _ (by omega)]
            simp [List.getD, hl]
        · rw [if_neg hi]
          simp [List.getD, show ¬ i < (msgz n b).length by omega]
      · intro i hi
        rw [b2]
        unfold bsAll
        rw [if_neg (by omega)]
        exact hoo i hi
      · rw [s2, s1, hml]; push_cast; omega
    · right
      refine ⟨?_, f2, ep.trans e2, .inr ⟨k, tb, by omega, ?_⟩, ?_, k2.er.trans r1, k2.wear.trans w1, d2, t2⟩
      · cases h : f.there with
        | true => rfl
        | false => rw [t1 h] at h0; cases h0
      · funext i
        unfold Fl.sec tornP
        by_cases hi : i < 256
        · rw [if_pos hi, b2]
          unfold bsTorn
          by_cases hl : i < k
          · rw [if_pos (by omega), if_pos hl, hff _ (by omega), u8_ff, Nat.add_sub_cancel_left]
            simp [List.getD, show i < (msgz n b).length by omega]
          · rw [if_neg (by omega), if_neg hl]
            by_cases he : i = k
            · rw [if_pos (by omega), if_pos he, hff _ (by omega), u8_ff]
            · rw [if_neg (by omega), if_neg he, hff _ (by omega)]
        · rw [if_neg hi, if_neg (by omega), if_neg (by omega)]
      · intro i hi
        rw [b2]
        unfold bsTorn
        rw [if_neg (by omega), if_neg (by omega)]
        exact hoo i hi
  · right
    refine ⟨h0, f1, ?_, .inl ⟨t, ht, ?_⟩, ?_, r1, w1, d1, t1⟩
    · unfold Fl.putC; rw [e1, if_neg (show ¬ (11 : Int) = 0 by decide)]
    · funext i
      unfold Fl.sec tornE
      by_cases hi : i < 256
      · rw [if_pos hi, b1]
        by_cases hl : i < t
        · rw [if_pos hl]; exact if_pos (by omega)
        · rw [if_neg hl]; show (if _ then _ else _) = if _ then _ else _; rw [if_pos hi, if_neg (by omega)]
      · rw [if_neg hi, if_neg (by omega)]; show _ = if _ then _ else _; rw [if_neg hi]
    · intro i hi
      rw [b1]
      exact if_neg (by omega)
end Go.Proofs.Ytmlmpjokmbgmcaa
