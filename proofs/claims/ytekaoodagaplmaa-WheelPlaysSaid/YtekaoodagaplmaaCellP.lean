/- Cell: what a write makes of flash, whole or torn: mathematics. -/
import Derived.Test.YtekaoodagaplmaaCellM
import Derived.Test.YtekaoodagaplmaaFlCase
namespace Go.Proofs.Ytekaoodagaplmaa
open Go.RowKit
/-- the bytes of sector s -/
def Fl.sec (f : Fl) (s : Nat) : Nat → UInt8 := fun i => if i < 256 then f.bs (256 * s + i) else 255
theorem sl_sec (f : Fl) (s : Nat) : sl (f.sec s) = f.sub (256 * s) 256 := by
  unfold sl Fl.sub
  apply List.map_congr_left
  intro i hi
  have : i < 256 := by simpa using hi
  unfold Fl.sec
  rw [if_pos this]
/-- cell.put -/
def Fl.putC (f : Fl) (s n : Nat) (b : List UInt8) : Fl × Int := if (f.erase s).2 = 0 then (f.erase s).1.prog (256 * s) (msgz n b) else f.erase s
def others (f f' : Fl) (s : Nat) : Prop := ∀ i, i < 256 * s ∨ 256 * s + 256 ≤ i → f'.bs i = f.bs i
theorem others.sec {f f' : Fl} {s : Nat} (h : others f f' s) (j : Nat) (hj : j ≠ s) : f'.sec j = f.sec j := by
  funext i
  unfold Fl.sec
  split
  · exact h _ (by omega)
  · rfl
theorem putC_cases (f : Fl) (s n : Nat) (b : List UInt8) (hw : f.er s < f.wear) (hb : b.length ≤ 245) :
    (∃ f', f.putC s n b = (f', 0) ∧ f'.sec s = (fun i => (msgz n b).getD i 255) ∧ others f f' s ∧ f'.er = erUp f.er s ∧ f'.wear = f.wear ∧ f'.steps = f.steps + 1 + b.length + 11 ∧ f'.down = f.down ∧ (f.there = false → f'.there = false)) ∨
    (f.there = true ∧ ∃ f', f.putC s n b = (f', 11) ∧ ((∃ t, t ≤ 256 ∧ f'.sec s = tornE (f.sec s) t) ∨ ∃ k tb, k < b.length + 11 ∧ f'.sec s = tornP (msgz n b) k tb) ∧ others f f' s ∧ f'.er = erUp f.er s ∧ f'.wear = f.wear ∧ f'.down = true ∧ f'.there = false) := by
  have hml := msgz_length n b
  rcases erase_cases f s hw with ⟨f1, e1, b1, r1, w1, s1, d1, t1⟩ | ⟨h0, f1, t, ht, e1, b1, r1, w1, d1, t1⟩
  · have ep : f.putC s n b = f1.prog (256 * s) (msgz n b) := by unfold Fl.putC; rw [e1, if_pos rfl]
    have hff : ∀ i, 256 * s ≤ i ∧ i < 256 * s + 256 → f1.bs i = 255 := fun i hi => by rw [b1]; exact if_pos hi
    have hoo : ∀ i, i < 256 * s ∨ 256 * s + 256 ≤ i → f1.bs i = f.bs i := fun i hi => by rw [b1]; exact if_neg (by omega)
    rcases prog_cases (msgz n b) f1 (256 * s) with ⟨f2, e2, b2, k2, s2, d2, t2⟩ | ⟨h0, f2, k, tb, hk, e2, b2, k2, d2, t2⟩
    · left
      refine ⟨f2, ep.trans e2, ?_, ?_, k2.er.trans r1, k2.wear.trans w1, ?_, d2.trans d1, fun h => t2 (t1 h)⟩
      · funext i
        unfold Fl.sec
        by_cases hi : i < 256
        · rw [if_pos hi, b2]
          unfold bsAll
          by_cases hl : i < (msgz n b).length
          · rw [if_pos (by omega), hff _ (by omega), u8_ff, Nat.add_sub_cancel_left]
            simp [List.getD, hl]
          · rw [if_neg (by omega), hff _ (by omega)]
            simp [List.getD, hl]
        · rw [if_neg hi]
          simp [List.getD, show ¬ i < (msgz n b).length by omega]
      · intro i hi
        rw [b2]
        unfold bsAll
        rw [if_neg (by omega)]
        exact hoo i hi
      · rw [s2, s1, hml]; push_cast; omega
    · right
      refine ⟨?_, f2, ep.trans e2, .inr ⟨k, tb, by omega, ?_⟩, ?_, k2.er.trans r1, k2.wear.trans w1, d2, t2⟩
      · cases h : f.there with
        | true => rfl
        | false => rw [t1 h] at h0; cases h0
      · funext i
        unfold Fl.sec tornP
        by_cases hi : i < 256
        · rw [if_pos hi, b2]
          unfold bsTorn
          by_cases hl : i < k
          · rw [if_pos (by omega), if_pos hl, hff _ (by omega), u8_ff, Nat.add_sub_cancel_left]
            simp [List.getD, show i < (msgz n b).length by omega]
          · rw [if_neg (by omega), if_neg hl]
            by_cases he : i = k
            · rw [if_pos (by omega), if_pos he, hff _ (by omega), u8_ff]
            · rw [if_neg (by omega), if_neg he, hff _ (by omega)]
        · rw [if_neg hi, if_neg (by omega), if_neg (by omega)]
      · intro i hi
        rw [b2]
        unfold bsTorn
        rw [if_neg (by omega), if_neg (by omega)]
        exact hoo i hi
  · right
    refine ⟨h0, f1, ?_, .inl ⟨t, ht, ?_⟩, ?_, r1, w1, d1, t1⟩
    · unfold Fl.putC; rw [e1, if_neg (show ¬ (11 : Int) = 0 by decide)]
    · funext i
      unfold Fl.sec tornE
      by_cases hi : i < 256
      · rw [if_pos hi, b1]
        by_cases hl : i < t
        · rw [if_pos hl]; exact if_pos (by omega)
        · rw [if_neg hl]; show (if _ then _ else _) = if _ then _ else _; rw [if_pos hi, if_neg (by omega)]
      · rw [if_neg hi, if_neg (by omega)]; show _ = if _ then _ else _; rw [if_neg hi]
    · intro i hi
      rw [b1]
      exact if_neg (by omega)
end Go.Proofs.Ytekaoodagaplmaa
