/- Cell: what a copy's bytes are, what a write leaves of them: mathematics. -/
import Derived.Test.YtekaoodagaplmaaCellRead
import Derived.Test.YtekaoodagaplmaaFlChange
import Derived.Test.YtekaoodagaplmaaFlashFuse
namespace Go.Proofs.Ytekaoodagaplmaa
open Go.RowKit
def hd6 (n len : Nat) : List UInt8 := CrcM.four n ++ [UInt8.ofNat (len / 256), UInt8.ofNat len]
def msg (n : Nat) (b : List UInt8) : List UInt8 := (hd6 n b.length ++ b) ++ CrcM.four (CrcM.sum (hd6 n b.length ++ b))
def msgz (n : Nat) (b : List UInt8) : List UInt8 := msg n b ++ [0]
theorem hd6_length (n len : Nat) : (hd6 n len).length = 6 := by simp [hd6, CrcM.four]
theorem msg_length (n : Nat) (b : List UInt8) : (msg n b).length = b.length + 10 := by simp [msg, hd6, CrcM.four]
theorem msgz_length (n : Nat) (b : List UInt8) : (msgz n b).length = b.length + 11 := by simp [msgz, msg_length]
theorem msg_right (n : Nat) (b : List UInt8) : isRight (msg n b) := CrcM.put_right _
def sl (β : Nat → UInt8) : List UInt8 := (List.range 256).map β
theorem sl_length (β : Nat → UInt8) : (sl β).length = 256 := by simp [sl]
theorem sl_getD (β : Nat → UInt8) (i : Nat) (h : i < 256) : (sl β).getD i 0 = β i := by simp [sl, List.getD, h]
theorem sl_take {β : Nat → UInt8} {m : List UInt8} (h : ∀ i, i < m.length → β i = m.getD i 255) (hm : m.length ≤ 256) : (sl β).take m.length = m := by
  apply List.ext_getElem
  · simp [sl]; omega
  · intro i h1 h2
    simp only [sl, List.getElem_take, List.getElem_map, List.getElem_range]
    rw [h i h2]; simp [List.getD, h2]
theorem sl_split {β : Nat → UInt8} {m : List UInt8} (h : ∀ i, i < m.length → β i = m.getD i 255) (hm : m.length ≤ 256) : ∃ r, sl β = m ++ r :=
  ⟨(sl β).drop m.length, by rw [← sl_take h hm]; simp only [List.length_take, sl_length]; rw [Nat.min_eq_left hm, List.take_append_drop]⟩
/-- a sector that holds b whole, under the number n -/
def SecOk (β : Nat → UInt8) (n : Nat) (b : List UInt8) : Prop := n < 16777216 ∧ b.length ≤ 245 ∧ ∀ i, i < b.length + 11 → β i = (msgz n b).getD i 255
def plenB (β : Nat → UInt8) : Nat := (β 4).toNat * 256 + (β 5).toNat
def Dead (β : Nat → UInt8) : Prop := 245 < plenB β ∨ β (10 + plenB β) ≠ 0
def Hurt (β : Nat → UInt8) : Prop := ∃ n b, n < 16777216 ∧ b.length ≤ 245 ∧ β 0 = 255 ∧ ∀ i, 4 ≤ i → i < b.length + 11 → β i = (msgz n b).getD i 255
theorem plen_sl (β : Nat → UInt8) : plen (sl β) = plenB β := by
  unfold plen plenB; rw [sl_getD β 4 (by omega), sl_getD β 5 (by omega)]
theorem Dead.no {β : Nat → UInt8} (h : Dead β) : ¬ partOk (sl β) := by
  rintro ⟨h1, h2, _⟩
  rw [plen_sl] at h1 h2
  rw [sl_getD β _ (by omega)] at h2
  rcases h with h | h
  · omega
  · exact h h2
theorem msgz_six (n : Nat) (b : List UInt8) : msgz n b = UInt8.ofNat (n / 16777216) :: UInt8.ofNat (n / 65536) :: UInt8.ofNat (n / 256) :: UInt8.ofNat n :: UInt8.ofNat (b.length / 256) :: UInt8.ofNat b.length :: (b ++ (CrcM.four (CrcM.sum (hd6 n b.length ++ b)) ++ [0])) := by
  simp [msgz, msg, hd6, CrcM.four]
theorem len8 (k : Nat) (h : k ≤ 245) : (UInt8.ofNat (k / 256)).toNat * 256 + (UInt8.ofNat k).toNat = k := by
  simp only [UInt8.toNat_ofNat']
  omega
theorem plenB_of {β : Nat → UInt8} {n : Nat} {b : List UInt8} (hb : b.length ≤ 245) (h4 : β 4 = (msgz n b).getD 4 255) (h5 : β 5 = (msgz n b).getD 5 255) : plenB β = b.length := by
  unfold plenB
  rw [h4, h5, msgz_six]
  exact len8 _ hb
theorem SecOk.ok {β : Nat → UInt8} {n : Nat} {b : List UInt8} (h : SecOk β n b) : partOk (sl β) ∧ partN (sl β) = n ∧ partD (sl β) = b ∧ plen (sl β) = b.length := by
  obtain ⟨hn, hb, hi⟩ := h
  have hp : plen (sl β) = b.length := by rw [plen_sl]; exact plenB_of hb (hi 4 (by omega)) (hi 5 (by omega))
  obtain ⟨r, hr⟩ := sl_split (β := β) (m := msgz n b) (by rw [msgz_length]; exact hi) (by rw [msgz_length]; omega)
  have h0 : β (10 + b.length) = 0 := by
    rw [hi _ (by omega)]
    unfold msgz
    simp [List.getD, msg_length, show 10 + b.length = b.length + 10 by omega]
  have hm : sl β = msg n b ++ (0 :: r) := by rw [hr]; simp [msgz]
  refine ⟨⟨by rw [hp]; exact hb, by rw [hp, sl_getD β _ (by omega)]; exact h0, ?_⟩, ?_, ?_, hp⟩
  · rw [hp, hm, List.take_left' (by rw [msg_length]; omega)]
    exact msg_right n b
  · unfold partN
    rw [hm]
    have e : (msg n b ++ 0 :: r).take 4 = CrcM.four n := by simp [msg, hd6, CrcM.four]
    rw [e, CrcM.number_four n (by omega)]
  · unfold partD
    rw [hp, hm]
    have e : msg n b ++ 0 :: r = hd6 n b.length ++ (b ++ (CrcM.four (CrcM.sum (hd6 n b.length ++ b)) ++ 0 :: r)) := by simp [msg]
    rw [e, List.take_append, List.drop_append, List.length_take, hd6_length]
    simp [hd6_length]
theorem four_lt (n : Nat) (h : n < 16777216) : CrcM.four n = [0, UInt8.ofNat (n / 65536), UInt8.ofNat (n / 256), UInt8.ofNat n] := by
  unfold CrcM.four
  rw [show n / 16777216 = 0 by omega]; rfl
theorem Hurt.no {β : Nat → UInt8} (h : Hurt β) : ¬ partOk (sl β) := by
  obtain ⟨n, b, hn, hb, h255, hi⟩ := h
  rintro ⟨_, _, h3⟩
  have hp : plen (sl β) = b.length := by rw [plen_sl]; exact plenB_of hb (hi 4 (by omega) (by omega)) (hi 5 (by omega) (by omega))
  rw [hp] at h3
  -- the bytes as they should be, but for the first four
  obtain ⟨m, hm⟩ : ∃ m, m = [UInt8.ofNat (b.length / 256), UInt8.ofNat b.length] ++ b := ⟨_, rfl⟩
  have hml : m.length = b.length + 2 := by rw [hm]; simp
  have hmsg : msg n b = (CrcM.four n ++ m) ++ CrcM.four (CrcM.sum (CrcM.four n ++ m)) := by unfold msg hd6; rw [hm]; simp
  have hr0 : CrcM.sum (CrcM.four n ++ m) = CrcM.number (CrcM.four (CrcM.sum (CrcM.four n ++ m))) := (CrcM.number_four _ (CrcM.sum_lt _)).symm
  obtain ⟨c, hc⟩ : ∃ c, c = CrcM.four (CrcM.sum (CrcM.four n ++ m)) := ⟨_, rfl⟩
  have hcl : c.length = 4 := by rw [hc]; rfl
  rw [← hc] at hr0 hmsg
  have hL : (sl β).take (10 + b.length) = ([β 0, β 1, β 2, β 3] ++ m) ++ c := by
    have e : (sl β).take (([β 0, β 1, β 2, β 3] ++ m) ++ c).length = ([β 0, β 1, β 2, β 3] ++ m) ++ c := by
      refine sl_take (fun i hil => ?_) (by simp [hml, hcl]; omega)
      match i with
      | 0 => rfl
      | 1 => rfl
      | 2 => rfl
      | 3 => rfl
      | i + 4 =>
        simp only [List.length_append, List.length_cons, List.length_nil, hml, hcl] at hil
        rw [hi (i + 4) (by omega) (by omega)]
        unfold msgz
        rw [hmsg, four_lt n hn]
        simp only [List.cons_append, List.nil_append, List.getD_cons_succ, List.append_assoc]
        have hlt : i < (m ++ c).length := by simp [hml, hcl]; omega
        rw [← List.append_assoc]
        simp only [List.getD, List.getElem?_append_left hlt]
    rw [← e]
    congr 1
    simp [hml, hcl]; omega
  rw [hL] at h3
  have h4 := (CrcM.right_iff _ c hcl).1 h3
  rw [← hr0] at h4
  have h5 := (CrcM.sum_inj [] [β 0, β 1, β 2, β 3] (CrcM.four n) m).1 (by simpa using h4)
  rw [four_lt n hn] at h5
  obtain ⟨h6, _⟩ := CrcM.reg4_diff _ _ _ _ _ _ _ _ _ h5
  rw [h255] at h6
  exact absurd h6 (by decide)
/-- an erasure that is torn behind t bytes -/
def tornE (β : Nat → UInt8) (t : Nat) : Nat → UInt8 := fun i => if i < t then 255 else β i
theorem dead_long {β : Nat → UInt8} (h : β 4 = 255) : Dead β := by
  left; unfold plenB; rw [h]; show 245 < 255 * 256 + _; omega
theorem Dead.torn {β : Nat → UInt8} (h : Dead β) (t : Nat) : Dead (tornE β t) := by
  by_cases ht : t ≤ 4
  · have e : plenB (tornE β t) = plenB β := by
      unfold plenB tornE; rw [if_neg (by omega), if_neg (by omega)]
    unfold Dead
    rw [e]
    have e2 : tornE β t (10 + plenB β) = β (10 + plenB β) := by unfold tornE; rw [if_neg (by omega)]
    rw [e2]; exact h
  · exact dead_long (by unfold tornE; rw [if_pos (by omega)])
theorem Hurt.torn {β : Nat → UInt8} (h : Hurt β) (t : Nat) : Hurt (tornE β t) ∨ Dead (tornE β t) := by
  by_cases ht : t ≤ 4
  · left
    obtain ⟨n, b, hn, hb, h255, hi⟩ := h
    refine ⟨n, b, hn, hb, ?_, fun i h4 hl => ?_⟩
    · unfold tornE; split
      · rfl
      · exact h255
    · unfold tornE; rw [if_neg (by omega)]; exact hi i h4 hl
  · exact .inr (dead_long (by unfold tornE; rw [if_pos (by omega)]))
theorem SecOk.torn {β : Nat → UInt8} {n : Nat} {b : List UInt8} (h : SecOk β n b) (t : Nat) : SecOk (tornE β t) n b ∨ Hurt (tornE β t) ∨ Dead (tornE β t) := by
  by_cases h0 : t = 0
  · left
    subst h0
    have e : tornE β 0 = β := by funext i; unfold tornE; rw [if_neg (by omega)]
    rw [e]; exact h
  · by_cases ht : t ≤ 4
    · right; left
      obtain ⟨hn, hb, hi⟩ := h
      refine ⟨n, b, hn, hb, ?_, fun i h4 hl => ?_⟩
      · unfold tornE; rw [if_pos (by omega)]
      · unfold tornE; rw [if_neg (by omega)]; exact hi i hl
    · exact .inr (.inr (dead_long (by unfold tornE; rw [if_pos (by omega)])))
/-- a program of m over an erased sector that is torn at k -/
def tornP (m : List UInt8) (k : Nat) (tb : UInt8) : Nat → UInt8 := fun i => if i < k then m.getD i 255 else if i = k then m.getD k 0 ||| tb else 255
theorem tornP_any (n : Nat) (b : List UInt8) (k : Nat) (tb : UInt8) (hn : n < 16777216) (hb : b.length ≤ 245) (hk : k < b.length + 11) : SecOk (tornP (msgz n b) k tb) n b ∨ Dead (tornP (msgz n b) k tb) := by
  have hlast : ∀ d, (msgz n b).getD (b.length + 10) d = 0 := fun d => by unfold msgz; simp [List.getD, msg_length]
  by_cases h5 : k ≤ 4
  · right; left
    unfold plenB
    have : tornP (msgz n b) k tb 5 = 255 := by unfold tornP; rw [if_neg (by omega), if_neg (by omega)]
    rw [this]; show 245 < _ + 255; omega
  · by_cases h6 : k = 5
    · right
      unfold Dead
      right
      unfold tornP
      rw [if_neg (by omega), if_neg (by omega)]
      decide
    · have hp : plenB (tornP (msgz n b) k tb) = b.length := plenB_of (n := n) hb (by unfold tornP; rw [if_pos (by omega)]) (by unfold tornP; rw [if_pos (by omega)])
      by_cases hk10 : k = b.length + 10
      · have hm : tornP (msgz n b) k tb (10 + b.length) = tb := by
          unfold tornP
          rw [if_neg (by omega), if_pos (by omega), hk10, hlast]
          apply UInt8.toNat.inj
          simp
        by_cases ht : tb = 0
        · left
          refine ⟨hn, hb, fun i hi => ?_⟩
          by_cases e : i < k
          · unfold tornP; rw [if_pos e]
          · have e2 : i = 10 + b.length := by omega
            subst e2
            rw [hm, ht, show 10 + b.length = b.length + 10 by omega, hlast]
        · right; right
          rw [hp, hm]; exact ht
      · right; right
        rw [hp]
        unfold tornP
        rw [if_neg (by omega), if_neg (by omega)]
        decide
theorem whole_any (n : Nat) (b : List UInt8) (hn : n < 16777216) (hb : b.length ≤ 245) : SecOk (fun i => (msgz n b).getD i 255) n b := ⟨hn, hb, fun _ _ => rfl⟩
theorem dead_blank {β : Nat → UInt8} (h : ∀ i, i < 256 → β i = 255) : Dead β := dead_long (h 4 (by omega))
end Go.Proofs.Ytekaoodagaplmaa
