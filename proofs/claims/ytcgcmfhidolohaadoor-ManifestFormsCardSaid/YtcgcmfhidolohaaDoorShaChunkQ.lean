/- SHA-256 by chunks of 64 bytes: the same as byte by byte. -/
import Derived.Test.YtcgcmfhidolohaaDoorShaMathQ
namespace Go.Proofs.YtcgcmfhidolohaaDoor.Sha
theorem put_part (st : S8) (bl c : List UInt8) (hb : bl.length = 64) (hc : c.length = 64) : ∀ j, j < 64 → (H.mk st bl 0).take (c.take j) = ⟨st, c.take j ++ bl.drop j, j⟩
  | 0, _ => by simp [H.take]
  | j + 1, hj => by
    have ih := put_part st bl c hb hc j (by omega)
    have hx : c.take (j + 1) = c.take j ++ [c[j]'(by omega)] := List.take_succ_eq_append_getElem (by omega)
    rw [hx, take_append, ih]
    show H.put ⟨st, c.take j ++ bl.drop j, j⟩ (c[j]'(by omega)) = _
    unfold H.put
    rw [if_neg (by show ¬ j + 1 = 64; omega)]
    congr 1
    have hl : (c.take j).length = j := by rw [List.length_take]; omega
    show (c.take j ++ bl.drop j).set j (c[j]'(by omega)) = _
    rw [List.set_append_right _ _ (by omega), hl, Nat.sub_self, List.drop_eq_getElem_cons (by omega), List.set_cons_zero, List.append_assoc]
    rfl
theorem put_chunk (st : S8) (bl c : List UInt8) (hb : bl.length = 64) (hc : c.length = 64) : (H.mk st bl 0).take c = ⟨mix st c, c, 0⟩ := by
  have h63 := put_part st bl c hb hc 63 (by omega)
  have hx : c = c.take 63 ++ [c[63]'(by omega)] := by
    have h1 : c.take 64 = c.take 63 ++ [c[63]'(by omega)] := List.take_succ_eq_append_getElem (by omega)
    rw [List.take_of_length_le (by omega)] at h1
    exact h1
  have e : (H.mk st bl 0).take c = ((H.mk st bl 0).take (c.take 63)).put (c[63]'(by omega)) := by
    conv => lhs; rw [hx]
    rw [take_append]; rfl
  rw [e, h63]
  unfold H.put
  rw [if_pos (by show 63 + 1 = 64; rfl)]
  have hl : (c.take 63).length = 63 := by rw [List.length_take]; omega
  have hs : (c.take 63 ++ bl.drop 63).set 63 (c[63]'(by omega)) = c := by
    conv => rhs; rw [hx]
    rw [List.set_append_right _ _ (by omega), hl, Nat.sub_self, List.drop_eq_getElem_cons (by omega), List.set_cons_zero, List.drop_of_length_le (by omega)]
  show H.mk (mix st ((c.take 63 ++ bl.drop 63).set 63 _)) ((c.take 63 ++ bl.drop 63).set 63 _) 0 = _
  rw [hs]
/-- chunk c of a text -/
def chunk (p : List UInt8) (c : Nat) : List UInt8 := (p.drop (64 * c)).take 64
/-- the state behind c chunks -/
def stN (p : List UInt8) : Nat → S8
  | 0 => first
  | c + 1 => mix (stN p c) (chunk p c)
theorem chunk_length (p : List UInt8) (c : Nat) (h : 64 * c + 64 ≤ p.length) : (chunk p c).length = 64 := by
  unfold chunk; rw [List.length_take, List.length_drop]; omega
theorem chunks_take (p : List UInt8) : ∀ c, 64 * c ≤ p.length → ∃ bl : List UInt8, bl.length = 64 ∧ start.take (p.take (64 * c)) = ⟨stN p c, bl, 0⟩
  | 0, _ => ⟨List.replicate 64 0, by simp, rfl⟩
  | c + 1, h => by
    obtain ⟨bl, hb, e⟩ := chunks_take p c (by omega)
    refine ⟨chunk p c, chunk_length p c (by omega), ?_⟩
    rw [show 64 * (c + 1) = 64 * c + 64 by omega, List.take_add, take_append, e]
    exact put_chunk _ _ _ hb (chunk_length p c (by omega))
/-- the text, filled up -/
def filled (l : List UInt8) : List UInt8 := l ++ 0x80 :: List.replicate (noughts (l.length % 64)) 0 ++ len8 (l.length * 8)
theorem filled_length (l : List UInt8) : (filled l).length = 64 * ((l.length + 72) / 64) := by
  unfold filled noughts len8
  simp only [List.length_append, List.length_cons, List.length_replicate, List.length_nil]
  omega
theorem wait_take (l : List UInt8) : ∀ h : H, h.wait < 64 → (h.take l).wait = (h.wait + l.length) % 64 := by
  induction l with
  | nil => intro h hk; show h.wait = _; rw [List.length_nil, Nat.add_zero, Nat.mod_eq_of_lt hk]
  | cons x l ih =>
    intro h hk
    show ((h.put x).take l).wait = _
    have hp := put_wait h x
    rw [ih _ (by rw [hp]; split <;> omega), hp, List.length_cons]
    split <;> omega
theorem D_filled (l : List UInt8) : D l = (stN (filled l) ((l.length + 72) / 64)).bytes := by
  have hw : (start.take l).wait = l.length % 64 := by
    have := wait_take l start (by decide)
    rw [this]
    show (0 + _) % 64 = _
    rw [Nat.zero_add]
  have e : (start.take l).done l.length = start.take (filled l) := by
    unfold H.done filled
    rw [hw, take_append, take_append]
    rfl
  obtain ⟨bl, _, e2⟩ := chunks_take (filled l) ((l.length + 72) / 64) (by rw [filled_length]; exact Nat.le_refl _)
  rw [← filled_length, List.take_of_length_le (Nat.le_refl _)] at e2
  unfold D
  rw [e, e2]
end Go.Proofs.YtcgcmfhidolohaaDoor.Sha
