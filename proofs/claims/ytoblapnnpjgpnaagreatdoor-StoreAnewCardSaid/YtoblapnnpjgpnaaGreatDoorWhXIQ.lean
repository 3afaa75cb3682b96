/- What is known of a wheel, whatever is added. -/
import Derived.Test.YtoblapnnpjgpnaaGreatDoorWhAwQ
namespace Go.Proofs.YtoblapnnpjgpnaaGreatDoor
open Go.RowKit
/-- what is known of a wheel behind k records more than were found -/
structure XI (k : Nat) (x : Wh) : Prop where
  ok : x.Ok
  len : ∀ p ∈ x.L, p.2.length = x.size
  many : x.L.length ≤ 150 + k
theorem XI.more {k j : Nat} {x : Wh} (h : XI k x) (hj : k ≤ j) : XI j x := ⟨h.ok, h.len, by have := h.many; omega⟩
theorem XI.opW (f : Fl) (gen size k : Nat) (hg : gen < 4294967296) (h1 : 1 ≤ size) (h2 : size ≤ 16) : XI k (opW f gen size 8) :=
  ⟨opW_ok f gen size hg h1 h2, fun p hp => by rw [opW_size]; exact opW_reclen f gen size h1 h2 8 (by omega) p hp, by have := opW_len f gen size h1 h2 8; omega⟩
theorem XI.add {k : Nat} {x : Wh} (h : XI k x) (hk : k ≤ 100) (f : Fl) (id : Nat) (d : List UInt8) : XI (k + 1) (x.add f id d).1 := by
  have h0 := h.more (show k ≤ k + 1 by omega)
  have hmo := h.ok.next
  have hpp : 0 < x.per := by have := per_bounds h.ok.size1 h.ok.size2; show 0 < 256 / (x.size + 13); omega
  unfold Wh.add
  split
  · rename_i hd
    split
    · exact h0
    · rename_i hnf
      have hq : x.next / x.per < 8 := Nat.div_lt_of_lt_mul (by rw [Nat.mul_comm]; omega)
      split
      · exact h0
      · split
        · split
          · refine ⟨⟨h.ok.gen, h.ok.size1, h.ok.size2, ?_, ⟨?_, ?_⟩, ?_⟩, ?_, ?_⟩
            · show x.next + 1 ≤ 8 * x.per; omega
            · exact Int.le_trans (by decide) (Int.natCast_nonneg _)
            · exact Int.ofNat_lt.2 hq
            · show (x.L ++ [(id, d)]).length ≤ 1000
              have := h.many; simp; omega
            · intro p hp
              rcases List.mem_append.1 hp with hp | hp
              · exact h.len p hp
              · obtain rfl := List.mem_singleton.1 hp; exact hd
            · show (x.L ++ [(id, d)]).length ≤ _
              have := h.many; simp; omega
          · exact ⟨⟨h.ok.gen, h.ok.size1, h.ok.size2, h.ok.next, ⟨Int.le_trans (by decide) (Int.natCast_nonneg _), Int.ofNat_lt.2 hq⟩, h.ok.many⟩, h0.len, h0.many⟩
        · exact h0
  · exact h0
end Go.Proofs.YtoblapnnpjgpnaaGreatDoor
