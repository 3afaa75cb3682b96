/- Wheel: Add whatever is handed in; what awake sees. -/
import Derived.Test.YtoblapnnpjgpnaaGreatDoorWhRecsQ
import Derived.Test.YtoblapnnpjgpnaaGreatDoorWhMathQ
import Derived.Test.YtoblapnnpjgpnaaGreatDoorZGQ
import Derived.Test.YtoblapnnpjgpnaaGreatDoorZIQ
import Derived.Test.YtoblapnnpjgpnaaGreatDoorZAQ
namespace Go.Proofs.YtoblapnnpjgpnaaGreatDoor
open Go.RowKit
/-- a wheel over the flash in block gf, both made since w0 -/
structure WO (w0 : World) (P : Nat → Prop) (gw gf : Nat) (h : Wh) (f : Fl) (K : Int) (W : World) : Prop where
  wh : WhAt P gw gf h W
  fl : FlAt W gf f
  ok : f.Ok K
  base : w0.heap.size ≤ gf
  P : ∀ b, P b → w0.heap.size ≤ b ∧ b < W.heap.size
  b : Below w0.heap.size w0 W
theorem opW_ok (f : Fl) (gen size : Nat) (hg : gen < 4294967296) (h1 : 1 ≤ size) (h2 : size ≤ 16) : (opW f gen size 8).Ok := by
  have hl := opW_len f gen size h1 h2 8
  have hn := opW_next f gen size 8
  have hp := per_bounds h1 h2
  refine ⟨by rw [opW_gen]; exact hg, by rw [opW_size]; exact h1, by rw [opW_size]; exact h2, ?_, ?_, by omega⟩
  · unfold Wh.per; rw [opW_size]; exact hn
  · rcases opW_state f gen size h1 h2 with ⟨a, _⟩ | ⟨r, i, a1, _, _, _, _, a6, _⟩
    · rw [a]; exact ⟨by show (-1 : Int) ≤ -1; omega, by show (-1 : Int) < 8; omega⟩
    · rw [a6]; omega
theorem opW_reclen (f : Fl) (gen size : Nat) (h1 : 1 ≤ size) (h2 : size ≤ 16) : ∀ k, k ≤ 8 → ∀ p ∈ (opW f gen size k).L, p.2.length = size
  | 0, _, p, h => by cases h
  | k + 1, hk, p, h => by
    have hp := per_bounds h1 h2
    cases hc : cntB f gen size k with
    | false => rw [opW_no hc] at h; exact opW_reclen f gen size h1 h2 k (by omega) p h
    | true =>
      rw [opW_yes hc] at h
      rcases List.mem_append.1 h with h | h
      · exact opW_reclen f gen size h1 h2 k (by omega) p h
      · have key : ∀ m, m ≤ 256 / (size + 13) → ∀ p ∈ recsUp (opW f gen size k).gen (opW f gen size k).wide (secB f k) m, p.2.length = size := by
          intro m
          induction m with
          | zero => intro _ p h; cases h
          | succ m ih =>
            intro hm p h
            rcases List.mem_append.1 h with h | h
            · exact ih (by omega) p h
            · split at h
              · obtain rfl := List.mem_singleton.1 h
                have hw : (opW f gen size k).wide = size + 13 := by unfold Wh.wide; rw [opW_size]
                rw [hw]
                have hl : (plAt (secB f k) (size + 13) m).length = size + 13 := plAt_length (by rw [secB_length]; exact Nat.le_trans (Nat.mul_le_mul_right _ hm) hp.2.2)
                unfold plR
                simp [hl]
              · cases h
        exact key _ (Nat.le_refl _) p h
theorem blank_new {f : Fl} {gen size : Nat} (h2 : size ≤ 16) (h : ∀ i, 1536 ≤ i → i < 3584 → f.bs i = 255) : opW f gen size 8 = ⟨gen, size, [], -1, 0⟩ :=
  opW_skip 8 (Nat.zero_le _) fun s _ hs => by
    unfold cntB
    rw [plAt_sub f s _ 0 (by omega)]
    refine blank_no (allFF_of fun q hq => ?_) (by rw [f.sub_length]; omega)
    rw [f.sub_length] at hq
    rw [sub_get _ _ _ _ hq]
    exact h _ (by omega) (by omega)
theorem Fl.Ok.addW {f : Fl} {k : Int} (h : f.Ok k) (x : Wh) (id : Nat) (d : List UInt8) (hd : d.length ≤ 300) : (x.add f id d).2.1.Ok (k + 400) := by
  unfold Wh.add
  split
  · split
    · exact h.more (by omega)
    · split
      · exact h.more (by omega)
      · have h1 := h.prepW x.ready (x.next / x.per)
        split
        · have h3 := h1.prog (wrec x.gen id d) (x.at_ x.next)
          have hl := wrec_length x.gen id d
          split
          · exact h3.more (by rw [hl]; push_cast; omega)
          · exact h3.more (by rw [hl]; push_cast; omega)
        · exact h1.more (by omega)
  · exact h.more (by omega)
theorem WO.below {w0 : World} {P : Nat → Prop} {gw gf : Nat} {h : Wh} {f : Fl} {K : Int} {W W' : World} (a : WO w0 P gw gf h f K W) (hb : Below W.heap.size W W') : WO w0 P gw gf h f K W' :=
  ⟨a.wh.below hb, a.fl.below hb, a.ok, a.base, fun b hp => ⟨(a.P b hp).1, Nat.lt_of_lt_of_le (a.P b hp).2 hb.size⟩, a.b.trans (hb.mono a.b.size)⟩
end Go.Proofs.YtoblapnnpjgpnaaGreatDoor
namespace Go.Proofs.YtoblapnnpjgpnaaGreatDoor
open Go.RowKit
/-- what is known of a wheel behind k records more than were found -/
structure XI (k : Nat) (x : Wh) : Prop where
  ok : x.Ok
  len : ∀ p ∈ x.L, p.2.length = x.size
  many : x.L.length ≤ 150 + k
theorem XI.more {k j : Nat} {x : Wh} (h : XI k x) (hj : k ≤ j) : XI j x := ⟨h.ok, h.len, by have := h.many; omega⟩
theorem XI.opW (f : Fl) (gen size k : Nat) (hg : gen < 4294967296) (h1 : 1 ≤ size) (h2 : size ≤ 16) : XI k (opW f gen size 8) :=
  ⟨opW_ok f gen size hg h1 h2, fun p hp => by rw [opW_size]; exact opW_reclen f gen size h1 h2 8 (by omega) p hp, by have := opW_len f gen size h1 h2 8; omega⟩
theorem XI.add {k : Nat} {x : Wh} (h : XI k x) (hk : k ≤ 100) (f : Fl) (id : Nat) (d : List UInt8) : XI (k + 1) (x.add f id d).1 := by
  have h0 := h.more (show k ≤ k + 1 by omega)
  have hmo := h.ok.next
  have hpp : 0 < x.per := by have := per_bounds h.ok.size1 h.ok.size2; show 0 < 256 / (x.size + 13); omega
  unfold Wh.add
  split
  · rename_i hd
    split
    · exact h0
    · rename_i hnf
      have hq : x.next / x.per < 8 := Nat.div_lt_of_lt_mul (by rw [Nat.mul_comm]; omega)
      split
      · exact h0
      · split
        · split
          · refine ⟨⟨h.ok.gen, h.ok.size1, h.ok.size2, ?_, ⟨?_, ?_⟩, ?_⟩, ?_, ?_⟩
            · show x.next + 1 ≤ 8 * x.per; omega
            · exact Int.le_trans (by decide) (Int.natCast_nonneg _)
            · exact Int.ofNat_lt.2 hq
            · show (x.L ++ [(id, d)]).length ≤ 1000
              have := h.many; simp; omega
            · intro p hp
              rcases List.mem_append.1 hp with hp | hp
              · exact h.len p hp
              · obtain rfl := List.mem_singleton.1 hp; exact hd
            · show (x.L ++ [(id, d)]).length ≤ _
              have := h.many; simp; omega
          · exact ⟨⟨h.ok.gen, h.ok.size1, h.ok.size2, h.ok.next, ⟨Int.le_trans (by decide) (Int.natCast_nonneg _), Int.ofNat_lt.2 hq⟩, h.ok.many⟩, h0.len, h0.many⟩
        · exact h0
  · exact h0
end Go.Proofs.YtoblapnnpjgpnaaGreatDoor
