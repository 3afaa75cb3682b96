/- Wheel: its places and records, what is opened, what is added, as data. -/
import Derived.Test.YtekaoodagaplmaaCrcPut
import Derived.Test.YtekaoodagaplmaaFlCase
namespace Go.Proofs.Ytekaoodagaplmaa
open Go.RowKit
instance rightDec (l : List UInt8) : Decidable (CrcM.right l) := by unfold CrcM.right; infer_instance
/-- a place's bytes: is it whole; its record -/
def plB (gen : Nat) (p : List UInt8) : Bool := decide (CrcM.right (p.take (p.length - 1)) ∧ p.getD (p.length - 1) 0 = 0 ∧ CrcM.number (p.take 4) = gen)
def plR (p : List UInt8) : Nat × List UInt8 := (CrcM.number ((p.drop 4).take 4), (p.take (p.length - 5)).drop 8)
/-- place i of a sector's bytes -/
def plAt (b : List UInt8) (wide i : Nat) : List UInt8 := (b.drop (i * wide)).take wide
theorem plAt_length {b : List UInt8} {wide i : Nat} (h : (i + 1) * wide ≤ b.length) : (plAt b wide i).length = wide := by
  unfold plAt
  rw [List.length_take, List.length_drop]
  rw [Nat.succ_mul] at h
  omega
def recsUp (gen wide : Nat) (b : List UInt8) : Nat → List (Nat × List UInt8)
  | 0 => []
  | i + 1 => recsUp gen wide b i ++ (if plB gen (plAt b wide i) then [plR (plAt b wide i)] else [])
def nextUp (wide base n0 : Nat) (b : List UInt8) : Nat → Nat
  | 0 => n0
  | i + 1 => if allFF (plAt b wide i) then nextUp wide base n0 b i else base + i + 1
structure Wh where
  gen : Nat
  size : Nat
  L : List (Nat × List UInt8)
  ready : Int
  next : Nat
def Wh.wide (h : Wh) : Nat := h.size + 13
def Wh.per (h : Wh) : Nat := 256 / (h.size + 13)
def Wh.look (h : Wh) (s : Nat) (b : List UInt8) : Wh :=
  if plB h.gen (plAt b h.wide 0) then { h with L := h.L ++ recsUp h.gen h.wide b h.per, ready := s, next := nextUp h.wide (s * h.per) h.next b h.per } else h
/-- behind k sectors -/
def opW (f : Fl) (gen size : Nat) : Nat → Wh
  | 0 => ⟨gen, size, [], -1, 0⟩
  | k + 1 => (opW f gen size k).look k (f.sub (256 * (6 + k)) 256)
theorem Wh.look_gen (h : Wh) (s : Nat) (b : List UInt8) : (h.look s b).gen = h.gen := by unfold Wh.look; split <;> rfl
theorem Wh.look_size (h : Wh) (s : Nat) (b : List UInt8) : (h.look s b).size = h.size := by unfold Wh.look; split <;> rfl
theorem opW_gen (f : Fl) (gen size : Nat) : ∀ k, (opW f gen size k).gen = gen
  | 0 => rfl
  | k + 1 => (Wh.look_gen _ _ _).trans (opW_gen f gen size k)
theorem opW_size (f : Fl) (gen size : Nat) : ∀ k, (opW f gen size k).size = size
  | 0 => rfl
  | k + 1 => (Wh.look_size _ _ _).trans (opW_size f gen size k)
theorem per_bounds {size : Nat} (h1 : 1 ≤ size) (h2 : size ≤ 16) : 8 ≤ 256 / (size + 13) ∧ 256 / (size + 13) ≤ 18 ∧ 256 / (size + 13) * (size + 13) ≤ 256 := by
  have h3 := Nat.div_mul_le_self 256 (size + 13)
  refine ⟨?_, ?_, h3⟩
  · rw [Nat.le_div_iff_mul_le (by omega)]; omega
  · exact Nat.le_of_lt_succ (Nat.div_lt_of_lt_mul (by omega))
theorem nextUp_le (wide base n0 : Nat) (b : List UInt8) (M : Nat) : ∀ k, n0 ≤ M → base + k ≤ M → nextUp wide base n0 b k ≤ M
  | 0, h, _ => h
  | k + 1, h, hk => by
    unfold nextUp
    split
    · exact nextUp_le wide base n0 b M k h (by omega)
    · omega
theorem opW_next (f : Fl) (gen size : Nat) : ∀ k, (opW f gen size k).next ≤ k * (256 / (size + 13))
  | 0 => Nat.zero_le _
  | k + 1 => by
    have ih := opW_next f gen size k
    have e : (k + 1) * (256 / (size + 13)) = k * (256 / (size + 13)) + 256 / (size + 13) := Nat.succ_mul _ _
    have es := opW_size f gen size k
    show ((opW f gen size k).look k (f.sub (256 * (6 + k)) 256)).next ≤ _
    generalize opW f gen size k = h at *
    unfold Wh.look
    split
    · refine nextUp_le _ _ _ _ _ _ (by rw [e]; exact Nat.le_trans ih (Nat.le_add_right _ _)) ?_
      unfold Wh.per
      rw [es, e]
      exact Nat.le_refl _
    · rw [e]; exact Nat.le_trans ih (Nat.le_add_right _ _)
/-- the bytes of a record, the mark among them -/
def wmsg (gen id : Nat) (d : List UInt8) : List UInt8 := CrcM.four gen ++ (CrcM.four id ++ d)
def wrec (gen id : Nat) (d : List UInt8) : List UInt8 := CrcM.put (wmsg gen id d) ++ [0]
theorem wmsg_length (gen id : Nat) (d : List UInt8) : (wmsg gen id d).length = d.length + 8 := by simp [wmsg, CrcM.four]
theorem wrec_length (gen id : Nat) (d : List UInt8) : (wrec gen id d).length = d.length + 13 := by simp [wrec, CrcM.put_length, wmsg_length]
/-- prepare: sector s of the wheel, erased if it has to be -/
def Fl.prepW (f : Fl) (ready : Int) (s : Nat) : Fl × Int :=
  if (s : Int) = ready then (f, 0) else if allFF (f.sub (256 * (6 + s)) 256) then (f, 0) else f.erase (6 + s)
theorem prepW_down (f : Fl) (ready : Int) (s : Nat) (h : (f.prepW ready s).2 = 0) : (f.prepW ready s).1.down = f.down := by
  unfold Fl.prepW at h ⊢
  split at h
  · rename_i h1; rw [if_pos h1]
  · rename_i h1
    rw [if_neg h1]
    split at h
    · rename_i h2; rw [if_pos h2]
    · rename_i h2; rw [if_neg h2]; exact erase_down_same f _ h
theorem Fl.Ok.prepW {f : Fl} {k : Int} (h : f.Ok k) (ready : Int) (s : Nat) : (f.prepW ready s).1.Ok (k + 1) := by
  unfold Fl.prepW
  split
  · exact h.more (by omega)
  · split
    · exact h.more (by omega)
    · exact h.erase _
/-- where place n stands -/
def Wh.at_ (h : Wh) (n : Nat) : Nat := 256 * (6 + n / h.per) + n % h.per * h.wide
def Wh.add (h : Wh) (f : Fl) (id : Nat) (d : List UInt8) : Wh × Fl × Int :=
  if d.length = h.size then
    if h.next = 8 * h.per then (h, f, 9)
    else if f.down then (h, f, 11)
    else
      if (f.prepW h.ready (h.next / h.per)).2 = 0 then
        if ((f.prepW h.ready (h.next / h.per)).1.prog (h.at_ h.next) (wrec h.gen id d)).2 = 0 then
          ({ h with L := h.L ++ [(id, d)], ready := (h.next / h.per : Nat), next := h.next + 1 }, ((f.prepW h.ready (h.next / h.per)).1.prog (h.at_ h.next) (wrec h.gen id d)).1, 0)
        else ({ h with ready := (h.next / h.per : Nat) }, (f.prepW h.ready (h.next / h.per)).1.prog (h.at_ h.next) (wrec h.gen id d))
      else (h, f.prepW h.ready (h.next / h.per))
  else (h, f, 1)
/-- how many places there are -/
def Wh.room (h : Wh) : Nat := 8 * h.per - h.next
/-- bounds that stay -/
structure Wh.Ok (h : Wh) : Prop where
  gen : h.gen < 4294967296
  size1 : 1 ≤ h.size
  size2 : h.size ≤ 16
  next : h.next ≤ 8 * h.per
  ready : -1 ≤ h.ready ∧ h.ready < 8
  many : h.L.length ≤ 1000
end Go.Proofs.Ytekaoodagaplmaa
