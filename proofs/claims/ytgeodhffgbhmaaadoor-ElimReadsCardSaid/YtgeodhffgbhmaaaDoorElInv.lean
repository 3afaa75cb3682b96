/- Rows that are reduced, as data: what stays so. -/
import Derived.Test.YtgeodhffgbhmaaaDoorElSolve
import Derived.Test.YtgeodhffgbhmaaaDoorElNew
namespace Go.Proofs.YtgeodhffgbhmaaaDoor.El
open Go.RowKit
open VecM Vc
/-- row i has i as its first bit, and no other row has it -/
structure Inv (n z : Nat) (M : Mx) : Prop where
  len : M.length = n
  lt : ∀ (i : Nat) (r : Nat × List UInt8), M[i]? = some (some r) → r.1 < 2 ^ n
  z : ∀ (i : Nat) (r : Nat × List UInt8), M[i]? = some (some r) → r.2.length = z
  bit : ∀ (i : Nat) (r : Nat × List UInt8), M[i]? = some (some r) → r.1.testBit i = true
  low : ∀ (i : Nat) (r : Nat × List UInt8), M[i]? = some (some r) → ∀ j, j < i → r.1.testBit j = false
  no : ∀ (i j : Nat) (r s : Nat × List UInt8), M[i]? = some (some r) → M[j]? = some (some s) → j ≠ i → r.1.testBit j = false
theorem Inv.start (n z : Nat) : Inv n z (List.replicate n none) := by
  have h : ∀ (i : Nat) (r : Nat × List UInt8), (List.replicate n (none : Option (Nat × List UInt8)))[i]? = some (some r) → False := fun i r hr => by
    rw [List.getElem?_replicate] at hr
    split at hr <;> cases hr
  exact ⟨by simp, fun i r hr => (h i r hr).elim, fun i r hr => (h i r hr).elim, fun i r hr => (h i r hr).elim, fun i r hr => (h i r hr).elim, fun i j r s hr => (h i r hr).elim⟩
theorem getD_getM {M : Mx} {k : Nat} {r : Nat × List UInt8} (h : M.getD k none = some r) : M[k]? = some (some r) := by
  rw [List.getD_eq_getElem?_getD] at h
  cases hk : M[k]? with
  | none => rw [hk] at h; cases h
  | some x => rw [hk] at h; exact congrArg some h
theorem redM_ltI {n z : Nat} {M : Mx} (h : Inv n z M) {X : Nat} (hX : X < 2 ^ n) (l : List UInt8) (k : Nat) : (redM M X l k).1 < 2 ^ n := by
  induction k with
  | zero => exact hX
  | succ k ih =>
    cases hm : M.getD k none with
    | none => rw [redM_none hm]; exact ih
    | some r =>
      rw [redM_some hm]
      split
      · exact Nat.xor_lt_two_pow ih (h.lt k r (getD_getM hm))
      · exact ih
/-- what is reduced has no row's own bit -/
theorem redM_clear {n z : Nat} {M : Mx} (h : Inv n z M) (X : Nat) (l : List UInt8) (k : Nat) : ∀ (i : Nat) (r : Nat × List UInt8), i < k → M[i]? = some (some r) → (redM M X l k).1.testBit i = false := by
  induction k with
  | zero => exact fun i r hi => absurd hi (Nat.not_lt_zero i)
  | succ k ih =>
    intro i r hi hr
    cases hm : M.getD k none with
    | none =>
      rw [redM_none hm]
      rcases Nat.lt_succ_iff_lt_or_eq.1 hi with h1 | h1
      · exact ih i r h1 hr
      · subst h1
        rw [List.getD_eq_getElem?_getD, hr] at hm
        cases hm
    | some s =>
      have hs := getD_getM hm
      rw [redM_some hm]
      rcases Nat.lt_succ_iff_lt_or_eq.1 hi with h1 | h1
      · split
        · rw [Nat.testBit_xor, ih i r h1 hr, h.no k i s r hs hr (by omega)]; rfl
        · exact ih i r h1 hr
      · subst h1
        split
        · rename_i hb
          rw [Nat.testBit_xor, hb, h.bit i s hs]; rfl
        · rename_i hb
          simpa using hb
/-- the lowest bit -/
def lowb (Z : Nat) : Nat := (firstI (Ls Z)).toNat
theorem lowb_at {Z f : Nat} (hf : f < 256) (hb : Z.testBit f = true) (hl : ∀ j, j < f → Z.testBit j = false) : lowb Z = f := by
  unfold lowb Ls
  rw [firstI_low hf hb hl]; rfl
theorem set_get2 {M : Mx} {k i : Nat} {o : Option (Nat × List UInt8)} {r : Nat × List UInt8} (h : (M.set k o)[i]? = some (some r)) : (i = k ∧ o = some r) ∨ (i ≠ k ∧ M[i]? = some (some r)) := by
  rw [List.getElem?_set] at h
  by_cases e : k = i
  · rw [if_pos e] at h
    split at h
    · injection h with h; exact .inl ⟨e.symm, h⟩
    · cases h
  · rw [if_neg e] at h; exact .inr ⟨fun x => e x.symm, h⟩
theorem chg_get {M : Mx} {X f i : Nat} {l : List UInt8} {r : Nat × List UInt8} (h : (M.map (chgD X l f))[i]? = some (some r)) : ∃ s, M[i]? = some (some s) ∧ r = if s.1.testBit f then (s.1 ^^^ X, xorL s.2 l) else s := by
  rw [List.getElem?_map] at h
  cases hm : M[i]? with
  | none => rw [hm] at h; cases h
  | some o =>
    rw [hm] at h
    injection h with h
    cases o with
    | none => cases h
    | some s => exact ⟨s, rfl, by injection h with h; exact h.symm⟩
/-- the invariant stays -/
theorem Inv.add {n z : Nat} {M : Mx} (h : Inv n z M) {Z f : Nat} {q : List UInt8} (hZ : Z < 2 ^ n) (hq : q.length = z) (hf : f < n) (hb : Z.testBit f = true) (hl : ∀ j, j < f → Z.testBit j = false) (hc : ∀ (i : Nat) (r : Nat × List UInt8), M[i]? = some (some r) → Z.testBit i = false) : M[f]? = some none ∧ Inv n z (addM M Z q f) := by
  have hfn : ∀ r, M[f]? ≠ some (some r) := fun r hr => by rw [hc f r hr] at hb; cases hb
  have hlen := h.len
  have hnone : M[f]? = some none := by
    have hlt : f < M.length := by omega
    cases hx : M[f] with
    | none => rw [List.getElem?_eq_getElem hlt, hx]
    | some r => exact absurd (by rw [List.getElem?_eq_getElem hlt, hx]) (hfn r)
  refine ⟨hnone, ?_⟩
  have key : ∀ (i : Nat) (r : Nat × List UInt8), (addM M Z q f)[i]? = some (some r) → (i = f ∧ r = (Z, q)) ∨ (i ≠ f ∧ ∃ s, M[i]? = some (some s) ∧ r = if s.1.testBit f then (s.1 ^^^ Z, xorL s.2 q) else s) := by
    intro i r hr
    rcases set_get2 hr with ⟨e1, e2⟩ | ⟨e1, e2⟩
    · injection e2 with e2; exact .inl ⟨e1, e2.symm⟩
    · exact .inr ⟨e1, chg_get e2⟩
  have below : ∀ (i : Nat) (s : Nat × List UInt8), M[i]? = some (some s) → s.1.testBit f = true → i < f := fun i s hs hsf => by
    rcases Nat.lt_trichotomy i f with h1 | h1 | h1
    · exact h1
    · subst h1; exact absurd hs (hfn s)
    · rw [h.low i s hs f h1] at hsf; cases hsf
  refine ⟨by unfold addM; rw [List.length_set, List.length_map]; exact hlen, fun i r hr => ?_, fun i r hr => ?_, fun i r hr => ?_, fun i r hr j hj => ?_, fun i j r s hr hs hij => ?_⟩
  · rcases key i r hr with ⟨_, rfl⟩ | ⟨_, s, hs, rfl⟩
    · exact hZ
    · split
      · exact Nat.xor_lt_two_pow (h.lt i s hs) hZ
      · exact h.lt i s hs
  · rcases key i r hr with ⟨_, rfl⟩ | ⟨_, s, hs, rfl⟩
    · exact hq
    · split
      · show (xorL _ _).length = _; rw [xorL_length]; exact h.z i s hs
      · exact h.z i s hs
  · rcases key i r hr with ⟨rfl, rfl⟩ | ⟨_, s, hs, rfl⟩
    · exact hb
    · split
      · rw [Nat.testBit_xor, h.bit i s hs, hc i s hs]; rfl
      · exact h.bit i s hs
  · rcases key i r hr with ⟨rfl, rfl⟩ | ⟨_, s, hs, rfl⟩
    · exact hl j hj
    · split
      · rename_i hsf
        have := below i s hs hsf
        rw [Nat.testBit_xor, h.low i s hs j hj, hl j (by omega)]; rfl
      · exact h.low i s hs j hj
  · rcases key i r hr with ⟨rfl, rfl⟩ | ⟨hif, s', hs', rfl⟩
    · rcases key j s hs with ⟨e, _⟩ | ⟨_, t, ht, _⟩
      · exact absurd e hij
      · exact hc j t ht
    · rcases key j s hs with ⟨rfl, _⟩ | ⟨_, t, ht, _⟩
      · split
        · rename_i hsf
          rw [Nat.testBit_xor, hsf, hb]; rfl
        · rename_i hsf
          simpa using hsf
      · split
        · rw [Nat.testBit_xor, h.no i j s' t hs' ht hij, hc j t ht]; rfl
        · exact h.no i j s' t hs' ht hij
/-- what Add makes of it -/
def addMx (n : Nat) (M : Mx) (X : Nat) (l : List UInt8) : Mx × Bool := if (redM M X l n).1 = 0 then (M, false) else (addM M (redM M X l n).1 (redM M X l n).2 (lowb (redM M X l n).1), true)
theorem addMx_inv {n z : Nat} {M : Mx} (h : Inv n z M) (hn : n ≤ 256) {X : Nat} {l : List UInt8} (hX : X < 2 ^ n) (hl : l.length = z) : Inv n z (addMx n M X l).1 := by
  unfold addMx
  split
  · exact h
  · rename_i h0
    have hlt := redM_ltI h hX l n
    obtain ⟨f, hf, hb, hlow⟩ := low_ex hlt h0
    rw [lowb_at (by omega) hb hlow]
    exact (h.add hlt (by rw [redM_len]; exact hl) hf hb hlow (fun i r hr => redM_clear h X l n i r (by rw [← h.len]; exact (List.getElem?_eq_some_iff.1 hr).1) hr)).2
/-- a matrix, its rows as data -/
def IsMat (W : World) (F : Nat → Prop) (gm n z : Nat) (M : Mx) : Prop := ∃ gr rs, absM rs = M ∧ MatAt W F gm gr n z rs
section
variable {w w' : World} {F F' : Nat → Prop} {gm n z : Nat} {M : Mx}
theorem IsMat.below (h : IsMat w F gm n z M) (hb : Below w.heap.size w w') : IsMat w' F gm n z M := by
  obtain ⟨gr, rs, e, m⟩ := h; exact ⟨gr, rs, e, m.below hb⟩
theorem IsMat.keep (h : IsMat w F gm n z M) (hk : ∀ b, F b → b < w.heap.size → w'.heap[b]? = w.heap[b]?) : IsMat w' F gm n z M := by
  obtain ⟨gr, rs, e, m⟩ := h; exact ⟨gr, rs, e, m.keep hk⟩
theorem IsMat.more (h : IsMat w F gm n z M) (hF : ∀ b, F b → F' b) : IsMat w F' gm n z M := by
  obtain ⟨gr, rs, e, m⟩ := h; exact ⟨gr, rs, e, m.more hF⟩
theorem IsMat.n2 (h : IsMat w F gm n z M) : n ≤ 256 := by obtain ⟨gr, rs, e, m⟩ := h; exact m.n2
end
def NewIOk (n z : Nat) (w : World) (e : Ending) (w' : World) : Prop :=
  ∃ gm, e = .returned (.pointer (some ⟨gm, 0, none⟩)) ∧ Hid (IsMat w' (fun b => w.heap.size ≤ b ∧ b < w'.heap.size) gm n z (List.replicate n none)) ∧ Hid (Below w.heap.size w w')
theorem newI (n z : Nat) (w : World) (hn : 1 ≤ n ∧ n ≤ 256) (hz : 1 ≤ z ∧ z ≤ 16) : Calls Tryd.prog 8 #[.int .i64 (n : Int), .int .i64 (z : Int)] w (NewIOk n z w) :=
  (newM_ok n z w hn hz).mono fun _ _ ⟨gm, gr, he, hm, hb⟩ => ⟨gm, he, Lib.hid ⟨gr, _, by unfold absM; rw [List.map_replicate]; rfl, hm.out⟩, hb⟩
/-- Add's outcome -/
def AddI (F : Nat → Prop) (gm n z : Nat) (R : Mx × Bool) (w : World) (e : Ending) (w' : World) : Prop :=
  e = .returned (.bool R.2) ∧ Hid (IsMat w' (fun b => F b ∨ (w.heap.size ≤ b ∧ b < w'.heap.size)) gm n z R.1) ∧ Hid (Fr w w' F)
theorem addI {F : Nat → Prop} {gm n z g0 h0 X c0 : Nat} {M : Mx} {A : Option Addr} {l : List UInt8} {w : World} (hm : IsMat w F gm n z M) (hi : Inv n z M) (v : VecAt w g0 h0 n X) (hr : Row w w.heap.size A l.length (bv l)) (hl : l.length = z) (ht : DTab w) :
    Calls Tryd.prog 14 #[.pointer (some ⟨gm, 0, none⟩), .pointer (some ⟨g0, 0, none⟩), .slice A z c0] w (AddI F gm n z (addMx n M X l) w) := by
  obtain ⟨gr, rs, rfl, m⟩ := hm
  by_cases hzz : (redM (absM rs) X l n).1 = 0
  · refine (add_no F gm gr n z rs g0 h0 X c0 A l w m v hr hl ht hzz).mono fun e w' ⟨he, hb⟩ => ?_
    unfold addMx
    rw [if_pos hzz]
    exact ⟨he, Lib.hid ⟨gr, rs, rfl, (m.below hb.out).more fun b hb => .inl hb⟩, Lib.hid (Fr.of_below hb.out)⟩
  · have hlt := redM_ltI hi v.2.1 l n
    obtain ⟨f, hf, hb, hlow⟩ := low_ex hlt hzz
    have hn := m.n2
    have hz := redM_len (absM rs) X l n
    have hc := fun (i : Nat) (r : Nat × List UInt8) (hr : (absM rs)[i]? = some (some r)) => redM_clear hi X l n i r (by rw [← hi.len]; exact (List.getElem?_eq_some_iff.1 hr).1) hr
    have hnone := (hi.add hlt (by rw [hz]; exact hl) hf hb hlow hc).1
    have hno : rs[f]? = some none := by
      unfold absM at hnone
      rw [List.getElem?_map] at hnone
      cases hx : rs[f]? with
      | none => rw [hx] at hnone; cases hnone
      | some o =>
        cases o with
        | none => rfl
        | some r => rw [hx] at hnone; injection hnone with hnone; cases hnone
    refine (add_yes F gm gr n z rs g0 h0 X c0 A l w m v hr hl ht _ _ rfl f hf hb hlow hno).mono fun e w' ⟨rs', he, ha, hm', hfr⟩ => ?_
    unfold addMx
    rw [if_neg hzz, lowb_at (by omega) hb hlow]
    exact ⟨he, Lib.hid ⟨gr, rs', ha, hm'.out⟩, hfr⟩
theorem saysI {F : Nat → Prop} {gm n z g h X : Nat} {M : Mx} {w : World} (hm : IsMat w F gm n z M) (v : VecAt w g h n X) (ht : DTab w) :
    Calls Tryd.prog 12 #[.pointer (some ⟨gm, 0, none⟩), .pointer (some ⟨g, 0, none⟩)] w fun e w' => e = .returned (.bool (decide ((redM M X [] n).1 ≠ 0))) ∧ Hid (Below w.heap.size w w') := by
  obtain ⟨gr, rs, rfl, m⟩ := hm
  exact says_any F gm gr n z rs g h X w m v ht
theorem rankI {F : Nat → Prop} {gm n z : Nat} {M : Mx} {w : World} (hm : IsMat w F gm n z M) : Calls Tryd.prog 23 #[.pointer (some ⟨gm, 0, none⟩)] w fun e w' => e = .returned (.int .i64 (rankM M : Int)) ∧ w = w' := by
  obtain ⟨gr, rs, rfl, m⟩ := hm
  rw [rankM_abs]
  exact rank_any F gm gr n z rs w m
theorem fullI {F : Nat → Prop} {gm n z : Nat} {M : Mx} {w : World} (hm : IsMat w F gm n z M) : Calls Tryd.prog 24 #[.pointer (some ⟨gm, 0, none⟩)] w fun e w' => e = .returned (.bool (decide (rankM M = n))) ∧ Hid (Below w.heap.size w w') := by
  obtain ⟨gr, rs, rfl, m⟩ := hm
  rw [rankM_abs]
  exact full_any F gm gr n z rs w m
theorem bytesI {F : Nat → Prop} {gm n z : Nat} {M : Mx} {w : World} (hm : IsMat w F gm n z M) : Calls Tryd.prog 22 #[.pointer (some ⟨gm, 0, none⟩)] w (TellB (bytesM n z M) w) := by
  obtain ⟨gr, rs, rfl, m⟩ := hm
  exact bytesM_any F gm gr n z rs w m
theorem solveI {F : Nat → Prop} {gm n z : Nat} {M : Mx} {w : World} (hm : IsMat w F gm n z M) (h : rankM M = n) : Calls Tryd.prog 18 #[.pointer (some ⟨gm, 0, none⟩)] w (SolveOk n (solM M) w) := by
  obtain ⟨gr, rs, rfl, m⟩ := hm
  rw [rankM_abs] at h
  exact solve_any F gm gr n z rs w m h
theorem solveI_no {F : Nat → Prop} {gm n z : Nat} {M : Mx} {w : World} (hm : IsMat w F gm n z M) (h : rankM M ≠ n) : Calls Tryd.prog 18 #[.pointer (some ⟨gm, 0, none⟩)] w fun e w' => e = .returned (.slice none 0 0) ∧ Hid (Below w.heap.size w w') := by
  obtain ⟨gr, rs, rfl, m⟩ := hm
  rw [rankM_abs] at h
  exact solve_no F gm gr n z rs w m h
theorem DTab.fr {w w' : World} {F : Nat → Prop} (h : DTab w) (hf : Fr w w' F) (hn : ¬ F 0) : DTab w' :=
  ⟨Nat.lt_of_lt_of_le h.1 hf.size, fun j hj => (World.cell?_of_block (a := ⟨_, j, none⟩) (hf.block _ h.1 hn)).trans (h.2 j hj)⟩
end Go.Proofs.YtgeodhffgbhmaaaDoor.El
