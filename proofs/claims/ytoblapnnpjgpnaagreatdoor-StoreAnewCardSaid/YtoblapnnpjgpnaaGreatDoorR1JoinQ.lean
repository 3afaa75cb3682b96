/- The reference's Four, Join: by contracts. -/
import Derived.WalkSpells
import Derived.WalkLawsBesides
import Derived.Deep.RegionWith
import Derived.Deep.DeepCutAuto
import Derived.Test.YtoblapnnpjgpnaaGreatDoorZAQ
namespace Go.Proofs.YtoblapnnpjgpnaaGreatDoor
open Go.RowKit

set_option maxRecDepth 100000 in
theorem four_any (s : Nat) (hs : s < 2 ^ 32) (w : World) : Calls Tryz.prog 33 #[.int .u32 (s : Int)] w (FreshBytes w.heap.size (CrcM.four s) w) := by
  have hs' : (s : Int) < 4294967296 := by omega
  go_enter Tryz.func33, Tryz.ntmps33
  go_wp2
  go_ret
  refine ⟨some ⟨w.heap.size, 0, none⟩, 4, 4, rfl, rfl, ?_, (Below.refl _ _).alloc (Nat.le_refl _) _⟩
  rw [← four_cells s (by omega)]
  exact own_lit _ rfl (Nat.le_refl _) rfl (by unfold maxLen; omega)

/-- a list of rows of bytes: what their slice's cells are, and what each reads as -/
structure BRow where
  A : Option Addr
  n : Nat
  c : Nat
  l : List UInt8
def BRow.val (r : BRow) : Value := .slice r.A r.n r.c
def Rows2 (w : World) (B : Nat) (A : Option Addr) (n : Nat) (es : List BRow) : Prop :=
  Row w B A n (es.map BRow.val) ∧ ∀ r ∈ es, Row w B r.A r.n (bv r.l)
theorem Rows2.below {w w' : World} {B n : Nat} {A : Option Addr} {es : List BRow} (h : Rows2 w B A n es) (hb : Below B w w') : Rows2 w' B A n es :=
  ⟨h.1.below hb, fun r hr => (h.2 r hr).below hb⟩
theorem Rows2.at_ {w : World} {B n : Nat} {A : Option Addr} {es : List BRow} (h : Rows2 w B A n es) {k : Nat} (hk : k < n) :
    ∃ b o, A = some ⟨b, o, none⟩ ∧ ∃ r, es[k]? = some r ∧ w.cell? ⟨b, o + k, none⟩ = some (.slice r.A r.n r.c) ∧ Row w B r.A r.n (bv r.l) := by
  have hl : k < es.length := by have := h.1.1; simp at this; omega
  obtain ⟨b, o, e, _, hc⟩ := h.1.cellAt hk (u := es[k].val) (by simp [hl])
  exact ⟨b, o, e, es[k], by simp [hl], hc, h.2 _ (List.getElem_mem hl)⟩

end Go.Proofs.YtoblapnnpjgpnaaGreatDoor
