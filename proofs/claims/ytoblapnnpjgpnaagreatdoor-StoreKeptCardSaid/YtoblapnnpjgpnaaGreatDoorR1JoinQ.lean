/- The reference's Four, Join: by contracts. -/
import Derived.WalkSpells
import Derived.WalkLawsBesides
import Derived.Deep.RegionWith
import Derived.Deep.DeepCutAuto
import Derived.Test.YtoblapnnpjgpnaaGreatDoorZAQ
namespace Go.Proofs.YtoblapnnpjgpnaaGreatDoor
open Go.RowKit

set_option maxRecDepth 100000 in
theorem four_any (s : Nat) (hs : s < 2 ^ 32) (w : World) : Calls Tryz.prog 33 #[.int .u32 (s : Int)] w (FreshBytes w.heap.size (CrcM.four s) w) := by
  have hs' : (s : Int) < 4294967296 := by omega
  go_enter Tryz.func33, Tryz.ntmps33
  go_wp2
  go_ret
  refine ⟨some ⟨w.heap.size, 0, none⟩, 4, 4, rfl, rfl, ?_, (Below.refl _ _).alloc (Nat.le_refl _) _⟩
  rw [← four_cells s (by omega)]
  exact own_lit _ rfl (Nat.le_refl _) rfl (by unfold maxLen; omega)

/-- a list of rows of bytes: what their slice's cells are, and what each reads as -/
structure BRow where
  A : Option Addr
  n : Nat
  c : Nat
  l : List UInt8
def BRow.val (r : BRow) : Value := .slice r.A r.n r.c
def flat (es : List BRow) : List UInt8 := es.flatMap (·.l)
theorem flat_snoc (es : List BRow) (r : BRow) : flat (es ++ [r]) = flat es ++ r.l := by simp [flat]
def Rows2 (w : World) (B : Nat) (A : Option Addr) (n : Nat) (es : List BRow) : Prop :=
  Row w B A n (es.map BRow.val) ∧ ∀ r ∈ es, Row w B r.A r.n (bv r.l)
theorem Rows2.below {w w' : World} {B n : Nat} {A : Option Addr} {es : List BRow} (h : Rows2 w B A n es) (hb : Below B w w') : Rows2 w' B A n es :=
  ⟨h.1.below hb, fun r hr => (h.2 r hr).below hb⟩
theorem Rows2.at_ {w : World} {B n : Nat} {A : Option Addr} {es : List BRow} (h : Rows2 w B A n es) {k : Nat} (hk : k < n) :
    ∃ b o, A = some ⟨b, o, none⟩ ∧ ∃ r, es[k]? = some r ∧ w.cell? ⟨b, o + k, none⟩ = some (.slice r.A r.n r.c) ∧ Row w B r.A r.n (bv r.l) := by
  have hl : k < es.length := by have := h.1.1; simp at this; omega
  obtain ⟨b, o, e, _, hc⟩ := h.1.cellAt hk (u := es[k].val) (by simp [hl])
  exact ⟨b, o, e, es[k], by simp [hl], hc, h.2 _ (List.getElem_mem hl)⟩

set_option maxRecDepth 100000 in
set_option maxHeartbeats 400000 in
theorem join_any (B n cap : Nat) (A : Option Addr) (es : List BRow) (w : World) (hl : Rows2 w B A n es) (hn : n ≤ 1000000000) (hm : (flat es).length ≤ 1000000000) (hB : B ≤ w.heap.size) :
    Calls Tryz.prog 46 #[.slice A n cap] w (FreshBytes w.heap.size (flat es) w) := by
  obtain ⟨i0, hi, hz0, hz1, hz2⟩ := info_parts Tryz.info5
  have hN : es.length = n := by have := hl.1.1; simpa using this
  have HN := Lib.hid hN
  clear hN
  have HM := Lib.hid hm
  clear hm
  go_enter Tryz.func46, Tryz.ntmps46
  go_wp2
  go_loopw [3, 8] (fun v i wr => ∃ k : Nat, k ≤ n ∧ i = .int .i64 k ∧ wr.ownsRow w.heap.size 5 1 v (flat (es.take k)).length (bv (flat (es.take k))) ∧ Below w.heap.size w wr) (fun _ i _ => n - (intOf i).toNat)
  case atStart => exact ⟨0, by omega, rfl, World.ownsRow_nil _ _ _ _, Below.refl _ _⟩
  case round =>
    obtain ⟨k, hk, rfl, hown, hbk⟩ := hrel
    by_cases hlt : k < n
    · obtain ⟨b, o, rfl, r, hr, hcell, hrow⟩ := (hl.below (hbk.mono hB)).at_ hlt
      have hle : (flat (es.take k)).length + r.n ≤ 1000000000 := by
        have h1 : es.take (k + 1) = es.take k ++ [r] := by
          have hlk := (List.getElem?_eq_some_iff.1 hr).1
          rw [List.take_succ_eq_append_getElem hlk]
          rw [List.getElem?_eq_getElem hlk] at hr
          injection hr with hr
          rw [hr]
        have h2 : (flat (es.take (k + 1))).length ≤ (flat es).length := by
          have : flat es = flat (es.take (k + 1)) ++ flat (es.drop (k + 1)) := by simp only [flat, ← List.flatMap_append, List.take_append_drop]
          rw [this, List.length_append]; omega
        rw [h1, flat_snoc, List.length_append, hrow.blen] at h2
        have := HM.out
        omega
      go_wp2_with (at_builtin; refine wpList_app rfl (.tmp 12) (.tmp 13) 23 rfl w.heap.size 5 i0 (.int .u8 0) 1 Tryz.underlying23 hi hz0 hz1 hz2 rfl _ _ _ rfl hown B r.A r.n r.c (bv r.l) rfl hrow (bv_one _) (by unfold maxLen; omega) (by omega) hbk.size ?_; intro v2 w2 hown2 hg2 hat2)
      have hb2 := below_app hbk hbk.size hown (Nat.le_refl _) hg2
      have hown3 : w2.ownsRow w.heap.size 5 1 v2 (flat (es.take (k + 1))).length (bv (flat (es.take (k + 1)))) := by
        have hlk := (List.getElem?_eq_some_iff.1 hr).1
        rw [List.getElem?_eq_getElem hlk] at hr
        injection hr with hr
        rw [List.take_succ_eq_append_getElem hlk, hr, flat_snoc, bv_append, List.length_append, hrow.blen]
        exact hown2
      clear hown hown2 hg2 hat2
      go_roundw
      case rel => exact ⟨k + 1, by omega, by go_num, hown3, hb2⟩
      case measure => simp [intOf]; omega
    · have : k = n := by omega
      subst this
      rw [List.take_of_length_le (by rw [HN.out]; omega)] at hown
      obtain ⟨A4, c4, rfl, _⟩ := own_slice hown
      go_wp2
      go_ret
      exact ⟨A4, _, c4, rfl, rfl, hown, hbk⟩
end Go.Proofs.YtoblapnnpjgpnaaGreatDoor
