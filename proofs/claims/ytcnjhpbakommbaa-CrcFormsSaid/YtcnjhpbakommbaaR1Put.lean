/- The reference's Four, Put, Right, Join: by contracts. -/
import Derived.Test.YtcnjhpbakommbaaR1Crc
import Derived.Deep.RegionWith
import Derived.Deep.DeepCutAuto
namespace Go.Proofs.Ytcnjhpbakommbaa
open Go.RowKit

theorem four_any (s : Nat) (hs : s < 2 ^ 32) (w : World) : Calls Try.prog 19 #[.int .u32 (s : Int)] w (FreshBytes w.heap.size (CrcM.four s) w) := by
  have hs' : (s : Int) < 4294967296 := by omega
  go_enter Try.func19, Try.ntmps19
  go_wp2
  go_ret
  refine ⟨some ⟨w.heap.size, 0, none⟩, 4, 4, rfl, rfl, ?_, (Below.refl _ _).alloc (Nat.le_refl _) _⟩
  rw [← four_cells s (by omega)]
  exact own_lit _ rfl (Nat.le_refl _) rfl (by unfold maxLen; omega)

set_option maxHeartbeats 400000 in
theorem r1put_any (B n cap : Nat) (A : Option Addr) (l : List UInt8) (w : World) (hl : Row w B A n (bv l)) (hn : n ≤ 1000000000) (hB : B ≤ w.heap.size) :
    Calls Try.prog 15 #[.slice A n cap] w (FreshBytes w.heap.size (CrcM.put l) w) := by
  obtain ⟨i0, hi, hz0, hz1, hz2⟩ := info_parts Try.info5
  go_enter Try.func15, Try.ntmps15
  go_wp2_with (at_builtin; refine wpList_app rfl _ (.tmp 3) 22 rfl w.heap.size 5 i0 (.int .u8 0) 1 Try.underlying22 hi hz0 hz1 hz2 rfl _ 0 [] rfl (World.ownsRow_nil _ _ _ _) B A n cap (bv l) rfl hl (bv_one l) (by unfold maxLen; omega) (by omega) (Nat.le_refl _) ?_; intro v2 w2 hown2 hg2 hat2)
  have hb2 : Below w.heap.size w w2 := (Below.refl _ _).grown hg2 (Nat.le_refl _) (by intro g h; nomatch h)
  have hs2 := hb2.size
  refine (r1crc_any B n cap A l w2 (hl.below (hb2.mono hB)) (by omega)).mono ?_
  rintro e w' ⟨rfl, rfl⟩
  go_wp2_with fail
  refine (four_any (CrcM.sum l) (CrcM.sum_lt l) w2).mono ?_
  rintro e w3 ⟨A3, n3, c3, rfl, hn3, hown3, hb3⟩
  have hs3 := hb3.size
  have hn3' : n3 = 4 := hn3.out
  subst hn3'
  have hown2' := own_below hown2 hb3
  go_wp2_with (at_builtin; refine wpList_app rfl (.tmp 4) (.tmp 7) 22 rfl w.heap.size 5 i0 (.int .u8 0) 1 Try.underlying22 hi hz0 hz1 hz2 rfl v2 (0 + n) ([] ++ bv l) rfl hown2' _ A3 4 c3 _ rfl (Row.of_own hown3) (bv_one _) (by unfold maxLen; omega) (by omega) (by omega) ?_; intro v4 w4 hown4 hg4 hat4)
  obtain ⟨A4, c4, rfl, _⟩ := own_slice hown4
  have hb4 : Below w.heap.size w w4 := below_app (hb2.trans (hb3.mono hs2)) (by omega) hown2' (Nat.le_refl _) hg4
  go_ret
  have hbl := hl.blen
  refine ⟨A4, 0 + n + 4, c4, rfl, ?_, ?_, hb4⟩
  · show _ = (CrcM.put l).length
    rw [CrcM.put_length]; omega
  · rw [List.nil_append, ← bv_append] at hown4
    exact hown4

def r1eq (l : List UInt8) (k : Nat) : Prop := CrcM.four (CrcM.sum (l.take k)) = l.drop k
theorem four_number (a b c d : UInt8) : CrcM.four (CrcM.number [a, b, c, d]) = [a, b, c, d] := by
  have := CrcM.b_lt a; have := CrcM.b_lt b; have := CrcM.b_lt c; have := CrcM.b_lt d
  simp only [CrcM.number, CrcM.four, List.foldl_cons, List.foldl_nil, List.cons.injEq, and_true]
  refine ⟨?_, ?_, ?_, ?_⟩ <;> apply UInt8.toNat.inj <;> simp <;> omega
theorem r1eq_iff (l : List UInt8) (k : Nat) (h : l.length = k + 4) : r1eq l k ↔ CrcM.right l := by
  unfold r1eq CrcM.right
  rw [h, show k + 4 - 4 = k by omega]
  have hd : (l.drop k).length = 4 := by rw [List.length_drop, h]; omega
  constructor
  · intro e
    refine ⟨by omega, ?_⟩
    rw [← e, CrcM.number_four _ (CrcM.sum_lt _)]
  · rintro ⟨_, e⟩
    rw [e]
    match hm : l.drop k, hd with
    | [a, b, c, d], _ => exact four_number a b c d

/-- a list of rows of bytes: what their slice's cells are, and what each reads as -/
structure BRow where
  A : Option Addr
  n : Nat
  c : Nat
  l : List UInt8
def BRow.val (r : BRow) : Value := .slice r.A r.n r.c
def flat (es : List BRow) : List UInt8 := es.flatMap (·.l)
theorem flat_snoc (es : List BRow) (r : BRow) : flat (es ++ [r]) = flat es ++ r.l := by simp [flat]
def Rows2 (w : World) (B : Nat) (A : Option Addr) (n : Nat) (es : List BRow) : Prop :=
  Row w B A n (es.map BRow.val) ∧ ∀ r ∈ es, Row w B r.A r.n (bv r.l)
theorem Rows2.below {w w' : World} {B n : Nat} {A : Option Addr} {es : List BRow} (h : Rows2 w B A n es) (hb : Below B w w') : Rows2 w' B A n es :=
  ⟨h.1.below hb, fun r hr => (h.2 r hr).below hb⟩
theorem Rows2.at_ {w : World} {B n : Nat} {A : Option Addr} {es : List BRow} (h : Rows2 w B A n es) {k : Nat} (hk : k < n) :
    ∃ b o, A = some ⟨b, o, none⟩ ∧ ∃ r, es[k]? = some r ∧ w.cell? ⟨b, o + k, none⟩ = some (.slice r.A r.n r.c) ∧ Row w B r.A r.n (bv r.l) := by
  have hl : k < es.length := by have := h.1.1; simp at this; omega
  obtain ⟨b, o, e, _, hc⟩ := h.1.cellAt hk (u := es[k].val) (by simp [hl])
  exact ⟨b, o, e, es[k], by simp [hl], hc, h.2 _ (List.getElem_mem hl)⟩

set_option maxHeartbeats 400000 in
theorem join_any (B n cap : Nat) (A : Option Addr) (es : List BRow) (w : World) (hl : Rows2 w B A n es) (hn : n ≤ 1000000000) (hm : (flat es).length ≤ 1000000000) (hB : B ≤ w.heap.size) :
    Calls Try.prog 17 #[.slice A n cap] w (FreshBytes w.heap.size (flat es) w) := by
  obtain ⟨i0, hi, hz0, hz1, hz2⟩ := info_parts Try.info5
  have hN : es.length = n := by have := hl.1.1; simpa using this
  have HN := Lib.hid hN
  clear hN
  have HM := Lib.hid hm
  clear hm
  go_enter Try.func17, Try.ntmps17
  go_wp2
  go_loopw [3, 8] (fun v i wr => ∃ k : Nat, k ≤ n ∧ i = .int .i64 k ∧ wr.ownsRow w.heap.size 5 1 v (flat (es.take k)).length (bv (flat (es.take k))) ∧ Below w.heap.size w wr) (fun _ i _ => n - (intOf i).toNat)
  case atStart => exact ⟨0, by omega, rfl, World.ownsRow_nil _ _ _ _, Below.refl _ _⟩
  case round =>
    obtain ⟨k, hk, rfl, hown, hbk⟩ := hrel
    by_cases hlt : k < n
    · obtain ⟨b, o, rfl, r, hr, hcell, hrow⟩ := (hl.below (hbk.mono hB)).at_ hlt
      have hle : (flat (es.take k)).length + r.n ≤ 1000000000 := by
        have h1 : es.take (k + 1) = es.take k ++ [r] := by
          have hlk := (List.getElem?_eq_some_iff.1 hr).1
          rw [List.take_succ_eq_append_getElem hlk]
          rw [List.getElem?_eq_getElem hlk] at hr
          injection hr with hr
          rw [hr]
        have h2 : (flat (es.take (k + 1))).length ≤ (flat es).length := by
          have : flat es = flat (es.take (k + 1)) ++ flat (es.drop (k + 1)) := by simp only [flat, ← List.flatMap_append, List.take_append_drop]
          rw [this, List.length_append]; omega
        rw [h1, flat_snoc, List.length_append, hrow.blen] at h2
        have := HM.out
        omega
      go_wp2_with (at_builtin; refine wpList_app rfl (.tmp 12) (.tmp 13) 22 rfl w.heap.size 5 i0 (.int .u8 0) 1 Try.underlying22 hi hz0 hz1 hz2 rfl _ _ _ rfl hown B r.A r.n r.c (bv r.l) rfl hrow (bv_one _) (by unfold maxLen; omega) (by omega) hbk.size ?_; intro v2 w2 hown2 hg2 hat2)
      have hb2 := below_app hbk hbk.size hown (Nat.le_refl _) hg2
      have hown3 : w2.ownsRow w.heap.size 5 1 v2 (flat (es.take (k + 1))).length (bv (flat (es.take (k + 1)))) := by
        have hlk := (List.getElem?_eq_some_iff.1 hr).1
        rw [List.getElem?_eq_getElem hlk] at hr
        injection hr with hr
        rw [List.take_succ_eq_append_getElem hlk, hr, flat_snoc, bv_append, List.length_append, hrow.blen]
        exact hown2
      clear hown hown2 hg2 hat2
      go_roundw
      case rel => exact ⟨k + 1, by omega, by go_num, hown3, hb2⟩
      case measure => simp [intOf]; omega
    · have : k = n := by omega
      subst this
      rw [List.take_of_length_le (by rw [HN.out]; omega)] at hown
      obtain ⟨A4, c4, rfl, _⟩ := own_slice hown
      go_wp2
      go_ret
      exact ⟨A4, _, c4, rfl, rfl, hown, hbk⟩
end Go.Proofs.Ytcnjhpbakommbaa
