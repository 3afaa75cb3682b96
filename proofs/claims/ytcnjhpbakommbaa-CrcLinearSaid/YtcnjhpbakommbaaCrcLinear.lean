/- CrcLinear: of three texts of one length and their sum byte by byte the four sums together are nothing. For every input, no condition. -/
import Derived.Test.YtcnjhpbakommbaaRows
import Derived.Test.YtcnjhpbakommbaaCrcAwake
import Derived.Test.YtcnjhpbakommbaaCrcPut
import Derived.Test.YtcnjhpbakommbaaLaw
import Derived.Test.YtcnjhpbakommbaaFill
import Derived.Deep.DeepCutAuto
import Derived.StillTailTactics
namespace Go.Proofs.Ytcnjhpbakommbaa
open Go.ChangeShapes Go.WideShapes Go.ChangeAt Go.RowKit

def lx (b : UInt8) (j : Nat) : UInt8 := b + UInt8.ofNat (3 * j)
def ly (c : UInt8) (j : Nat) : UInt8 := c ^^^ UInt8.ofNat j
def lz (l : List UInt8) (b c : UInt8) (j : Nat) : UInt8 := l.getD j 0 ^^^ lx b j ^^^ ly c j
theorem linear_sum (l : List UInt8) (b c : UInt8) : CrcM.sum l ^^^ CrcM.sum (fill l.length (lx b) l.length) ^^^ CrcM.sum (fill l.length (ly c) l.length) = CrcM.sum (fill l.length (lz l b c) l.length) := by
  rw [CrcM.sum_lin _ _ _ (by rw [fill_length]) (by rw [fill_length])]
  congr 1
  apply List.ext_getElem
  · simp [fill_length]
  · intro j h1 h2
    simp [fill_length] at h1
    simp [fill, lz, h1]
def Three (w0 w : World) (g1 g2 g3 n : Nat) (x y z : List UInt8) : Prop :=
  w.ownsRow w0.heap.size 5 1 (.slice (some ⟨g1, 0, none⟩) n n) n (bv x) ∧ w.ownsRow w0.heap.size 5 1 (.slice (some ⟨g2, 0, none⟩) n n) n (bv y) ∧
  w.ownsRow w0.heap.size 5 1 (.slice (some ⟨g3, 0, none⟩) n n) n (bv z) ∧ Below w0.heap.size w0 w ∧ w0.heap.size ≤ g1 ∧ w0.heap.size ≤ g2 ∧ w0.heap.size ≤ g3 ∧ g1 ≠ g2 ∧ g1 ≠ g3 ∧ g2 ≠ g3

theorem lx_int (b : UInt8) (k : Nat) : ((b.toNat : Int) + 3 * (k : Int) % 256) % 256 = ((lx b k).toNat : Int) := by
  unfold lx
  rw [UInt8.toNat_add, UInt8.toNat_ofNat']
  omega
theorem lx_int2 (b : UInt8) (k : Nat) : ((b.toNat : Int) + 3 * (k : Int)) % 256 = ((lx b k).toNat : Int) := by
  rw [← lx_int]; omega
theorem ly_int (c : UInt8) (k : Nat) : bits .xor .u8 (c.toNat : Int) ((k : Int) % 256) = ((ly c k).toNat : Int) := by
  have e : ((k : Int) % 256) = (((UInt8.ofNat k).toNat : Nat) : Int) := by rw [UInt8.toNat_ofNat']; omega
  rw [e, u8_xor_nat _ _ (CrcM.b_lt _) (CrcM.b_lt _), ← UInt8.toNat_xor]; rfl
theorem lz_int (l : List UInt8) (b c : UInt8) (k : Nat) (h : k < l.length) : bits .xor .u8 (bits .xor .u8 (l[k].toNat : Int) ((lx b k).toNat : Int)) ((ly c k).toNat : Int) = ((lz l b c k).toNat : Int) := by
  rw [u8_xor_nat _ _ (CrcM.b_lt _) (CrcM.b_lt _), ← UInt8.toNat_xor, u8_xor_nat _ _ (CrcM.b_lt _) (CrcM.b_lt _), ← UInt8.toNat_xor]
  unfold lz
  rw [show l.getD k 0 = l[k] by simp [List.getD, h]]
theorem own_set {w : World} {base g n c : Nat} {xs : List Value} (h : w.ownsRow base 5 1 (.slice (some ⟨g, 0, none⟩) n c) n xs) {p : Addr} (hp : p.block ≠ g) (u : Value) : (w.setCell p u).ownsRow base 5 1 (.slice (some ⟨g, 0, none⟩) n c) n xs := by
  refine ⟨h.1, ?_⟩
  rcases h.2 with ⟨h0, _⟩ | ⟨g', cap', cur, hv, hb, hg, r⟩
  · cases h0
  · injection hv with e1 e2 e3
    injection e1 with e1
    injection e1 with e1
    subst e1 e3
    exact .inr ⟨g, c, cur, rfl, hb, (Below.heap_setCell _ _ _ _ (Ne.symm hp)).trans hg, r⟩
theorem three_next {w0 w : World} {g1 g2 g3 n k : Nat} {fx fy fz : Nat → UInt8} (h : Three w0 w g1 g2 g3 n (fill n fx k) (fill n fy k) (fill n fz k)) (hk : k < n) :
    Three w0 ((((w.setCell ⟨g1, k, none⟩ (.int .u8 ((fx k).toNat : Int))).setCell ⟨g2, k, none⟩ (.int .u8 ((fy k).toNat : Int))).setCell ⟨g3, k, none⟩ (.int .u8 ((fz k).toNat : Int))).drew) g1 g2 g3 n (fill n fx (k + 1)) (fill n fy (k + 1)) (fill n fz (k + 1)) := by
  obtain ⟨o1, o2, o3, hb, q1, q2, q3, q12, q13, q23⟩ := h
  have a1 := (o1.stored k (.int .u8 ((fx k).toNat : Int))).1
  rw [bv_fill_set n fx k hk] at a1
  have a2 := ((own_set o2 (p := ⟨g1, k, none⟩) q12 (.int .u8 ((fx k).toNat : Int))).stored k (.int .u8 ((fy k).toNat : Int))).1
  rw [bv_fill_set n fy k hk] at a2
  have a3 := ((own_set (own_set o3 (p := ⟨g1, k, none⟩) q13 (.int .u8 ((fx k).toNat : Int))) (p := ⟨g2, k, none⟩) q23 (.int .u8 ((fy k).toNat : Int))).stored k (.int .u8 ((fz k).toNat : Int))).1
  rw [bv_fill_set n fz k hk] at a3
  exact ⟨own_set (own_set a1 (p := ⟨g2, k, none⟩) (Ne.symm q12) _) (p := ⟨g3, k, none⟩) (Ne.symm q13) _, own_set a2 (p := ⟨g3, k, none⟩) (Ne.symm q23) _, a3,
    ((((hb.setCell q1 _).setCell q2 _).setCell q3 _).drew), q1, q2, q3, q12, q13, q23⟩
theorem three_cells {w0 w : World} {g1 g2 g3 n k bA oA : Nat} {fx fy fz : Nat → UInt8} {v : Value} (h : Three w0 w g1 g2 g3 n (fill n fx k) (fill n fy k) (fill n fz k)) (hk : k < n) (n1 : ¬ bA = g1) (n2 : ¬ bA = g2) (hc : w.cell? ⟨bA, oA + k, none⟩ = some v) :
    ((w.setCell ⟨g1, k, none⟩ (.int .u8 ((fx k).toNat : Int))).setCell ⟨g2, k, none⟩ (.int .u8 ((fy k).toNat : Int))).cell? ⟨bA, oA + k, none⟩ = some v ∧
    ((w.setCell ⟨g1, k, none⟩ (.int .u8 ((fx k).toNat : Int))).setCell ⟨g2, k, none⟩ (.int .u8 ((fy k).toNat : Int))).cell? ⟨g1, k, none⟩ = some (.int .u8 ((fx k).toNat : Int)) ∧
    ((w.setCell ⟨g1, k, none⟩ (.int .u8 ((fx k).toNat : Int))).setCell ⟨g2, k, none⟩ (.int .u8 ((fy k).toNat : Int))).cell? ⟨g2, k, none⟩ = some (.int .u8 ((fy k).toNat : Int)) ∧
    ((w.setCell ⟨g1, k, none⟩ (.int .u8 ((fx k).toNat : Int))).setCell ⟨g2, k, none⟩ (.int .u8 ((fy k).toNat : Int))).frozen? ⟨g3, k, none⟩ = false ∧
    ((w.setCell ⟨g1, k, none⟩ (.int .u8 ((fx k).toNat : Int))).setCell ⟨g2, k, none⟩ (.int .u8 ((fy k).toNat : Int))).cell? ⟨g3, k, none⟩ = some (.int .u8 ((0 : UInt8).toNat : Int)) := by
  obtain ⟨o1, o2, o3, hb, q1, q2, q3, q12, q13, q23⟩ := h
  have a1 := (o1.stored k (.int .u8 ((fx k).toNat : Int))).1
  rw [bv_fill_set n fx k hk] at a1
  have b1 := own_set a1 (p := ⟨g2, k, none⟩) (Ne.symm q12) (.int .u8 ((fy k).toNat : Int))
  have a2 := ((own_set o2 (p := ⟨g1, k, none⟩) q12 (.int .u8 ((fx k).toNat : Int))).stored k (.int .u8 ((fy k).toNat : Int))).1
  rw [bv_fill_set n fy k hk] at a2
  have a3 := own_set (own_set o3 (p := ⟨g1, k, none⟩) q13 (.int .u8 ((fx k).toNat : Int))) (p := ⟨g2, k, none⟩) q23 (.int .u8 ((fy k).toNat : Int))
  refine ⟨?_, ?_, ?_, a3.frozenAt k, ?_⟩
  · rw [World.cell?_setCell_other _ _ _ _ (fun e => n2 (congrArg Addr.block e).symm), World.cell?_setCell_other _ _ _ _ (fun e => n1 (congrArg Addr.block e).symm)]; exact hc
  · rw [b1.cellAt k (by omega)]; exact bv_fill_get _ _ _ _ (by omega) hk
  · rw [a2.cellAt k (by omega)]; exact bv_fill_get _ _ _ _ (by omega) hk
  · rw [a3.cellAt k (by omega), bv_get _ _ (by rw [fill_length]; exact hk)]
    simp [fill]
theorem madeZeros (n : Nat) : (madeCells #[Value.int .u8 0] n).toList = bv (List.replicate n 0) := by
  rw [toList_madeCells_one, bv_zeros]
/-- three new rows of noughts, whichever is which -/
theorem three_new (w : World) (n : Nat) (hm : n ≤ maxLen) (i1 i2 i3 : Nat) (h1 : i1 < 3) (h2 : i2 < 3) (h3 : i3 < 3) (h12 : i1 ≠ i2) (h13 : i1 ≠ i3) (h23 : i2 ≠ i3) :
    Three w (((w.drew.alloc (.cells (madeCells #[Value.int .u8 0] n) 5)).alloc (.cells (madeCells #[Value.int .u8 0] n) 5)).alloc (.cells (madeCells #[Value.int .u8 0] n) 5))
      (w.heap.size + i1) (w.heap.size + i2) (w.heap.size + i3) n (List.replicate n 0) (List.replicate n 0) (List.replicate n 0) := by
  have hz : (madeCells #[Value.int .u8 0] n).size = n := by rw [← Array.length_toList, toList_madeCells_one, List.length_replicate]
  have hg : ∀ i, i < 3 → (((w.drew.alloc (.cells (madeCells #[Value.int .u8 0] n) 5)).alloc (.cells (madeCells #[Value.int .u8 0] n) 5)).alloc (.cells (madeCells #[Value.int .u8 0] n) 5)).ownsRow w.heap.size 5 1 (.slice (some ⟨w.heap.size + i, 0, none⟩) n n) n (bv (List.replicate n 0)) := by
    intro i hi
    refine ⟨by simp [bv], .inr ⟨w.heap.size + i, n, madeCells #[Value.int .u8 0] n, rfl, by omega, ?_, Nat.le_refl _, hm, by omega, ?_⟩⟩
    · show (((w.heap.push _).push _).push _)[w.heap.size + i]? = _
      rw [Array.getElem?_push, Array.getElem?_push, Array.getElem?_push]
      match i, hi with
      | 0, _ => simp
      | 1, _ => simp
      | 2, _ => simp
    · rw [Nat.mul_one, List.take_of_length_le (by rw [Array.length_toList, hz]; exact Nat.le_refl _), madeZeros]
  exact ⟨hg i1 h1, hg i2 h2, hg i3 h3, (((Below.refl _ _).drew.alloc (Nat.le_refl _) _).alloc (by simp) _).alloc (by simp; omega) _, by omega, by omega, by omega, by omega, by omega, by omega⟩
set_option maxHeartbeats 800000 in
theorem linear_walk (A : Option Addr) (n cap : Nat) (l : List UInt8) (b c : UInt8) (w : World) (hl : Row w w.heap.size A n (bv l)) (hn : n ≤ cap) (hcap : cap ≤ 9223372036854775807) :
    Calls Try.prog 6 #[.slice A n cap, .int .u8 (b.toNat : Int), .int .u8 (c.toNat : Int)] w fun e w' => e = .returned (.bool true) ∧ Below w.heap.size w w' := by
  by_cases hbig : 2000 < n
  · go_enter Try.func6, Try.ntmps6
    go_wp2_with fail
    refine (awake_any _).mono ?_
    rintro e w' ⟨rfl, hb⟩
    go_wp2
    go_ret
    exact ⟨rfl, hb⟩
  · obtain ⟨i0, hi, hz0, hz1, hz2⟩ := info_parts Try.info5
    have HB := Lib.hid hl.blen
    have hmk : ∀ w : World, (Instr.makeSlice 22 (.int .i64 (n : Int)) (.int .i64 (n : Int))).run Try.prog w = .ok (.slice (some ⟨w.heap.size, 0, none⟩) n n) (w.alloc (.cells (madeCells #[Value.int .u8 0] n) 5)) := by
      intro w
      have := run_make (P := Try.prog) w 22 5 i0 (.int .u8 0) Try.underlying22 hi hz0 .i64 .i64 n n (by omega) (Int.le_refl _) (by rw [hz2]; omega) (by omega)
      simpa [hz1, Value.cells] using this
    go_enter Try.func6, Try.ntmps6
    go_upto_region 3 with fail
    go_cut [7, 8, 9] (fun s7 s8 s9 wx => ∃ g1 g2 g3 : Nat, s7 = .slice (some ⟨g1, 0, none⟩) n n ∧ s8 = .slice (some ⟨g2, 0, none⟩) n n ∧ s9 = .slice (some ⟨g3, 0, none⟩) n n ∧ Three w wx g1 g2 g3 n (List.replicate n 0) (List.replicate n 0) (List.replicate n 0))
    case first =>
      go_region
      all_goals
        go_wp2_with fail
        go_meet
        first
          | exact ⟨_, _, _, rfl, rfl, rfl, three_new w n (by unfold maxLen; omega) 0 1 2 (by omega) (by omega) (by omega) (by omega) (by omega) (by omega)⟩
          | exact ⟨_, _, _, rfl, rfl, rfl, three_new w n (by unfold maxLen; omega) 0 2 1 (by omega) (by omega) (by omega) (by omega) (by omega) (by omega)⟩
          | exact ⟨_, _, _, rfl, rfl, rfl, three_new w n (by unfold maxLen; omega) 1 0 2 (by omega) (by omega) (by omega) (by omega) (by omega) (by omega)⟩
          | exact ⟨_, _, _, rfl, rfl, rfl, three_new w n (by unfold maxLen; omega) 1 2 0 (by omega) (by omega) (by omega) (by omega) (by omega) (by omega)⟩
          | exact ⟨_, _, _, rfl, rfl, rfl, three_new w n (by unfold maxLen; omega) 2 0 1 (by omega) (by omega) (by omega) (by omega) (by omega) (by omega)⟩
          | exact ⟨_, _, _, rfl, rfl, rfl, three_new w n (by unfold maxLen; omega) 2 1 0 (by omega) (by omega) (by omega) (by omega) (by omega) (by omega)⟩
    case rest =>
      clear hmk
      obtain ⟨g1, g2, g3, rfl, rfl, rfl, hthree⟩ := hcut
      go_wp2_with fail
      go_loopw [26] (fun i wr => ∃ k : Nat, k ≤ n ∧ i = .int .i64 k ∧ Hid (Three w wr g1 g2 g3 n (fill n (lx b) k) (fill n (ly c) k) (fill n (lz l b c) k))) (fun i _ => n - (intOf i).toNat)
      case atStart => exact ⟨0, by omega, rfl, by rw [fill_zero, fill_zero, fill_zero]; exact hthree⟩
      case round =>
        obtain ⟨k, hk, rfl, hth⟩ := hrel
        clear hthree
        by_cases hlt : k < n
        · obtain ⟨o1, o2, o3, hbk, q1, q2, q3, q12, q13, q23⟩ := hth.out
          have f1 := o1.frozenAt k
          have f2 := o2.frozenAt k
          have f3 := o3.frozenAt k
          have z1 := o1.cellAt k (by omega)
          have z2 := o2.cellAt k (by omega)
          have z3 := o3.cellAt k (by omega)
          rw [bv_get _ _ (by rw [fill_length]; exact hlt)] at z1 z2 z3
          obtain ⟨bA, oA, rfl, hbA, hkl, hcell⟩ := (hl.below hbk).byteAt hlt
          have hc1 : (l[k].toNat : Int) ≤ 255 := by have := CrcM.b_lt l[k]; omega
          have hc2 : (b.toNat : Int) ≤ 255 := by have := CrcM.b_lt b; omega
          have hc3 : (c.toNat : Int) ≤ 255 := by have := CrcM.b_lt c; omega
          clear o1 o2 o3 hbk
          have n1 : ¬ bA = g1 := by omega
          have n2 : ¬ bA = g2 := by omega
          have n3 : ¬ bA = g3 := by omega
          go_upto_region 9 with fail
          simp only [lx_int, lx_int2, ly_int]
          obtain ⟨y0, y1, y2, y3, y4⟩ := three_cells hth.out hlt n1 n2 hcell
          clear z1 z2 z3 f1 f2 f3 hcell
          generalize hW : (wr.setCell ⟨g1, k, none⟩ (.int .u8 ((lx b k).toNat : Int))).setCell ⟨g2, k, none⟩ (.int .u8 ((ly c k).toNat : Int)) = W2 at *
          have HW := Lib.hid hW
          clear hW
          refine wp_region_still_tail 17 (by kernel_rfl) (by kernel_rfl) ?_
          change wpStill _ _ (World.drew _) _ _ _
          simp only [List.take_succ_cons, List.take_zero, List.drop_succ_cons, List.drop_zero]
          repeat still_step
          refine wpStill_nil ?_
          rw [lz_int l b c k hkl]
          change wpList _ _ _ _ _ (World.drew _)
          go_wp2_with fail
          go_roundw
          case rel => exact ⟨k + 1, by omega, by go_num, by rw [← HW.out]; exact three_next hth.out hlt⟩
          case measure => simp [intOf]; omega
        · have : k = n := by omega
          subst this
          obtain ⟨o1, o2, o3, hbk, _⟩ := hth.out
          have hsum := linear_sum l b c
          rw [HB.out] at hsum
          have hx : (bits .xor .u32 (bits .xor .u32 (CrcM.sum l : Int) (CrcM.sum (fill k (lx b) k) : Int)) (CrcM.sum (fill k (ly c) k) : Int) == (CrcM.sum (fill k (lz l b c) k) : Int)) = true := by
            rw [u32_xor_nat _ _ (CrcM.sum_lt _) (CrcM.sum_lt _), u32_xor_nat _ _ (CrcM.xor_lt _ _ _ (CrcM.sum_lt _) (CrcM.sum_lt _)) (CrcM.sum_lt _), hsum]
            exact beq_self_eq_true _
          clear hsum
          go_wp2_with fail
          refine (sum_any _ k cap A l _ (hl.below hbk) (by omega)).mono ?_
          rintro e w' ⟨rfl, rfl⟩
          go_wp2_with fail
          refine (sum_any _ k k _ _ _ (Row.of_own o1) (by omega)).mono ?_
          rintro e w' ⟨rfl, rfl⟩
          go_wp2_with fail
          refine (sum_any _ k k _ _ _ (Row.of_own o2) (by omega)).mono ?_
          rintro e w' ⟨rfl, rfl⟩
          go_wp2_with fail
          refine (sum_any _ k k _ _ _ (Row.of_own o3) (by omega)).mono ?_
          rintro e w' ⟨rfl, rfl⟩
          go_wp2_with fail
          refine (awake_any _).mono ?_
          rintro e w' ⟨rfl, hb⟩
          go_wp2
          go_ret
          exact ⟨rfl, hbk.trans (hb.mono hbk.size)⟩

set_option maxRecDepth 100000 in
theorem crcLinear_lifted (os : Os) (started : os.Started) (H : Type) (enc : TypeId × Value → H) :
    ReturnsInHanded {} Try.checked os 6 .any (Rows.crcLinearSpec.pre6 enc Try.prog Try.f6 Rows.crcLinearRow.domain false) (Rows.crcLinearSpec.post enc Try.prog Try.f6 false true false false) := by
  refine law_lift (C := Try.checked) (tb := 4) Try.own started (by kernel_rfl) Try.func6
    (ChangeSpec.witness6 (enc := enc) (C := Try.checked) false ⟨#[], #[.slice none 0 0, .int .u8 0, .int .u8 0], []⟩ 8 (by kernel_rfl) (by kernel_rfl) (by kernel_rfl) (by kernel_rfl)) Try.laidOut (by kernel_rfl) rfl rfl Try.underlying4 ?_ ?_
  · intro ds hds
    match ds, hds with
    | [_, _, _], _ => rfl
  intro W base args ds p hval0 hA0 _ _ hsz0
  have hval : ∀ (j : Nat) t v, Try.f6.params[j]? = some t → args[j]? = some v → Value.okWide Try.prog W .any base t v := hval0
  have hA : DataW.TrodAll enc Try.prog W 0 (fun _ => true) true Try.f6.params.toList args.toList ds p := hA0
  rw [Try.params6] at hA hval
  obtain ⟨v0, v1, v2, d0, d1, d2, p0, p1, p2, rfl, rfl, rfl, h0, h1, h2⟩ := trodAll_three hA
  obtain ⟨A0, n0, cap0, l0, rfl, hrow0, hnc0, hcm0⟩ := open_bytes Try.underlying22 Try.underlying5 Try.cells5 (hval 0 22 v0 rfl rfl) h0
  obtain ⟨x1, rfl⟩ := open_byte Try.underlying5 (hval 1 5 v1 rfl rfl) h1
  obtain ⟨x2, rfl⟩ := open_byte Try.underlying5 (hval 2 5 v2 rfl rfl) h2
  exact linear_walk A0 n0 cap0 l0 x1 x2 W hrow0 hnc0 hcm0

theorem crcLinear_holds : Rows.CrcLinearSaid :=
  OpenClaim.holds_of_wide 6 Try.f6 rfl rfl rfl rfl rfl rfl rfl ⟨rfl, rfl, rfl, rfl, rfl⟩ rfl rfl rfl rfl rfl (by kernel_rfl) Try.func6 (by kernel_rfl)
    (of_decide_eq_true (by kernel_rfl)) (by unfold Func.isWrapper; rw [if_neg (of_decide_eq_false (by kernel_rfl))]; exact ⟨rfl, rfl⟩)
    (fun os started H enc _ => crcLinear_lifted os started H enc)
end Go.Proofs.Ytcnjhpbakommbaa
