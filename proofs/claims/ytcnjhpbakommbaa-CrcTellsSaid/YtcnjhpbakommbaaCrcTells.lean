/- CrcTells: what is put is right; with one byte or two side by side changed it is not, wherever they are. For every input, no condition. -/
import Derived.Test.YtcnjhpbakommbaaRows
import Derived.Test.YtcnjhpbakommbaaCrcAwake
import Derived.Test.YtcnjhpbakommbaaCrcPut
import Derived.Test.YtcnjhpbakommbaaLaw
import Derived.Deep.DeepCutAuto
namespace Go.Proofs.Ytcnjhpbakommbaa
open Go.ChangeShapes Go.WideShapes Go.ChangeAt Go.RowKit
open CrcM (put put_length put_take put_right bend bend_length bend_next)

theorem bv_getD (l : List UInt8) (i : Nat) (h : i < l.length) : (bv l)[i]? = some (.int .u8 ((l.getD i 0).toNat : Int)) := by
  rw [bv_get l i h]; simp [List.getD, h]
theorem bv_bend (p : List UInt8) (i : Nat) (x : UInt8) : (bv p).set i (.int .u8 (bits .xor .u8 ((p.getD i 0).toNat : Int) (x.toNat : Int))) = bv (bend p i x) := by
  rw [u8_xor_nat _ _ (CrcM.b_lt _) (CrcM.b_lt _), ← UInt8.toNat_xor]
  simp only [bv, bend, List.map_set]
set_option maxHeartbeats 400000 in
theorem tells_walk (A : Option Addr) (n cap : Nat) (l : List UInt8) (cut : Int) (hc1 : -9223372036854775808 ≤ cut) (hc2 : cut ≤ 9223372036854775807) (x y : UInt8) (w : World) (hl : Row w w.heap.size A n (bv l)) (hn : n ≤ cap) (hcap : cap ≤ 9223372036854775807) :
    Calls Try.prog 4 #[.slice A n cap, .int .i64 cut, .int .u8 (x.toNat : Int), .int .u8 (y.toNat : Int)] w fun e w' => e = .returned (.bool true) ∧ Below w.heap.size w w' := by
  by_cases hbig : 4000 < n
  · go_enter Try.func4, Try.ntmps4
    go_wp2_with fail
    refine (awake_any _).mono ?_
    rintro e w' ⟨rfl, hb⟩
    go_wp2
    go_ret
    exact ⟨rfl, hb⟩
  · obtain ⟨i, hi, hK⟩ := pick_in cut ((n : Int) + 4 - 1) (by omega) (by omega)
    have HK := Lib.hid hK
    clear hK
    have HB := Lib.hid hl.blen
    go_enter Try.func4, Try.ntmps4
    go_wp2_with fail
    refine (put_any w.heap.size n cap A l _ hl (by omega) (Nat.le_refl _)).mono ?_
    rintro e w1 ⟨A1, n1, c1, rfl, hn1, hown1, hb1⟩
    have hs1 := hb1.size
    have hn1' : n1 = n + 4 := by have := hn1.out; have := HB.out; simp [CrcM.four] at *; omega
    subst hn1'
    obtain ⟨g, c1', hv, hg0, hglt⟩ := hown1.form (by omega)
    injection hv with e1 e2 e3
    subst e1 e3
    have hc1' := own_cap hown1
    go_wp2_with fail
    refine (right_yes w1.heap.size (n + 4) c1 _ (put l) w1 (Row.of_own hown1) hc1'.1 hc1'.2 (by omega) (Nat.le_refl _) (put_right _)).mono ?_
    rintro e w2 ⟨A2, n2, c2, rfl, hn2, hown2, hb2⟩
    have hs2 := hb2.size
    rw [put_take] at hn2 hown2
    have hb2' : Below w.heap.size w w2 := hb1.trans (hb2.mono hs1)
    have hk1 := run_string_row (P := Try.prog) (Row.of_own hown2) c2 22 9 5 Try.underlying22 Try.underlying5 Try.underlying9
    have hk2 := run_string_row (P := Try.prog) (hl.below hb2') cap 22 9 5 Try.underlying22 Try.underlying5 Try.underlying9
    go_upto_region 8 with fail
    rw [HK.out]
    clear hk1 hk2
    have hown1' := own_below hown1 hb2
    have hpl : (put l).length = n + 4 := by rw [put_length, HB.out]
    have hcell1 : w2.cell? ⟨g, i, none⟩ = _ := (hown1'.cellAt i (by omega)).trans (bv_getD (put l) i (by rw [hpl]; omega))
    have hcell2 : w2.cell? ⟨g, i + 1, none⟩ = _ := (hown1'.cellAt (i + 1) (by omega)).trans (bv_getD (put l) (i + 1) (by rw [hpl]; omega))
    have HPL := Lib.hid hpl
    clear hpl
    have hown3 := (hown1'.stored i (.int .u8 (bits .xor .u8 (((put l).getD i 0).toNat : Int) (x.toNat : Int)))).1
    rw [show bv (l ++ CrcM.four (CrcM.sum l)) = bv (put l) from rfl, bv_bend] at hown3
    have hown4 := (hown3.stored (i + 1) (.int .u8 (bits .xor .u8 (((put l).getD (i + 1) 0).toNat : Int) (y.toNat : Int)))).1
    rw [← bend_next (put l) i x, bv_bend] at hown4
    have hfr1 := hown1'.frozenAt i
    have hfr2 := hown1'.frozenAt (i + 1)
    generalize (put l).getD i 0 = u at *
    rw [bend_next] at hown4
    generalize (put l).getD (i + 1) 0 = v at *
    have hR := CrcM.tells l i (by rw [HB.out]; omega) x y
    have hc3 := own_cap hown4
    have hbv : Below w.heap.size w ((w2.setCell ⟨g, i, none⟩ (.int .u8 (bits .xor .u8 (u.toNat : Int) (x.toNat : Int)))).setCell ⟨g, i + 1, none⟩ (.int .u8 (bits .xor .u8 (v.toNat : Int) (y.toNat : Int)))) := (hb2'.setCell hg0 _).setCell hg0 _
    have hsv := hbv.size
    have HR := Lib.hid hR
    clear hR
    by_cases hx0 : x = 0
    · have hxi : ((x.toNat : Int) == 0) = true := by rw [hx0]; rfl
      by_cases hy0 : y = 0
      · have hyi : ((y.toNat : Int) == 0) = true := by rw [hy0]; rfl
        have HY : Hid (isRight (bend (bend (put l) i x) (i + 1) y)) := HR.out.2 ⟨hx0, hy0⟩
        clear hx0 hy0
        go_wp2_with fail
        refine (right_yes _ (n + 4) c1 _ _ _ (Row.of_own hown4) hc3.1 hc3.2 (by omega) (Nat.le_refl _) HY.out).mono ?_
        rintro e w3 ⟨A3, n3, c3, rfl, hn3, hown5, hb3⟩
        have hb3' := hbv.trans (hb3.mono hsv)
        clear hb3 hown5 hown4 hown3 hcell1 hcell2 hbv
        go_wp2_with fail
        refine (awake_any _).mono ?_
        rintro e w6 ⟨rfl, hb6⟩
        go_wp2
        go_ret
        exact ⟨rfl, hb3'.trans (hb6.mono hb3'.size)⟩
      · have hyi : ((y.toNat : Int) == 0) = false := beq_eq_false_iff_ne.2 fun h => hy0 (UInt8.toNat.inj (by rw [Int.ofNat.inj h]; rfl))
        have HY : Hid (¬ isRight (bend (bend (put l) i x) (i + 1) y)) := fun h => hy0 (HR.out.1 h).2
        clear hx0 hy0
        go_wp2_with fail
        refine (right_no _ (n + 4) c1 _ _ _ (Row.of_own hown4) hc3.1 hc3.2 (Nat.le_refl _) HY.out).mono ?_
        rintro e w3 ⟨rfl, hb3⟩
        have hb3' := hbv.trans (hb3.mono hsv)
        clear hb3 hown4 hown3 hcell1 hcell2 hbv
        go_wp2_with fail
        refine (awake_any _).mono ?_
        rintro e w6 ⟨rfl, hb6⟩
        go_wp2
        go_ret
        exact ⟨rfl, hb3'.trans (hb6.mono hb3'.size)⟩
    · have hxi : ((x.toNat : Int) == 0) = false := beq_eq_false_iff_ne.2 fun h => hx0 (UInt8.toNat.inj (by rw [Int.ofNat.inj h]; rfl))
      have HY : Hid (¬ isRight (bend (bend (put l) i x) (i + 1) y)) := fun h => hx0 (HR.out.1 h).1
      clear hx0
      go_wp2_with fail
      refine (right_no _ (n + 4) c1 _ _ _ (Row.of_own hown4) hc3.1 hc3.2 (Nat.le_refl _) HY.out).mono ?_
      rintro e w3 ⟨rfl, hb3⟩
      have hb3' := hbv.trans (hb3.mono hsv)
      clear hb3 hown4 hown3 hcell1 hcell2 hbv
      go_wp2_with fail
      refine (awake_any _).mono ?_
      rintro e w6 ⟨rfl, hb6⟩
      go_wp2
      go_ret
      exact ⟨rfl, hb3'.trans (hb6.mono hb3'.size)⟩

set_option maxRecDepth 100000 in
theorem crcTells_lifted (os : Os) (started : os.Started) (H : Type) (enc : TypeId × Value → H) :
    ReturnsInHanded {} Try.checked os 4 .any (Rows.crcTellsSpec.pre6 enc Try.prog Try.f4 Rows.crcTellsRow.domain false) (Rows.crcTellsSpec.post enc Try.prog Try.f4 false true false false) := by
  refine law_lift (C := Try.checked) (tb := 4) Try.own started (by kernel_rfl) Try.func4
    (ChangeSpec.witness6 (enc := enc) (C := Try.checked) false ⟨#[], #[.slice none 0 0, .int .i64 0, .int .u8 0, .int .u8 0], []⟩ 8 (by kernel_rfl) (by kernel_rfl) (by kernel_rfl) (by kernel_rfl)) Try.laidOut (by kernel_rfl) rfl rfl Try.underlying4 ?_ ?_
  · intro ds hds
    match ds, hds with
    | [_, _, _, _], _ => rfl
  intro W base args ds p hval0 hA0 _ _ _
  have hval : ∀ (j : Nat) t v, Try.f4.params[j]? = some t → args[j]? = some v → Value.okWide Try.prog W .any base t v := hval0
  have hA : DataW.TrodAll enc Try.prog W 0 (fun _ => true) true Try.f4.params.toList args.toList ds p := hA0
  rw [Try.params4] at hA hval
  obtain ⟨v0, vs0, d0, ds0, p0, q0, hargs0, hds0, hps0, h0, r0⟩ := trodAll_cons hA
  obtain ⟨v1, vs1, d1, ds1, p1, q1, hargs1, hds1, hps1, h1, r1⟩ := trodAll_cons r0
  obtain ⟨v2, vs2, d2, ds2, p2, q2, hargs2, hds2, hps2, h2, r2⟩ := trodAll_cons r1
  obtain ⟨v3, vs3, d3, ds3, p3, q3, hargs3, hds3, hps3, h3, r3⟩ := trodAll_cons r2
  obtain ⟨e1, _, _⟩ := trodAll_nil r3
  obtain rfl : args = #[v0, v1, v2, v3] := by cases args; simp_all
  obtain ⟨A0, n0, cap0, l0, rfl, hrow0, hnc0, hcm0⟩ := open_bytes Try.underlying22 Try.underlying5 Try.cells5 (hval 0 22 v0 rfl rfl) h0
  obtain ⟨x1, rfl, hx1, hy1⟩ := open_i64 Try.underlying3 (hval 1 3 v1 rfl rfl) h1
  obtain ⟨x2, rfl⟩ := open_byte Try.underlying5 (hval 2 5 v2 rfl rfl) h2
  obtain ⟨x3, rfl⟩ := open_byte Try.underlying5 (hval 3 5 v3 rfl rfl) h3
  exact tells_walk A0 n0 cap0 l0 x1 hx1 hy1 x2 x3 W hrow0 hnc0 hcm0

theorem crcTells_holds : Rows.CrcTellsSaid :=
  OpenClaim.holds_of_wide 4 Try.f4 rfl rfl rfl rfl rfl rfl rfl ⟨rfl, rfl, rfl, rfl, rfl⟩ rfl rfl rfl rfl rfl (by kernel_rfl) Try.func4 (by kernel_rfl)
    (of_decide_eq_true (by kernel_rfl)) (by unfold Func.isWrapper; rw [if_neg (of_decide_eq_false (by kernel_rfl))]; exact ⟨rfl, rfl⟩)
    (fun os started H enc _ => crcTells_lifted os started H enc)
end Go.Proofs.Ytcnjhpbakommbaa
