/- DigestCuts' walk. -/
import Derived.Test.YtapjaagigjfidaaDoorDgLong
import Derived.Test.YtapjaagigjfidaaDoorLawNums
import Derived.Deep.RegionLaw
namespace Go.Proofs.YtapjaagigjfidaaDoor.Sh
open Go.RowKit
theorem step_app {P : Program} {ops : Array Oper} {o : Oper} {a : Act} {w : World} {K : Act → World → Prop} {Q : Exit → Act → World → Prop} {E : Prop} (hgd : o.guard = none) (s x : Operand) (t : TypeId)
    (ho : o.op = .call { callee := .builtin .append, args := #[s, x], argTypes := #[t, t] })
    (base : Nat) (e : TypeId) (i : TypeInfo) (z : Value) (bytes : Nat) (ht : P.underlying t = some (.slice e)) (hi : P.info? e = some i) (hz : i.zero = some z)
    (hsize : i.size = 1) (hby : i.bytes = bytes) (hzs : z.cells.size = 1)
    (v : Value) (n : Nat) (xs : List Value) (hs : a.eval s = v) (hown : w.ownsRow base e 1 v n xs)
    (B : Nat) (A : Option Addr) (m c : Nat) (news : List Value) (hx : a.eval x = .slice A m c) (hr : Row w B A m news) (h1 : ∀ u ∈ news, u.oneCell' = true)
    (h63 : n + m ≤ maxLen) (hbytes : (n + m) * bytes ≤ 140737488355328) (hbase : base ≤ w.heap.size)
    (h : ∀ v' w', w'.ownsRow base e 1 v' (n + m) (xs ++ news) → w.grownBy w' v.ownBlock → (v'.ownBlock = v.ownBlock ∨ v'.ownBlock = some w.heap.size) → K (a.put o.dst v') w') :
    if Region.wanted o (yielded ops a.tmps) = true then Oper.wp P o a w K Q else E := by
  have hw : Region.wanted o (yielded ops a.tmps) = true := by simp [Region.wanted, hgd]
  rw [if_pos hw]
  exact wp_app s x t ho base e i z bytes ht hi hz hsize hby hzs v n xs hs hown B A m c news hx hr h1 h63 hbytes hbase h
def CutA (w : World) (l : List UInt8) (k : Nat) (A : Option Addr) (c : Nat) (es : List BRow) (AR : Option Addr) (nr cr : Nat) (r : List UInt8) (wr : World) : Prop :=
  es.length = k ∧ wr.ownsRow w.heap.size 23 1 (.slice A k c) k (es.map BRow.val) ∧ (∀ e ∈ es, Row w w.heap.size e.A e.n (bv e.l)) ∧ Row w w.heap.size AR nr (bv r) ∧ nr ≤ cr ∧ cr ≤ 9223372036854775807 ∧ l = flat es ++ r ∧ Below w.heap.size w wr
set_option maxRecDepth 100000 in
set_option maxHeartbeats 1600000 in
theorem cuts_walk (A1 : Option Addr) (n1 c1 : Nat) (l : List UInt8) (A2 : Option Addr) (n2 c2 : Nat) (zs : List Int) (w : World) (ht : Tab w) (h1 : Row w w.heap.size A1 n1 (bv l)) (hc1 : n1 ≤ c1) (hc1' : c1 ≤ 9223372036854775807) (_ : n2 ≤ c2) (_ : c2 ≤ 9223372036854775807)
    (hzs : ∀ i, i < n2 → ∃ b o, A2 = some ⟨b, o, none⟩ ∧ b < w.heap.size ∧ w.cell? ⟨b, o + i, none⟩ = some (.int .i64 (zs.getD i 0)) ∧ -9223372036854775808 ≤ zs.getD i 0 ∧ zs.getD i 0 ≤ 9223372036854775807) :
    Calls Tryd.prog 4 #[.slice A1 n1 c1, .slice A2 n2 c2] w fun e w' => e = .returned (.bool true) ∧ Below w.heap.size w w' := by
  obtain ⟨j0, hj, hy0, hy1, hy2⟩ := info_parts Tryd.info23
  have HT := Lib.hid ht
  have H1 := Lib.hid h1
  have HZS := Lib.hid hzs
  have HL := Lib.hid h1.blen
  clear ht h1 hzs
  by_cases hb1 : 1500 < n1
  · clear hc1 hc1'
    go_enter Tryd.func4, Tryd.ntmps4
    go_wp2_with fail
    refine (awake2_any _ HT.out).mono ?_
    rintro e w1 ⟨rfl, hb⟩
    go_wp2_with fail
    go_ret
    exact ⟨rfl, hb⟩
  by_cases hb2 : 30 < n2
  · clear hc1 hc1'
    go_enter Tryd.func4, Tryd.ntmps4
    go_wp2_with fail
    refine (awake2_any _ HT.out).mono ?_
    rintro e w1 ⟨rfl, hb⟩
    go_wp2_with fail
    go_ret
    exact ⟨rfl, hb⟩
  have hA0 : Hid (CutA w l 0 none 0 [] A1 n1 c1 l w) := ⟨rfl, World.ownsRow_nil _ _ _ _, by simp, H1.out, hc1, hc1', by simp [flat], Below.refl _ _⟩
  go_enter Tryd.func4, Tryd.ntmps4
  go_wp2_with fail
  go_loopw [5, 6, 22] (fun rs rest i wr => ∃ k : Nat, k ≤ n2 ∧ i = .int .i64 k ∧ ∃ A c es AR nr cr r, rs = .slice A k c ∧ rest = .slice AR nr cr ∧ Hid (CutA w l k A c es AR nr cr r wr)) (fun _ _ i _ => n2 - (intOf i).toNat)
  case atStart => exact ⟨0, by omega, rfl, none, 0, [], A1, n1, c1, l, rfl, rfl, hA0⟩
  case round =>
    obtain ⟨k, hk, rfl, A, c, es, AR, nr, cr, r, rfl, rfl, hd⟩ := hrel
    clear hA0
    have hnr : nr ≤ 1500 := by
      have e1 := hd.out.2.2.2.2.2.2.1
      have e2 := hd.out.2.2.2.1.blen
      have e3 := congrArg List.length e1
      rw [List.length_append, e2, HL.out] at e3
      omega
    by_cases hlt : k < n2
    · obtain ⟨b, o, rfl, hbw, hcell, _, _⟩ := HZS.out k hlt
      have hcell' := (hd.out.2.2.2.2.2.2.2.cell (p := ⟨b, o + k, none⟩) hbw).trans hcell
      obtain ⟨q, hq, hpick⟩ := pick_in (zs.getD k 0) ((nr : Int) + 1) (by omega) (by omega)
      have HP := Lib.hid hpick
      have hcr := hd.out.2.2.2.2.1
      have hcr' := hd.out.2.2.2.2.2.1
      have hq' : q ≤ nr := by omega
      have hqc : q ≤ cr := by omega
      have HW := hd.out.2.2.2.2.2.2.2.size
      generalize zs.getD k 0 = z at *
      clear hcell hpick hq
      by_cases hcq : cr = q
      · have HO := Lib.hid hd.out.2.1
        have hR1 := hd.out.2.2.2.1.head hq'
        have hR2 := hd.out.2.2.2.1.tail hq' hcr
        rw [if_pos hcq] at hR2
        obtain rfl : q = cr := hcq.symm
        have HD := hd
        have hrn : Hid (∀ V : Value, Row (wr.alloc (.cells #[V] 23)) (wr.heap.size + 1) (some ⟨wr.heap.size, 0, none⟩) 1 [V]) := fun V => row_new wr #[V] _ (0, 0)
        have HR1 := Lib.hid hR1
        have HR2 := Lib.hid hR2
        clear hd hR1 hR2
        go_wp2_with (rw [HP.out])
        go_region_law (refine step_app rfl (.tmp 34) (.tmp 38) 22 rfl w.heap.size 23 j0 (.slice none 0 0) 24 Tryd.underlying22 hj hy0 hy1 hy2 rfl _ k _ (by simp [Act.eval, Act.put]) (HO.out.alloc _) _ _ 1 1 _ (by simp [Act.eval, Act.put]) (hrn.out _) (by intro u hu; simp at hu; subst hu; rfl) (by unfold maxLen; omega) (by omega) (by simp; omega) ?_; intro v2 w2 hown2 hg2 hat2)
        obtain ⟨A3, c3, rfl, _⟩ := own_slice hown2
        have hD : Hid (CutA w l (k + 1) A3 c3 (es ++ [⟨AR, q, q, r.take q⟩]) AR 0 0 (r.drop q) w2) := by
          obtain ⟨d1, d2, d3, d4, d5, d6, d7, d8⟩ := HD.out
          refine ⟨by rw [List.length_append, d1]; rfl, ?_, ?_, ?_, by omega, by omega, ?_, ?_⟩
          · rw [List.map_append]; exact hown2
          · intro e he
            rcases List.mem_append.1 he with he | he
            · exact d3 e he
            · rw [List.mem_singleton] at he
              subst he
              have := HR1.out
              rw [bv_take] at this
              exact this
          · have := HR2.out
            rw [bv_drop, show nr - q = 0 by omega] at this
            exact this
          · rw [flat_snoc, List.append_assoc, List.take_append_drop]; exact d7
          · exact below_app (d8.alloc HW _).drew (by simp; omega) (by exact HO.out.alloc _) (Nat.le_refl _) hg2
        clear hown2 hg2 hat2 HD HO HR1 HR2 hrn
        go_wp2_with fail
        go_roundw
        case rel => exact ⟨k + 1, by omega, by go_num, A3, c3, _, _, _, _, _, rfl, rfl, hD⟩
        case measure => simp [intOf]; omega
      · have HO := Lib.hid hd.out.2.1
        have hR1 := hd.out.2.2.2.1.head hq'
        have hR2 := hd.out.2.2.2.1.tail hq' hcr
        rw [if_neg hcq] at hR2
        have HD := hd
        have hrn : Hid (∀ V : Value, Row (wr.alloc (.cells #[V] 23)) (wr.heap.size + 1) (some ⟨wr.heap.size, 0, none⟩) 1 [V]) := fun V => row_new wr #[V] _ (0, 0)
        have HR1 := Lib.hid hR1
        have HR2 := Lib.hid hR2
        clear hd hR1 hR2
        go_wp2_with (rw [HP.out])
        go_region_law (refine step_app rfl (.tmp 34) (.tmp 38) 22 rfl w.heap.size 23 j0 (.slice none 0 0) 24 Tryd.underlying22 hj hy0 hy1 hy2 rfl _ k _ (by simp [Act.eval, Act.put]) (HO.out.alloc _) _ _ 1 1 _ (by simp [Act.eval, Act.put]) (hrn.out _) (by intro u hu; simp at hu; subst hu; rfl) (by unfold maxLen; omega) (by omega) (by simp; omega) ?_; intro v2 w2 hown2 hg2 hat2)
        obtain ⟨A3, c3, rfl, _⟩ := own_slice hown2
        have hD : Hid (CutA w l (k + 1) A3 c3 (es ++ [⟨AR, q, cr, r.take q⟩]) (AR.map fun x => x.add q) (nr - q) (cr - q) (r.drop q) w2) := by
          obtain ⟨d1, d2, d3, d4, d5, d6, d7, d8⟩ := HD.out
          refine ⟨by rw [List.length_append, d1]; rfl, ?_, ?_, ?_, by omega, by omega, ?_, ?_⟩
          · rw [List.map_append]; exact hown2
          · intro e he
            rcases List.mem_append.1 he with he | he
            · exact d3 e he
            · rw [List.mem_singleton] at he
              subst he
              have := HR1.out
              rw [bv_take] at this
              exact this
          · have := HR2.out
            rw [bv_drop] at this
            exact this
          · rw [flat_snoc, List.append_assoc, List.take_append_drop]; exact d7
          · exact below_app (d8.alloc HW _).drew (by simp; omega) (by exact HO.out.alloc _) (Nat.le_refl _) hg2
        clear hown2 hg2 hat2 HD HO HR1 HR2 hrn
        go_wp2_with fail
        go_roundw
        case rel => exact ⟨k + 1, by omega, by go_num, A3, c3, _, _, _, _, _, rfl, rfl, hD⟩
        case measure => simp [intOf]; omega
    · obtain rfl : n2 = k := by omega
      obtain ⟨d1, d2, d3, d4, d5, d6, d7, d8⟩ := hd.out
      have HO := Lib.hid d2
      have HB := Lib.hid d8
      have hz1 := HB.out.size
      have hR0 : Rows2 wr wr.heap.size A n2 es := ⟨own_rows d2, fun r' hr' => ((d3 r' hr').below d8).more hz1⟩
      have HD3 := Lib.hid d3
      have HR := Lib.hid d4
      have HF := Lib.hid d7
      have hrn : Hid (Row (wr.alloc (.cells #[.slice AR nr cr, .slice none 0 0] 23)) (wr.heap.size + 1) (some ⟨wr.heap.size, 0, none⟩) 2 [.slice AR nr cr, .slice none 0 0]) := row_new wr #[.slice AR nr cr, .slice none 0 0] _ (0, 0)
      clear d1 d2 d3 d4 d7 d8 hd hR0
      go_wp2_with (at_builtin; refine wpList_app rfl (.tmp 44) (.tmp 46) 22 rfl w.heap.size 23 j0 (.slice none 0 0) 24 Tryd.underlying22 hj hy0 hy1 hy2 rfl _ n2 _ rfl (HO.out.alloc _) _ _ 2 2 _ rfl hrn.out (by intro u hu; simp at hu; rcases hu with rfl | rfl <;> rfl) (by unfold maxLen; omega) (by omega) (by simp; omega) ?_; intro v2 w2 hown2 hg2 hat2; obtain ⟨A3, c3, rfl, _⟩ := own_slice hown2; have O2 := Lib.hid hown2; have G2 := Lib.hid hg2; clear hown2 hg2 hat2)
      have HB2 : Hid (Below w.heap.size w w2) := below_app (HB.out.alloc hz1 _) (by simp; omega) (HO.out.alloc _) (Nat.le_refl _) G2.out
      have RR : Hid (Rows2 w2 w2.heap.size A3 (n2 + 2) (es ++ [⟨AR, nr, cr, r⟩, ⟨none, 0, 0, []⟩])) := by
        refine ⟨by rw [List.map_append]; exact own_rows O2.out, fun r' hr' => ?_⟩
        rcases List.mem_append.1 hr' with he | he
        · exact ((HD3.out r' he).below HB2.out).more HB2.out.size
        · simp at he
          rcases he with rfl | rfl
          · exact (HR.out.below HB2.out).more HB2.out.size
          · exact Row.nil _ _ _
      have hfl : Hid (flat (es ++ [⟨AR, nr, cr, r⟩, ⟨none, 0, 0, []⟩]) = l) := by
        show _ = _
        rw [HF.out]; simp [flat]
      clear HO HR HF HD3 hrn G2 O2 HB
      refine (rows_any w2.heap.size (n2 + 2) c3 A3 _ w2 (HT.out.below HB2.out HT.out.1) RR.out (Nat.le_refl _) (by rw [hfl.out, HL.out]; omega) (by omega)).mono ?_
      rintro e w3 ⟨A4, c4, rfl, O3, hb3⟩
      rw [hfl.out] at O3
      have HB3 := Lib.hid (HB2.out.trans (hb3.out.mono HB2.out.size))
      clear hb3 RR hfl
      go_wp2_with fail
      refine (sum_any w.heap.size n1 c1 A1 l w3 (HT.out.below HB3.out HT.out.1) (H1.out.below HB3.out) HB3.out.size (by omega)).mono ?_
      rintro e w4 ⟨A5, c5, rfl, O4, hb4⟩
      have HB4 := Lib.hid (HB3.out.trans (hb4.out.mono HB3.out.size))
      have O3' := Lib.hid (own_below O3.out hb4.out)
      clear hb4 HB3 O3
      go_wp2_with fail
      refine (alike_yes _ _ c4 c5 A4 A5 _ w4 (Row.of_own O3'.out) (Row.of_own O4.out)).mono ?_
      rintro e w' ⟨rfl, rfl⟩
      clear O3' O4
      have R1 : Hid (Rows2 (w4.alloc (.cells #[.slice A1 n1 c1] 23)) (w4.heap.size + 1) (some ⟨w4.heap.size, 0, none⟩) 1 [⟨A1, n1, c1, l⟩]) := by
        refine ⟨row_new w4 #[.slice A1 n1 c1] _ (0, 0), fun r' hr' => ?_⟩
        rw [List.mem_singleton] at hr'
        subst hr'
        exact (((H1.out.below HB4.out).more HB4.out.size).alloc (Nat.le_refl _) _).more (by omega)
      have HB4' : Hid (Below w.heap.size w (w4.alloc (.cells #[.slice A1 n1 c1] 23))) := HB4.out.alloc HB4.out.size _
      have hfl : Hid (flat [(⟨A1, n1, c1, l⟩ : BRow)] = l) := by show _ = _; simp [flat]
      go_wp2_with fail
      refine (rows_any (w4.heap.size + 1) 1 1 _ _ _ (HT.out.below HB4'.out HT.out.1) R1.out (by simp) (by rw [hfl.out, HL.out]; omega) (by omega)).mono ?_
      rintro e w5 ⟨A6, c6, rfl, O5, hb5⟩
      rw [hfl.out] at O5
      have HB5 := Lib.hid (HB4'.out.trans (hb5.out.mono HB4'.out.size))
      clear hb5 HB4 HB4' R1 hfl
      go_wp2_with fail
      refine (sum_any w.heap.size n1 c1 A1 l w5 (HT.out.below HB5.out HT.out.1) (H1.out.below HB5.out) HB5.out.size (by omega)).mono ?_
      rintro e w6 ⟨A7, c7, rfl, O6, hb6⟩
      have HB6 := Lib.hid (HB5.out.trans (hb6.out.mono HB5.out.size))
      have O5' := Lib.hid (own_below O5.out hb6.out)
      clear hb6 HB5 O5
      go_wp2_with fail
      refine (alike_yes _ _ c6 c7 A6 A7 _ w6 (Row.of_own O5'.out) (Row.of_own O6.out)).mono ?_
      rintro e w' ⟨rfl, rfl⟩
      clear O5' O6
      go_wp2_with fail
      refine (rows_any w6.heap.size 0 0 none [] w6 (HT.out.below HB6.out HT.out.1) ⟨Row.nil _ _ _, by simp⟩ (Nat.le_refl _) (by simp [flat]) (by omega)).mono ?_
      rintro e w7 ⟨A8, c8, rfl, O7, hb7⟩
      have HB7 := Lib.hid (HB6.out.trans (hb7.out.mono HB6.out.size))
      have hfl : flat [] = ([] : List UInt8) := rfl
      rw [hfl] at O7
      clear hb7 HB6 hfl
      go_wp2_with fail
      refine (sum_any w7.heap.size 0 0 none [] w7 (HT.out.below HB7.out HT.out.1) (Row.nil _ _ _) (Nat.le_refl _) (by omega)).mono ?_
      rintro e w8 ⟨A9, c9, rfl, O8, hb8⟩
      have HB8 := Lib.hid (HB7.out.trans (hb8.out.mono HB7.out.size))
      have O7' := Lib.hid (own_below O7.out hb8.out)
      clear hb8 HB7 O7
      go_wp2_with fail
      refine (alike_yes _ _ c8 c9 A8 A9 _ w8 (Row.of_own O7'.out) (Row.of_own O8.out)).mono ?_
      rintro e w' ⟨rfl, rfl⟩
      clear O7' O8
      go_wp2_with fail
      refine (awake2_any _ (HT.out.below HB8.out HT.out.1)).mono ?_
      rintro e w9 ⟨rfl, hb9⟩
      have HB9 := Lib.hid (HB8.out.trans (hb9.mono HB8.out.size))
      clear hb9
      go_wp2_with fail
      go_ret
      exact ⟨rfl, HB9.out⟩
end Go.Proofs.YtapjaagigjfidaaDoor.Sh
