/- ManifestNumbers' walk. -/
import Derived.Test.YtofkopjjgdfliaaDoorManSp
namespace Go.Proofs.YtofkopjjgdfliaaDoor
open Go.RowKit
open Sh
theorem man_room {M : LMan} {L Z : Nat} (hm : M.may = true) (e1 : M.l = (L : Int)) (e2 : M.z = (Z : Int)) : L ≤ 64 * Z := by
  obtain ⟨s, v, l, z, p, h⟩ := M
  dsimp only at e1 e2
  subst e1 e2
  simp only [LMan.may, manB, ofB, mayB, Bool.and_eq_true, decide_eq_true_eq] at hm
  obtain ⟨⟨⟨⟨h1, h2⟩, h3, h4⟩, h5, h6⟩, h7⟩ := hm
  unfold BlkM.count at h1 h2
  split at h1
  · omega
  · next h9 =>
    split at h1
    · omega
    · next h10 =>
      rcases Nat.lt_or_ge (64 * Z) L with h | h
      · exfalso
        apply h10
        have : (65 : Int) ≤ ((L : Int) + (Z : Int) - 1) / (Z : Int) := (Int.le_ediv_iff_mul_le (by omega)).2 (by omega)
        omega
      · exact h
set_option maxRecDepth 100000 in
set_option maxHeartbeats 1600000 in
theorem manNu_walk (s v : Nat) (l z p : Int) (A : Option Addr) (n c : Nat) (d : List UInt8) (w : World) (ht : Tab w) (hr : Row w w.heap.size A n (bv d)) (hnc : n ≤ c) :
    Calls Tryd.prog 7 #[.agg #[.int .u32 (s : Int), .int .u32 (v : Int), .int .i64 l, .int .i64 z, .int .i64 p, .slice A n c]] w fun e w' => e = .returned (.bool true) ∧ Below w.heap.size w w' := by
  obtain ⟨i0, hi, hz0, hz1, hz2⟩ := info_parts Tryd.info5
  have hs := man_in (s := s) (v := v) (l := l) (z := z) (p := p) (c := c) hr
  have hlen := hr.blen
  have HT := Lib.hid ht
  have IN : Hid ((Tryd.prog.info? 25).map (·.size) = some (#[.int .u32 (s : Int), .int .u32 (v : Int), .int .i64 l, .int .i64 z, .int .i64 p, .slice A n c] : Array Value).size) := Lib.hid (by kernel_rfl)
  have e0 := ((Env.start w).addMan hs).alloc #[.int .u32 (s : Int), .int .u32 (v : Int), .int .i64 l, .int .i64 z, .int .i64 p, .slice A n c] 25
  have E0 := Lib.hid e0
  have k5 := e0.cell (.head _) 5
  have HR0 := Lib.hid hr
  clear e0 hs ht hnc hr
  by_cases h100 : 100 < n
  · go_enter Tryd.func7, Tryd.ntmps7
    go_wp2_with fail
    generalize w.alloc (.cells #[.int .u32 (s : Int), .int .u32 (v : Int), .int .i64 l, .int .i64 z, .int .i64 p, .slice A n c] 25) = w0 at *
    refine (awake14_any _ (HT.out.below E0.out.b HT.out.1)).mono ?_
    rintro e wz ⟨rfl, hbz⟩
    have hb := (E0.out.below hbz).b
    go_wp2_with fail
    go_ret
    exact ⟨rfl, hb⟩
  have q1 : decide ((100 : Int) < (n : Int)) = false := by simp; omega
  have q2 : (n : Int) ≤ 100 := by omega
  go_enter Tryd.func7, Tryd.ntmps7
  go_upto_region 4 with (first
    | ((with_reducible show wpList _ _ _ _ _ _); refine wpList_load_row (o := ⟨some 9, _, _, _, _, _⟩) rfl _ (.tmp 1) rfl w.heap.size rfl _ _ _ _ (E0.out.bx _ _ _ (.head _)) Tryd.underlying25 rfl IN.out ?_)
    | ((with_reducible show wpList _ _ _ _ _ _); refine wpList_store_new rfl rfl _ (.tmp 3) (.tmp 9) rfl _ _ #[.int .u32 (s : Int), .int .u32 (v : Int), .int .i64 l, .int .i64 z, .int .i64 p, .slice A n c] _ rfl rfl IN.out (by rfl) (by simp [Value.oneCell']) ?_))
  have es : (w.alloc (.cells #[.int .u32 (s : Int), .int .u32 (v : Int), .int .i64 l, .int .i64 z, .int .i64 p, .slice A n c] 25)).heap.size = w.heap.size + 1 := by simp
  generalize w.alloc (.cells #[.int .u32 (s : Int), .int .u32 (v : Int), .int .i64 l, .int .i64 z, .int .i64 p, .slice A n c] 25) = w2 at *
  have ba : Below w2.heap.size w2 (w2.alloc (.cells #[.int .u32 (s : Int), .int .u32 (v : Int), .int .i64 l, .int .i64 z, .int .i64 p, .slice A n c] 25)) := (Below.refl _ _).alloc (Nat.le_refl _) _
  have HX3 := Lib.hid (heap_alloc_new w2 (.cells #[.int .u32 (s : Int), .int .u32 (v : Int), .int .i64 l, .int .i64 z, .int .i64 p, .slice A n c] 25))
  have X1 := Lib.hid ((ba.block _ (Array.getElem?_eq_some_iff.1 (E0.out.bx _ _ _ (.head _))).1).trans (E0.out.bx _ _ _ (.head _)))
  have HB3 := Lib.hid (E0.out.b.trans (ba.mono E0.out.b.size))
  have LT1 := Lib.hid (Array.getElem?_eq_some_iff.1 (E0.out.bx _ _ _ (.head _))).1
  have LT3 : Hid (w2.heap.size < (w2.alloc (.cells #[.int .u32 (s : Int), .int .u32 (v : Int), .int .i64 l, .int .i64 z, .int .i64 p, .slice A n c] 25)).heap.size) := Lib.hid (by simp)
  clear ba E0 k5
  generalize w2.alloc (.cells #[.int .u32 (s : Int), .int .u32 (v : Int), .int .i64 l, .int .i64 z, .int .i64 p, .slice A n c] 25) = w3 at *
  rw [es] at HX3 LT1 LT3
  clear es
  generalize w.heap.size + 1 = b3 at *
  have b4 : Below w3.heap.size w3 (w3.alloc (.cells #[] 5)) := (Below.refl _ _).alloc (Nat.le_refl _) _
  have RA := Lib.hid ((HR0.out.below HB3.out).below (b4.mono HB3.out.size))
  have OA : Hid ((w3.alloc (.cells #[] 5)).ownsRow w3.heap.size 5 1 (.slice (some ⟨w3.heap.size, 0, none⟩) 0 0) 0 (bv [])) := Lib.hid (own_lit #[] rfl (Nat.le_refl _) rfl (by unfold maxLen; omega))
  have k5 := cell_of_row _ w.heap.size 5 _ _ (0, 0) ((b4.block _ (Nat.lt_trans LT1.out LT3.out)).trans X1.out)
  have HBX : Hid (∀ W, Below w3.heap.size w3 W → W.heap[b3]? = some (.cells #[.int .u32 (s : Int), .int .u32 (v : Int), .int .i64 l, .int .i64 z, .int .i64 p, .slice A n c] 25 (0, 0)) ∧ W.heap[w.heap.size]? = some (.cells #[.int .u32 (s : Int), .int .u32 (v : Int), .int .i64 l, .int .i64 z, .int .i64 p, .slice A n c] 25 (0, 0))) := Lib.hid fun W hW => ⟨(hW.block _ LT3.out).trans HX3.out, (hW.block _ (Nat.lt_trans LT1.out LT3.out)).trans X1.out⟩
  clear b4
  go_upto_region 5 with (first
    | (at_builtin; go_loud (refine wpList_app rfl (.tmp 10) (.tmp 12) 23 rfl w3.heap.size 5 i0 (.int .u8 0) 1 Tryd.underlying23 hi hz0 hz1 hz2 rfl _ 0 (bv []) rfl OA.out w.heap.size A n c (bv d) rfl RA.out (bv_one _) (by unfold maxLen; omega) (by omega) (by simp) ?_; intro v6 w6 hown6 hg6 hat6; rw [Nat.zero_add] at hown6; obtain ⟨A6, c6, rfl, _⟩ := own_slice hown6; have HW6 := Lib.hid (below_app ((Below.refl _ _).alloc (Nat.le_refl _) _) (by simp) OA.out (Nat.le_refl _) hg6); have O6 := Lib.hid hown6; clear hown6 hg6 hat6 OA RA k5))
    | (at_builtin; go_loud (refine wpList_app rfl (.tmp 13) (.tmp 14) 23 rfl w3.heap.size 5 i0 (.int .u8 0) 1 Tryd.underlying23 hi hz0 hz1 hz2 rfl _ n (bv [] ++ bv d) rfl (O6.out.alloc _) _ _ 1 1 _ rfl (row_new w6 _ _ _) (by intro u hu; simp at hu; subst hu; rfl) (by unfold maxLen; omega) (by omega) (by have := HW6.out.size; simp; omega) ?_; intro v7 w7 hown7 hg7 hat7; obtain ⟨A7, c7, rfl, _⟩ := own_slice hown7; have HW7 := Lib.hid (below_app (HW6.out.alloc HW6.out.size _) (by have := HW6.out.size; simp; omega) (O6.out.alloc _) (Nat.le_refl _) hg7); have O7 := Lib.hid hown7; clear hown7 hg7 hat7; obtain ⟨hbb, hbw⟩ := HBX.out _ HW7.out; have kk := cell_of_row _ b3 5 _ _ (0, 0) hbb; have ff := frozen_of_row _ b3 5 _ _ hbb; have HBB := Lib.hid hbb; have HBW := Lib.hid hbw; clear hbb hbw)))
  have hx : (w7.setCell ⟨b3, 5, none⟩ (.slice A7 (n + 1) c7)).heap[b3]? = some (.cells #[.int .u32 (s : Int), .int .u32 (v : Int), .int .i64 l, .int .i64 z, .int .i64 p, .slice A7 (n + 1) c7] 25 (0, 0)) := heap_setCell_same _ b3 5 _ _ (.slice A7 (n + 1) c7) HBB.out
  have ko : ∀ b, b ≠ b3 → (w7.setCell ⟨b3, 5, none⟩ (.slice A7 (n + 1) c7)).heap[b]? = w7.heap[b]? := fun b hb => heap_setCell_other _ _ _ _ hb
  have r0 := RowP.of_row (HR0.out.below (HB3.out.trans (HW7.out.mono HB3.out.size)) |>.more (Nat.le_trans HB3.out.size HW7.out.size))
  have o7 : w7.ownsRow w3.heap.size 5 1 (.slice A7 (n + 1) c7) (n + 1) (bv (d ++ [0])) := by rw [bv_append]; exact O7.out
  have hKR : RowP w7 (fun b => b ≠ b3) A7 (n + 1) (bv (d ++ [0])) := by
    refine ⟨(Row.of_own o7).1, fun hn => ?_⟩
    obtain ⟨b, o, e, hlt, hcc⟩ := (Row.of_own o7).2 hn
    have := (o7.lt b (by rw [e]; rfl)).1
    exact ⟨b, o, e, hlt, by have := LT3.out; omega, hcc⟩
  have hRB : RowP w7 (fun b => b < w.heap.size) A n (bv d) := by
    have r1 := HR0.out.below (HB3.out.trans (HW7.out.mono HB3.out.size))
    refine ⟨r1.1, fun hn => ?_⟩
    obtain ⟨b, o, e, hb, hcc⟩ := r1.2 hn
    exact ⟨b, o, e, Nat.lt_of_lt_of_le hb (Nat.le_trans HB3.out.size HW7.out.size), hb, hcc⟩
  have hst : IsMan (w7.setCell ⟨b3, 5, none⟩ (.slice A7 (n + 1) c7)) (fun _ => True) #[.int .u32 (s : Int), .int .u32 (v : Int), .int .i64 l, .int .i64 z, .int .i64 p, .slice A n c] (⟨s, v, l, z, p, d⟩ : LMan) := by
    refine ⟨A, c, by simp only [LMan.cells, hlen], ?_⟩
    show RowP _ _ A d.length (bv d)
    rw [hlen]
    exact (hRB.keep (by simp) fun b hb _ => ko b (by have := LT1.out; omega)).imp fun _ _ _ => trivial
  have hkt : IsMan (w7.setCell ⟨b3, 5, none⟩ (.slice A7 (n + 1) c7)) (fun _ => True) #[.int .u32 (s : Int), .int .u32 (v : Int), .int .i64 l, .int .i64 z, .int .i64 p, .slice A7 (n + 1) c7] (⟨s, v, l, z, p, d ++ [0]⟩ : LMan) := by
    refine ⟨A7, c7, by simp [LMan.cells, hlen], ?_⟩
    show RowP _ _ A7 (d ++ [0]).length (bv (d ++ [0]))
    have e9 : (d ++ [(0 : UInt8)]).length = n + 1 := by simp [hlen]
    rw [e9]
    exact (hKR.keep (by simp) fun b hb _ => ko b hb).imp fun _ _ _ => trivial
  have en : Env w (w7.setCell ⟨b3, 5, none⟩ (.slice A7 (n + 1) c7)) [(b3, #[.int .u32 (s : Int), .int .u32 (v : Int), .int .i64 l, .int .i64 z, .int .i64 p, .slice A7 (n + 1) c7], 25), (w.heap.size, #[.int .u32 (s : Int), .int .u32 (v : Int), .int .i64 l, .int .i64 z, .int .i64 p, .slice A n c], 25)] [] [(#[.int .u32 (s : Int), .int .u32 (v : Int), .int .i64 l, .int .i64 z, .int .i64 p, .slice A7 (n + 1) c7], (⟨s, v, l, z, p, d ++ [0]⟩ : LMan)), (#[.int .u32 (s : Int), .int .u32 (v : Int), .int .i64 l, .int .i64 z, .int .i64 p, .slice A n c], (⟨s, v, l, z, p, d⟩ : LMan))] := by
    refine ⟨(HB3.out.trans (HW7.out.mono HB3.out.size)).setCell (Nat.le_of_lt LT1.out) _, fun g cs t hg => ?_, fun cs M hm => (by cases hm), fun cs K hm => ?_⟩
    · rcases List.mem_cons.1 hg with e | hg
      · injection e with e1 e2; injection e2 with e2 e3; subst e1 e2 e3; exact hx
      · rcases List.mem_cons.1 hg with e | hg
        · injection e with e1 e2; injection e2 with e2 e3; subst e1 e2 e3; exact (ko _ (by have := LT1.out; omega)).trans HBW.out
        · cases hg
    · rcases List.mem_cons.1 hm with e | hm
      · injection e with e1 e2; subst e1 e2; exact hkt
      · rcases List.mem_cons.1 hm with e | hm
        · injection e with e1 e2; subst e1 e2; exact hst
        · cases hm
  have EK := Lib.hid en
  have IK : Hid ((Tryd.prog.info? 25).map (·.size) = some (#[.int .u32 (s : Int), .int .u32 (v : Int), .int .i64 l, .int .i64 z, .int .i64 p, .slice A7 (n + 1) c7] : Array Value).size) := Lib.hid (by kernel_rfl)
  have KE : Hid ((⟨s, v, l, z, p, d⟩ : LMan).eqb (⟨s, v, l, z, p, d ++ [0]⟩ : LMan) = false) := Lib.hid (by
    cases he : (⟨s, v, l, z, p, d⟩ : LMan).eqb (⟨s, v, l, z, p, d ++ [0]⟩ : LMan) with
    | false => rfl
    | true =>
      have e := eqbM_eq he
      injection e with _ _ _ _ _ e
      have := congrArg List.length e
      simp at this)
  clear en hst hkt hKR hRB o7 r0 ko hx kk ff HBB HBW HBX O7 HW7 O6 HW6 HX3 X1 HB3 LT1 LT3 HR0
  generalize (w7.setCell ⟨b3, 5, none⟩ (.slice A7 (n + 1) c7)) = w8 at *
  by_cases hmay : (⟨s, v, l, z, p, d⟩ : LMan).may = true
  · have HM := Lib.hid hmay
    have KM : Hid ((⟨s, v, l, z, p, d ++ [0]⟩ : LMan).may = false) := Lib.hid (by
      cases hx : (⟨s, v, l, z, p, d ++ [0]⟩ : LMan).may with
      | false => rfl
      | true =>
        exfalso
        have h1 := may_32 hmay
        have h2 := may_32 hx
        simp at h1 h2
        omega)
    obtain ⟨L, Z, P, e1, e2, e3, h1, h2, h3, h4, h5, h6⟩ := man_bounds hmay
    have hmul : L ≤ 64 * Z := man_room hmay e1 e2
    dsimp only at e1 e2 e3
    subst e1 e2 e3
    clear hmay h6
    have g1 : (1 : Int) ≤ (L : Int) := by omega
    have g2 : (L : Int) ≤ 512 := by omega
    have g3 : (1 : Int) ≤ (Z : Int) := by omega
    have g4 : (Z : Int) ≤ 16 := by omega
    have g5 : (P : Int) ≤ 16 := by omega
    have g6 : (L : Int) ≤ 64 * (Z : Int) := by omega
    go_wp2_with ((with_reducible show wpList _ _ _ _ _ _); refine wpList_load_row (o := ⟨some 17, _, _, _, _, _⟩) rfl _ (.tmp 1) rfl w.heap.size rfl _ _ _ _ (EK.out.bx _ _ _ (.tail _ (.head _))) Tryd.underlying25 rfl IN.out ?_)
    refine (mayM (EK.out.mn _ _ (.tail _ (.head _)))).mono ?_
    rintro e w5 ⟨rfl, hb5⟩
    rw [HM.out]
    have E5 := Lib.hid (EK.out.below hb5)
    have k2 := E5.out.cell (.tail _ (.head _)) 2
    have k3 := E5.out.cell (.tail _ (.head _)) 3
    have k4 := E5.out.cell (.tail _ (.head _)) 4
    clear hb5 EK
    go_wp2_with ((with_reducible show wpList _ _ _ _ _ _); refine wpList_load_rowG (o := ⟨some 64, _, _, _, _, _⟩) (by rfl) _ (.tmp 3) rfl b3 rfl _ _ _ _ (E5.out.bx _ _ _ (.head _)) Tryd.underlying25 rfl IK.out ?_)
    refine (mayM (E5.out.mn _ _ (.head _))).mono ?_
    rintro e w6 ⟨rfl, hb6⟩
    rw [KM.out]
    have E6 := Lib.hid (E5.out.below hb6)
    clear hb6 E5 k2 k3 k4
    go_wp2_with fail
    refine (awake14_any _ (HT.out.below E6.out.b HT.out.1)).mono ?_
    rintro e wz ⟨rfl, hbz⟩
    have hb := (E6.out.below hbz).b
    go_wp2_with fail
    go_ret
    exact ⟨rfl, hb⟩
  · have HM : Hid ((⟨s, v, l, z, p, d⟩ : LMan).may = false) := Lib.hid (by cases hx : (⟨s, v, l, z, p, d⟩ : LMan).may with | false => rfl | true => exact (hmay hx).elim)
    clear hmay
    go_wp2_with ((with_reducible show wpList _ _ _ _ _ _); refine wpList_load_row (o := ⟨some 17, _, _, _, _, _⟩) rfl _ (.tmp 1) rfl w.heap.size rfl _ _ _ _ (EK.out.bx _ _ _ (.tail _ (.head _))) Tryd.underlying25 rfl IN.out ?_)
    refine (mayM (EK.out.mn _ _ (.tail _ (.head _)))).mono ?_
    rintro e w5 ⟨rfl, hb5⟩
    rw [HM.out]
    have E5 := Lib.hid (EK.out.below hb5)
    clear hb5 EK
    go_wp2_with (first
      | ((with_reducible show wpList _ _ _ _ _ _); refine wpList_load_row (o := ⟨some 20, _, _, _, _, _⟩) rfl _ (.tmp 1) rfl w.heap.size rfl _ _ _ _ (E5.out.bx _ _ _ (.tail _ (.head _))) Tryd.underlying25 rfl IN.out ?_)
      | ((with_reducible show wpList _ _ _ _ _ _); refine wpList_load_row (o := ⟨some 21, _, _, _, _, _⟩) rfl _ (.tmp 3) rfl b3 rfl _ _ _ _ (E5.out.bx _ _ _ (.head _)) Tryd.underlying25 rfl IK.out ?_))
    refine (sameM (E5.out.mn _ _ (.tail _ (.head _))) (E5.out.mn _ _ (.head _))).mono ?_
    rintro e w6 ⟨rfl, hb6⟩
    rw [KE.out]
    have E6 := Lib.hid (E5.out.below hb6)
    clear hb6 E5
    go_wp2_with fail
    refine (awake14_any _ (HT.out.below E6.out.b HT.out.1)).mono ?_
    rintro e wz ⟨rfl, hbz⟩
    have hb := (E6.out.below hbz).b
    go_wp2_with fail
    go_ret
    exact ⟨rfl, hb⟩
end Go.Proofs.YtofkopjjgdfliaaDoor
