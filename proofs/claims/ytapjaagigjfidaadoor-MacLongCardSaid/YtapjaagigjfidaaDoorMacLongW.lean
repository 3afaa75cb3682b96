/- MacLong's walk. -/
import Derived.Test.YtapjaagigjfidaaDoorMacTag
import Derived.Test.YtapjaagigjfidaaDoorGrow
import Derived.Test.YtapjaagigjfidaaDoorAppZero
import Derived.Test.YtapjaagigjfidaaDoorMacRightW
namespace Go.Proofs.YtapjaagigjfidaaDoor.Sh
open Go.RowKit
set_option maxRecDepth 100000 in
set_option maxHeartbeats 3200000 in
theorem maclong_walk (A1 : Option Addr) (n1 c1 : Nat) (key : List UInt8) (A2 : Option Addr) (n2 c2 : Nat) (b : List UInt8) (w : World) (ht : Tab w) (h1 : Row w w.heap.size A1 n1 (bv key)) (_ : n1 ≤ c1) (_ : c1 ≤ 9223372036854775807) (h2 : Row w w.heap.size A2 n2 (bv b)) (_ : n2 ≤ c2) (_ : c2 ≤ 9223372036854775807) :
    Calls Tryd.prog 11 #[.slice A1 n1 c1, .slice A2 n2 c2] w fun e w' => e = .returned (.bool true) ∧ Below w.heap.size w w' := by
  obtain ⟨i0, hi, hz0, hz1, hz2⟩ := info_parts Tryd.info5
  have HT := Lib.hid ht
  have H1 := Lib.hid h1
  have H2 := Lib.hid h2
  have HL1 := Lib.hid h1.blen
  have HL2 := Lib.hid h2.blen
  clear ht h1 h2
  by_cases hb1 : 300 < n1
  · go_enter Tryd.func11, Tryd.ntmps11
    go_wp2_with fail
    refine (awake3_any _ HT.out).mono ?_
    rintro e w1 ⟨rfl, hb⟩
    go_wp2_with fail
    go_ret
    exact ⟨rfl, hb⟩
  by_cases hb2 : 1000 < n2
  · go_enter Tryd.func11, Tryd.ntmps11
    go_wp2_with fail
    refine (awake3_any _ HT.out).mono ?_
    rintro e w1 ⟨rfl, hb⟩
    go_wp2_with fail
    go_ret
    exact ⟨rfl, hb⟩
  have hown0 : (w.alloc (.cells #[] 5)).ownsRow w.heap.size 5 1 (.slice (some ⟨w.heap.size, 0, none⟩) 0 0) 0 [] := own_lit (cs := #[]) rfl (Nat.le_refl _) rfl (by unfold maxLen; omega)
  have HO0 := Lib.hid hown0
  clear hown0
  go_enter Tryd.func11, Tryd.ntmps11
  go_wp2_with (first
    | (at_builtin; refine wpList_app rfl (.tmp 16) (.tmp 17) 23 rfl w.heap.size 5 i0 (.int .u8 0) 1 Tryd.underlying23 hi hz0 hz1 hz2 rfl _ 0 [] rfl HO0.out w.heap.size A1 n1 c1 (bv key) rfl (H1.out.alloc (Nat.le_refl _) _) (bv_one _) (by unfold maxLen; omega) (by omega) (by simp) ?_; intro v2 w2 hown2 hg2 hat2; rw [Nat.zero_add, List.nil_append] at hown2; have O2 := Lib.hid hown2; have G2 := Lib.hid hg2; have B2 := Lib.hid (below_new hg2); clear hown2 hg2 hat2)
    | (at_builtin; refine wpList_appZ rfl (.tmp 18) _ 23 3 rfl w.heap.size 5 i0 Tryd.underlying23 Tryd.underlying3 hi hz0 hz1 hz2 _ n1 key rfl O2.out 65 rfl (by omega) (by omega) B2.out.size ?_; intro v3 w3 hown3 hg3; have B3 := Lib.hid (below_app B2.out B2.out.size O2.out (Nat.le_refl _) hg3); obtain ⟨A3, c3, rfl, _⟩ := own_slice hown3; have O3 := Lib.hid hown3; clear hown3 hg3))
  obtain ⟨long, hlong⟩ : ∃ x, key ++ List.replicate 65 (0 : UInt8) = x := ⟨_, rfl⟩
  rw [hlong] at O3
  have HLO : Hid (long.length = n1 + 65) := by show _ = _; rw [← hlong, List.length_append, List.length_replicate, HL1.out]
  have HKE : Hid (tagOf long b = tagOf (Sha.D long) b) := by
    show _ = _
    have e1 : keyOf long = Sha.D long := by unfold keyOf; rw [if_pos (by rw [HLO.out]; omega)]
    have e2 : keyOf (Sha.D long) = Sha.D long := by unfold keyOf; rw [if_neg (by rw [Sha.D_length]; omega)]
    rw [tagOf_eq, tagOf_eq, e1, e2]
  clear HO0 O2 G2 B2 hlong
  refine (tag_any w3.heap.size (n1 + 65) c3 A3 long w.heap.size n2 c2 A2 b w3 (HT.out.below B3.out HT.out.1) (Row.of_own O3.out) (Nat.le_refl _) (H2.out.below B3.out) B3.out.size (by omega) (by omega)).mono ?_
  rintro e w4 ⟨A4, c4, rfl, O4, hb4⟩
  have HB := Lib.hid (B3.out.trans (hb4.out.mono B3.out.size))
  have OL := Lib.hid (own_below O3.out hb4.out)
  have OT := Lib.hid (own_base O4.out B3.out.size)
  clear O3 O4 hb4 B3
  go_upto_region 5 with fail
  -- REGION
  obtain ⟨T, hT⟩ : ∃ x, tagOf long b = x := ⟨_, rfl⟩
  have HRI : Hid ((tagOf long b == T) = true) := by show _ = _; rw [hT]; exact beq_self_eq_true _
  have HKE' : Hid (tagOf (Sha.D long) b = T) := HKE.out.symm.trans hT
  rw [hT] at OT
  clear HKE hT
  have HKE := HKE'
  clear HKE'
  have hs0 : ∀ W, Below w4.heap.size w4 W → (convert 23 9 (.slice A4 32 c4)).run Tryd.prog W = .ok (.string ⟨(T).toArray⟩) W := fun W hW => run_string_row (Row.of_own (own_below OT.out hW)) c4 23 9 5 Tryd.underlying23 Tryd.underlying5 Tryd.underlying9
  refine wp_region_noPanic ?_
  refine wp_region_held_drew (S := (fun W => Below w4.heap.size w4 W)) (by kernel_rfl) (Below.refl _ _).drew (fun hH0 => ?_)
  have hH0 : (fun W => Below w4.heap.size w4 W) w4.drew := hH0
  generalize w4.drew = wd at *
  refine wpAnyH_take (i := 0) (oi := { dst := some 23, op := Op.move (Operand.tmp 6), type := 23, pos := "more.go:17", after := #[], guard := none }) (v := ?tkv601) rfl (by kernel_rfl) (by kernel_rfl) (by kernel_rfl) (fun _ _ _ h => h) (Or.inl ⟨by rfl, ?tky601⟩) hH0 ?tkr601
  case tky601 => (intro w' hSw; clear hSw; go_simp; try with_reducible rfl)
  try simp only [Act.put, List.setIfInBounds_toArray, List.set_cons_zero, List.set_cons_succ]
  refine wpAnyH_take (i := 1) (oi := { dst := some 24, op := Op.call { callee := Callee.builtin Builtin.len, args := #[Operand.tmp 23], argTypes := #[23] }, type := 3, pos := "more.go:17", after := #[{ on := 0, ground := Ground.data }], guard := none }) (v := ?tkv602) rfl (by kernel_rfl) (by kernel_rfl) (by kernel_rfl) (fun _ _ _ h => h) (Or.inl ⟨by rfl, ?tky602⟩) hH0 ?tkr602
  case tky602 => (intro w' hSw; clear hSw; go_simp; try with_reducible rfl)
  try simp only [Act.put, List.setIfInBounds_toArray, List.set_cons_zero, List.set_cons_succ]
  refine wpAnyH_take (i := 2) (oi := { dst := some 25, op := Op.binOp BinOp.eql 3 (Operand.tmp 24) (Operand.const (Value.int IntKind.i64 32)) 3, type := 4, pos := "more.go:17", after := #[{ on := 1, ground := Ground.data }], guard := none }) (v := ?tkv603) rfl (by kernel_rfl) (by kernel_rfl) (by kernel_rfl) (fun _ _ _ h => h) (Or.inl ⟨by rfl, ?tky603⟩) hH0 ?tkr603
  case tky603 => (intro w' hSw; clear hSw; go_simp; try with_reducible rfl)
  try simp only [Act.put, List.setIfInBounds_toArray, List.set_cons_zero, List.set_cons_succ]
  refine wpAnyH_take (i := 3) (oi := { dst := some 26, op := Op.move (Operand.tmp 25), type := 4, pos := "more.go:17", after := #[{ on := 2, ground := Ground.data }], guard := none }) (v := ?tkv604) rfl (by kernel_rfl) (by kernel_rfl) (by kernel_rfl) (fun _ _ _ h => h) (Or.inl ⟨by rfl, ?tky604⟩) hH0 ?tkr604
  case tky604 => (intro w' hSw; clear hSw; go_simp; try with_reducible rfl)
  try simp only [Act.put, List.setIfInBounds_toArray, List.set_cons_zero, List.set_cons_succ]
  refine wpAnyH_take (i := 4) (oi := { dst := some 27, op := Op.move (Operand.tmp 6), type := 23, pos := "more.go:17", after := #[{ on := 3, ground := Ground.guard }], guard := some (3, true) }) (v := ?tkv605) rfl (by kernel_rfl) (by kernel_rfl) (by kernel_rfl) (fun _ _ _ h => h) (Or.inl ⟨by rfl, ?tky605⟩) hH0 ?tkr605
  case tky605 => (intro w' hSw; clear hSw; go_simp; try with_reducible rfl)
  try simp only [Act.put, List.setIfInBounds_toArray, List.set_cons_zero, List.set_cons_succ]
  refine wpAnyH_take (i := 5) (oi := { dst := some 28, op := Op.convert 23 9 (Operand.tmp 27), type := 9, pos := "more.go:17", after := #[{ on := 4, ground := Ground.data }, { on := 3, ground := Ground.guard }], guard := some (3, true) }) (v := ?tkv606) rfl (by kernel_rfl) (by kernel_rfl) (by kernel_rfl) (fun _ _ _ h => h) (Or.inl ⟨by rfl, ?tky606⟩) hH0 ?tkr606
  case tky606 => (intro w' hSw; have z0 := hs0 _ hSw; clear hSw; go_simp; try with_reducible rfl)
  try simp only [Act.put, List.setIfInBounds_toArray, List.set_cons_zero, List.set_cons_succ]
  refine wpAnyH_take (i := 6) (oi := { dst := some 29, op := Op.move (Operand.tmp 5), type := 23, pos := "more.go:17", after := #[{ on := 3, ground := Ground.guard }], guard := some (3, true) }) (v := ?tkv607) rfl (by kernel_rfl) (by kernel_rfl) (by kernel_rfl) (fun _ _ _ h => h) (Or.inl ⟨by rfl, ?tky607⟩) hH0 ?tkr607
  case tky607 => (intro w' hSw; clear hSw; go_simp; try with_reducible rfl)
  try simp only [Act.put, List.setIfInBounds_toArray, List.set_cons_zero, List.set_cons_succ]
  refine wpAnyH_take (i := 8) (oi := { dst := some 31, op := Op.move (Operand.tmp 1), type := 23, pos := "more.go:17", after := #[{ on := 3, ground := Ground.guard }], guard := some (3, true) }) (v := ?tkv608) rfl (by kernel_rfl) (by kernel_rfl) (by kernel_rfl) (fun _ _ _ h => h) (Or.inl ⟨by rfl, ?tky608⟩) hH0 ?tkr608
  case tky608 => (intro w' hSw; clear hSw; go_simp; try with_reducible rfl)
  try simp only [Act.put, List.setIfInBounds_toArray, List.set_cons_zero, List.set_cons_succ]
  refine wpAnyH_ready (rs := [7]) (by kernel_rfl) (by simp) ?_
  refine AllReadyH.cons (o := { dst := some 30, op := Op.call { callee := Callee.value (Operand.func 15), args := #[Operand.tmp 29], argTypes := #[23] }, type := 23, pos := "more.go:17", after := #[{ on := 6, ground := Ground.data }, { on := 3, ground := Ground.chain }, { on := 3, ground := Ground.guard }], guard := some (3, true) }) rfl (fun K hK => ?_) AllReadyH.nil
  go_simp
  have hBc := HB.out.trans ((hH0).mono HB.out.size)
  refine (sum_any w4.heap.size (n1 + 65) c3 A3 long _ (HT.out.below hBc HT.out.1) ((Row.of_own OL.out).below (hH0)) (hH0).size (by omega)).mono ?_
  rintro e' wS609 ⟨AS609, cS609, rfl, OS609, hbS609⟩
  have hb609 := hbS609.out
  clear hbS609 hBc
  go_simp
  have hS609 : (fun W => Below w4.heap.size w4 W) wS609 := (hH0).trans (hb609.mono (hH0).size)
  refine hK.out _ _ hS609 (fun hH609 => ?_)
  clear hK K
  try simp only [Act.put, List.setIfInBounds_toArray, List.set_cons_zero, List.set_cons_succ]
  have hG609 : (fun W => Below w4.heap.size w4 W ∧ Below wS609.heap.size wS609 W) wS609 := ⟨hS609, Below.refl _ _⟩
  refine wpAnyH_grow (S' := (fun W => Below w4.heap.size w4 W ∧ Below wS609.heap.size wS609 W)) (fun _ h => h.1) _ _ _ _ ?_
  refine wpAnyH_ready (rs := [9]) (by kernel_rfl) (by simp) ?_
  refine AllReadyH.cons (o := { dst := some 32, op := Op.call { callee := Callee.value (Operand.func 20), args := #[Operand.tmp 30, Operand.tmp 31], argTypes := #[23, 23] }, type := 23, pos := "more.go:17", after := #[{ on := 7, ground := Ground.data }, { on := 8, ground := Ground.data }, { on := 7, ground := Ground.chain }, { on := 3, ground := Ground.guard }], guard := some (3, true) }) rfl (fun K hK => ?_) AllReadyH.nil
  go_simp
  have hBc := HB.out.trans ((hG609.1).mono HB.out.size)
  refine (tag_any wS609.heap.size 32 cS609 AS609 (Sha.D long) w.heap.size n2 c2 A2 b _ (HT.out.below hBc HT.out.1) ((Row.of_own OS609.out).below (hG609.2)) (hG609.2).size (H2.out.below hBc) hBc.size (by omega) (by omega)).mono ?_
  rintro e' wT610 ⟨AT610, cT610, rfl, OT610, hbT610⟩
  rw [HKE.out] at OT610
  have hb610 := hbT610.out
  clear hbT610 hBc
  have hs610 : ∀ W, Below wT610.heap.size wT610 W → (convert 23 9 (.slice AT610 32 cT610)).run Tryd.prog W = .ok (.string ⟨(T).toArray⟩) W := fun W hW => run_string_row (Row.of_own (own_below OT610.out hW)) cT610 23 9 5 Tryd.underlying23 Tryd.underlying5 Tryd.underlying9
  go_simp
  have hS610 : (fun W => Below w4.heap.size w4 W ∧ Below wS609.heap.size wS609 W) wT610 := ⟨(hG609.1).trans (hb610.mono (hG609.1).size), (hG609.2).trans (hb610.mono (hG609.2).size)⟩
  refine hK.out _ _ hS610 (fun hH610 => ?_)
  clear hK K
  try simp only [Act.put, List.setIfInBounds_toArray, List.set_cons_zero, List.set_cons_succ]
  have hG610 : (fun W => Below w4.heap.size w4 W ∧ Below wS609.heap.size wS609 W ∧ Below wT610.heap.size wT610 W) wT610 := ⟨hS610.1, hS610.2, Below.refl _ _⟩
  refine wpAnyH_grow (S' := (fun W => Below w4.heap.size w4 W ∧ Below wS609.heap.size wS609 W ∧ Below wT610.heap.size wT610 W)) (fun _ h => ⟨h.1, h.2.1⟩) _ _ _ _ ?_
  refine wpAnyH_take (i := 10) (oi := { dst := some 33, op := Op.convert 23 9 (Operand.tmp 32), type := 9, pos := "more.go:17", after := #[{ on := 9, ground := Ground.data }, { on := 3, ground := Ground.guard }], guard := some (3, true) }) (v := ?tkv611) rfl (by kernel_rfl) (by kernel_rfl) (by kernel_rfl) (fun _ _ _ h => h) (Or.inl ⟨by rfl, ?tky611⟩) hG610 ?tkr611
  case tky611 => (intro w' hSw; have z0 := hs0 _ hSw.1; have z1 := hs610 _ hSw.2.2; clear hSw; go_simp; try with_reducible rfl)
  try simp only [Act.put, List.setIfInBounds_toArray, List.set_cons_zero, List.set_cons_succ]
  refine wpAnyH_take (i := 11) (oi := { dst := some 34, op := Op.binOp BinOp.eql 9 (Operand.tmp 28) (Operand.tmp 33) 9, type := 4, pos := "more.go:17", after := #[{ on := 5, ground := Ground.data }, { on := 10, ground := Ground.data }, { on := 3, ground := Ground.guard }], guard := some (3, true) }) (v := ?tkv612) rfl (by kernel_rfl) (by kernel_rfl) (by kernel_rfl) (fun _ _ _ h => h) (Or.inl ⟨by rfl, ?tky612⟩) hG610 ?tkr612
  case tky612 => (intro w' hSw; clear hSw; go_simp; try with_reducible rfl)
  try simp only [Act.put, List.setIfInBounds_toArray, List.set_cons_zero, List.set_cons_succ]
  refine wpAnyH_take (i := 12) (oi := { dst := some 35, op := Op.pick (Operand.tmp 26) (Operand.tmp 34) (Operand.const (Value.bool false)), type := 4, pos := "more.go:17", after := #[{ on := 3, ground := Ground.data }, { on := 11, ground := Ground.data }], guard := none }) (v := ?tkv613) rfl (by kernel_rfl) (by kernel_rfl) (by kernel_rfl) (fun _ _ _ h => h) (Or.inl ⟨by rfl, ?tky613⟩) hG610 ?tkr613
  case tky613 => (intro w' hSw; clear hSw; go_simp; try with_reducible rfl)
  try simp only [Act.put, List.setIfInBounds_toArray, List.set_cons_zero, List.set_cons_succ]
  refine wpAnyH_take (i := 13) (oi := { dst := some 36, op := Op.move (Operand.tmp 35), type := 4, pos := "more.go:17", after := #[{ on := 12, ground := Ground.data }, { on := 9, ground := Ground.chain }], guard := none }) (v := ?tkv614) rfl (by kernel_rfl) (by kernel_rfl) (by kernel_rfl) (fun _ _ _ h => h) (Or.inl ⟨by rfl, ?tky614⟩) hG610 ?tkr614
  case tky614 => (intro w' hSw; clear hSw; go_simp; try with_reducible rfl)
  try simp only [Act.put, List.setIfInBounds_toArray, List.set_cons_zero, List.set_cons_succ]
  refine wpAnyH_take (i := 14) (oi := { dst := some 37, op := Op.move (Operand.tmp 5), type := 23, pos := "more.go:17", after := #[{ on := 13, ground := Ground.guard }], guard := some (13, true) }) (v := ?tkv615) rfl (by kernel_rfl) (by kernel_rfl) (by kernel_rfl) (fun _ _ _ h => h) (Or.inl ⟨by rfl, ?tky615⟩) hG610 ?tkr615
  case tky615 => (intro w' hSw; clear hSw; go_simp; try with_reducible rfl)
  try simp only [Act.put, List.setIfInBounds_toArray, List.set_cons_zero, List.set_cons_succ]
  refine wpAnyH_take (i := 15) (oi := { dst := some 38, op := Op.move (Operand.tmp 1), type := 23, pos := "more.go:17", after := #[{ on := 13, ground := Ground.guard }], guard := some (13, true) }) (v := ?tkv616) rfl (by kernel_rfl) (by kernel_rfl) (by kernel_rfl) (fun _ _ _ h => h) (Or.inl ⟨by rfl, ?tky616⟩) hG610 ?tkr616
  case tky616 => (intro w' hSw; clear hSw; go_simp; try with_reducible rfl)
  try simp only [Act.put, List.setIfInBounds_toArray, List.set_cons_zero, List.set_cons_succ]
  refine wpAnyH_take (i := 16) (oi := { dst := some 39, op := Op.move (Operand.tmp 6), type := 23, pos := "more.go:17", after := #[{ on := 13, ground := Ground.guard }], guard := some (13, true) }) (v := ?tkv617) rfl (by kernel_rfl) (by kernel_rfl) (by kernel_rfl) (fun _ _ _ h => h) (Or.inl ⟨by rfl, ?tky617⟩) hG610 ?tkr617
  case tky617 => (intro w' hSw; clear hSw; go_simp; try with_reducible rfl)
  try simp only [Act.put, List.setIfInBounds_toArray, List.set_cons_zero, List.set_cons_succ]
  refine wpAnyH_ready (rs := [17]) (by kernel_rfl) (by simp) ?_
  refine AllReadyH.cons (o := { dst := some 40, op := Op.call { callee := Callee.value (Operand.func 21), args := #[Operand.tmp 37, Operand.tmp 38, Operand.tmp 39], argTypes := #[23, 23, 23] }, type := 4, pos := "more.go:17", after := #[{ on := 14, ground := Ground.data }, { on := 15, ground := Ground.data }, { on := 16, ground := Ground.data }, { on := 13, ground := Ground.chain }, { on := 13, ground := Ground.guard }], guard := some (13, true) }) rfl (fun K hK => ?_) AllReadyH.nil
  go_simp
  have hBc := HB.out.trans ((hG610.1).mono HB.out.size)
  refine (right_is true w4.heap.size (n1 + 65) c3 A3 long w.heap.size n2 c2 A2 b w4.heap.size c4 A4 T _ (HT.out.below hBc HT.out.1) ((Row.of_own OL.out).below (hG610.1)) (hG610.1).size (H2.out.below hBc) hBc.size (by omega) (by omega) ((Row.of_own OT.out).below (hG610.1)) (hG610.1).size HRI.out).mono ?_
  rintro e' wr618 ⟨rfl, hb618⟩
  clear hBc
  go_simp
  have hS618 : (fun W => Below w4.heap.size w4 W ∧ Below wS609.heap.size wS609 W ∧ Below wT610.heap.size wT610 W) wr618 := ⟨(hG610.1).trans (hb618.mono (hG610.1).size), (hG610.2.1).trans (hb618.mono (hG610.2.1).size), (hG610.2.2).trans (hb618.mono (hG610.2.2).size)⟩
  refine hK.out _ _ hS618 (fun hH618 => ?_)
  clear hK K
  try simp only [Act.put, List.setIfInBounds_toArray, List.set_cons_zero, List.set_cons_succ]
  refine wpAnyH_take (i := 18) (oi := { dst := some 41, op := Op.pick (Operand.tmp 36) (Operand.tmp 40) (Operand.const (Value.bool false)), type := 4, pos := "more.go:17", after := #[{ on := 13, ground := Ground.data }, { on := 17, ground := Ground.data }], guard := none }) (v := ?tkv619) rfl (by kernel_rfl) (by kernel_rfl) (by kernel_rfl) (fun _ _ _ h => h) (Or.inl ⟨by rfl, ?tky619⟩) hH618 ?tkr619
  case tky619 => (intro w' hSw; clear hSw; go_simp; try with_reducible rfl)
  try simp only [Act.put, List.setIfInBounds_toArray, List.set_cons_zero, List.set_cons_succ]
  refine wpAnyH_take (i := 19) (oi := { dst := some 42, op := Op.move (Operand.tmp 41), type := 4, pos := "more.go:17", after := #[{ on := 18, ground := Ground.data }, { on := 17, ground := Ground.chain }], guard := none }) (v := ?tkv620) rfl (by kernel_rfl) (by kernel_rfl) (by kernel_rfl) (fun _ _ _ h => h) (Or.inl ⟨by rfl, ?tky620⟩) hH618 ?tkr620
  case tky620 => (intro w' hSw; clear hSw; go_simp; try with_reducible rfl)
  try simp only [Act.put, List.setIfInBounds_toArray, List.set_cons_zero, List.set_cons_succ]
  refine wpAnyH_ready (rs := [20]) (by kernel_rfl) (by simp) ?_
  refine AllReadyH.cons (o := { dst := some 43, op := Op.call { callee := Callee.value (Operand.func 18), args := #[], argTypes := #[] }, type := 4, pos := "more.go:17", after := #[{ on := 19, ground := Ground.chain }, { on := 19, ground := Ground.guard }], guard := some (19, true) }) rfl (fun K hK => ?_) AllReadyH.nil
  go_simp
  have hBc := HB.out.trans ((hH618.1).mono HB.out.size)
  refine (awake3_any _ (HT.out.below hBc HT.out.1)).mono ?_
  rintro e' wa621 ⟨rfl, hb621⟩
  clear hBc
  go_simp
  have hS621 : (fun W => Below w4.heap.size w4 W ∧ Below wS609.heap.size wS609 W ∧ Below wT610.heap.size wT610 W) wa621 := ⟨(hH618.1).trans (hb621.mono (hH618.1).size), (hH618.2.1).trans (hb621.mono (hH618.2.1).size), (hH618.2.2).trans (hb621.mono (hH618.2.2).size)⟩
  refine hK.out _ _ hS621 (fun hH621 => ?_)
  clear hK K
  try simp only [Act.put, List.setIfInBounds_toArray, List.set_cons_zero, List.set_cons_succ]
  refine wpAnyH_take (i := 21) (oi := { dst := some 44, op := Op.pick (Operand.tmp 42) (Operand.tmp 43) (Operand.const (Value.bool false)), type := 4, pos := "more.go:17", after := #[{ on := 19, ground := Ground.data }, { on := 20, ground := Ground.data }], guard := none }) (v := ?tkv622) rfl (by kernel_rfl) (by kernel_rfl) (by kernel_rfl) (fun _ _ _ h => h) (Or.inl ⟨by rfl, ?tky622⟩) hH621 ?tkr622
  case tky622 => (intro w' hSw; clear hSw; go_simp; try with_reducible rfl)
  try simp only [Act.put, List.setIfInBounds_toArray, List.set_cons_zero, List.set_cons_succ]
  refine wpAnyH_take (i := 22) (oi := { dst := some 4, op := Op.assign (Operand.tmp 44), type := 4, pos := "more.go:17", after := #[{ on := 21, ground := Ground.data }, { on := 20, ground := Ground.chain }, { on := 0, ground := Ground.phase }, { on := 1, ground := Ground.phase }, { on := 2, ground := Ground.phase }, { on := 3, ground := Ground.phase }, { on := 4, ground := Ground.phase }, { on := 5, ground := Ground.phase }, { on := 6, ground := Ground.phase }, { on := 7, ground := Ground.phase }, { on := 8, ground := Ground.phase }, { on := 9, ground := Ground.phase }, { on := 10, ground := Ground.phase }, { on := 11, ground := Ground.phase }, { on := 12, ground := Ground.phase }, { on := 13, ground := Ground.phase }, { on := 14, ground := Ground.phase }, { on := 15, ground := Ground.phase }, { on := 16, ground := Ground.phase }, { on := 17, ground := Ground.phase }, { on := 18, ground := Ground.phase }, { on := 19, ground := Ground.phase }, { on := 20, ground := Ground.phase }, { on := 21, ground := Ground.phase }], guard := none }) (v := ?tkv623) rfl (by kernel_rfl) (by kernel_rfl) (by kernel_rfl) (fun _ _ _ h => h) (Or.inl ⟨by rfl, ?tky623⟩) hH621 ?tkr623
  case tky623 => (intro w' hSw; clear hSw; go_simp; try with_reducible rfl)
  try simp only [Act.put, List.setIfInBounds_toArray, List.set_cons_zero, List.set_cons_succ]
  refine wpAnyH_done (by kernel_rfl) ?_ _
  refine NoPanic.normal ?_
  have hEnd := HB.out.trans ((hH621.1).mono HB.out.size)
  go_wp2_with fail
  go_ret
  exact ⟨rfl, hEnd⟩
end Go.Proofs.YtapjaagigjfidaaDoor.Sh
