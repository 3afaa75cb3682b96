/- MacKeys' walk. -/
import Derived.Test.YtapjaagigjfidaaDoorMacTag
import Derived.Test.YtapjaagigjfidaaDoorGrow
import Derived.Test.YtapjaagigjfidaaDoorAppZero
import Derived.Test.YtapjaagigjfidaaDoorMacRightW
import Derived.Test.YtapjaagigjfidaaDoorDgCuts
namespace Go.Proofs.YtapjaagigjfidaaDoor.Sh
open Go.RowKit
theorem step_appZ {P : Program} {ops : Array Oper} {o : Oper} {a : Act} {w : World} {K : Act → World → Prop} {Q : Exit → Act → World → Prop} {E : Prop} (hgd : o.guard = none) (s x : Operand) (t ti : TypeId)
    (ho : o.op = .call { callee := .builtin .append, args := #[s, x], argTypes := #[t, ti] })
    (base : Nat) (e : TypeId) (i : TypeInfo) (ht : P.underlying t = some (.slice e)) (hti : P.underlying ti = some (.int .i64)) (hi : P.info? e = some i) (hz : i.zero = some (.int .u8 0)) (hsize : i.size = 1) (hby : i.bytes = 1)
    (v : Value) (n : Nat) (l : List UInt8) (hs : a.eval s = v) (hown : w.ownsRow base e 1 v n (bv l)) (m : Nat) (hx : a.eval x = .int .i64 (m : Int)) (hn : n ≤ 1000000000) (hm : m ≤ 1000000000) (hbase : base ≤ w.heap.size)
    (h : ∀ v' w', w'.ownsRow base e 1 v' (n + m) (bv (l ++ List.replicate m 0)) → w.grownBy w' v.ownBlock → K (a.put o.dst v') w') :
    if Region.wanted o (yielded ops a.tmps) = true then Oper.wp P o a w K Q else E := by
  have hw : Region.wanted o (yielded ops a.tmps) = true := by simp [Region.wanted, hgd]
  rw [if_pos hw]
  exact wp_appZ s x t ti ho base e i ht hti hi hz hsize hby v n l hs hown m hx hn hm hbase h
theorem padB_noughts (key : List UInt8) (m : Nat) (x : UInt8) : padB (key ++ List.replicate m 0) x = padB key x := by
  unfold padB
  apply List.map_congr_left
  intro i _
  rw [List.getD_eq_getElem?_getD, List.getD_eq_getElem?_getD, List.getElem?_append]
  split
  · rfl
  · next h =>
    rw [List.getElem?_eq_none (l := key) (by omega), List.getElem?_replicate]
    split <;> rfl
set_option maxRecDepth 100000 in
set_option maxHeartbeats 3200000 in
theorem mackeys_walk (A1 : Option Addr) (n1 c1 : Nat) (key : List UInt8) (A2 : Option Addr) (n2 c2 : Nat) (b : List UInt8) (y : Int) (_ : -9223372036854775808 ≤ y) (_ : y ≤ 9223372036854775807) (w : World) (ht : Tab w) (h1 : Row w w.heap.size A1 n1 (bv key)) (_ : n1 ≤ c1) (_ : c1 ≤ 9223372036854775807) (h2 : Row w w.heap.size A2 n2 (bv b)) (_ : n2 ≤ c2) (_ : c2 ≤ 9223372036854775807) :
    Calls Tryd.prog 10 #[.slice A1 n1 c1, .slice A2 n2 c2, .int .i64 y] w fun e w' => e = .returned (.bool true) ∧ Below w.heap.size w w' := by
  obtain ⟨i0, hi, hz0, hz1, hz2⟩ := info_parts Tryd.info5
  have HT := Lib.hid ht
  have H1 := Lib.hid h1
  have H2 := Lib.hid h2
  have HL1 := Lib.hid h1.blen
  have HL2 := Lib.hid h2.blen
  clear ht h1 h2
  by_cases hb1 : 64 < n1
  · go_enter Tryd.func10, Tryd.ntmps10
    go_wp2_with fail
    refine (awake3_any _ HT.out).mono ?_
    rintro e w1 ⟨rfl, hb⟩
    go_wp2_with fail
    go_ret
    exact ⟨rfl, hb⟩
  by_cases hb2 : 1000 < n2
  · go_enter Tryd.func10, Tryd.ntmps10
    go_wp2_with fail
    refine (awake3_any _ HT.out).mono ?_
    rintro e w1 ⟨rfl, hb⟩
    go_wp2_with fail
    go_ret
    exact ⟨rfl, hb⟩
  obtain ⟨q, hq, hpick⟩ := pick_in y (65 - (n1 : Int)) (by omega) (by omega)
  have HP := Lib.hid hpick
  have hq' : q + n1 ≤ 64 := by omega
  clear hpick hq
  have hown0 : (w.alloc (.cells #[] 5)).ownsRow w.heap.size 5 1 (.slice (some ⟨w.heap.size, 0, none⟩) 0 0) 0 [] := own_lit (cs := #[]) rfl (Nat.le_refl _) rfl (by unfold maxLen; omega)
  have HO0 := Lib.hid hown0
  clear hown0
  have HKE : Hid (tagOf (key ++ List.replicate q 0) b = tagOf key b) := by
    show _ = _
    have e1 : keyOf key = key := by unfold keyOf; rw [if_neg (by rw [HL1.out]; omega)]
    have e2 : keyOf (key ++ List.replicate q 0) = key ++ List.replicate q 0 := by unfold keyOf; rw [if_neg (by rw [List.length_append, List.length_replicate, HL1.out]; omega)]
    rw [tagOf_eq, tagOf_eq, e1, e2, padB_noughts, padB_noughts]
  go_enter Tryd.func10, Tryd.ntmps10
  go_upto_region 3 with fail
  have h65 : IntKind.i64.wrap (65 - (n1 : Int)) = 65 - (n1 : Int) := IntWalk.i64_in _ ⟨by omega, by omega⟩
  have h65u : IntKind.u64.wrap (65 - (n1 : Int)) = 65 - (n1 : Int) := IntWalk.u64_in _ ⟨by omega, by omega⟩
  have h65z : ¬ (65 - (n1 : Int) = 0) := by omega
  have hpk : IntKind.i64.wrap ((IntKind.u64.wrap y).tmod (65 - (n1 : Int))) = (q : Int) := by rw [IntKind.wrap_i64]; have := HP.out; simp only [wrap64] at this; omega
  go_region_law (first
    | (refine step_app rfl (.tmp 18) (.tmp 19) 23 rfl w.heap.size 5 i0 (.int .u8 0) 1 Tryd.underlying23 hi hz0 hz1 hz2 rfl _ 0 [] (by simp [Act.eval, Act.put]) (HO0.out) w.heap.size A1 n1 c1 (bv key) (by simp [Act.eval, Act.put]) (H1.out.alloc (Nat.le_refl _) _) (bv_one _) (by unfold maxLen; omega) (by omega) (by simp) ?_; intro v2 w2 hown2 hg2 hat2; rw [Nat.zero_add, List.nil_append] at hown2; have O2 := Lib.hid hown2; have B2 := Lib.hid (below_app (((Below.refl w.heap.size w).alloc (Nat.le_refl _) _).drew) (by simp) HO0.out (Nat.le_refl _) hg2); clear hown2 hg2 hat2)
    | (refine step_appZ rfl (.tmp 20) (.tmp 28) 23 3 rfl w.heap.size 5 i0 Tryd.underlying23 Tryd.underlying3 hi hz0 hz1 hz2 _ n1 key (by simp [Act.eval, Act.put]) O2.out q (by simp [Act.eval, Act.put, hpk, HP.out]) (by omega) (by omega) B2.out.size ?_; intro v3 w3 hown3 hg3; have B3 := Lib.hid (below_app B2.out B2.out.size O2.out (Nat.le_refl _) hg3); obtain ⟨A3, c3, rfl, _⟩ := own_slice hown3; have O3 := Lib.hid hown3; clear hown3 hg3))
  clear h65 h65u h65z hpk HO0 O2 B2
  go_wp2_with fail
  refine (tag_any w.heap.size n1 c1 A1 key w.heap.size n2 c2 A2 b w3 (HT.out.below B3.out HT.out.1) (H1.out.below B3.out) B3.out.size (H2.out.below B3.out) B3.out.size (by omega) (by omega)).mono ?_
  rintro e w4 ⟨A4, c4, rfl, O4, hb4⟩
  have HB := Lib.hid (B3.out.trans (hb4.out.mono B3.out.size))
  have OL := Lib.hid (own_below O3.out hb4.out)
  have OT := Lib.hid (own_base O4.out B3.out.size)
  clear O3 O4 hb4 B3 H1
  obtain ⟨long, hlong⟩ : ∃ x, key ++ List.replicate q (0 : UInt8) = x := ⟨_, rfl⟩
  rw [hlong] at OL HKE
  clear hlong
  go_upto_region 5 with fail
  -- REGION
  obtain ⟨T, hT⟩ : ∃ x, tagOf key b = x := ⟨_, rfl⟩
  rw [hT] at OT HKE
  have HRI : Hid ((tagOf long b == T) = true) := by show _ = _; rw [HKE.out]; exact beq_self_eq_true _
  clear hT
  have hs0 : ∀ W, Below w4.heap.size w4 W → (convert 23 9 (.slice A4 32 c4)).run Tryd.prog W = .ok (.string ⟨(T).toArray⟩) W := fun W hW => run_string_row (Row.of_own (own_below OT.out hW)) c4 23 9 5 Tryd.underlying23 Tryd.underlying5 Tryd.underlying9
  refine wp_region_noPanic ?_
  refine wp_region_held_drew (S := (fun W => Below w4.heap.size w4 W)) (by kernel_rfl) (Below.refl _ _).drew (fun hH0 => ?_)
  have hH0 : (fun W => Below w4.heap.size w4 W) w4.drew := hH0
  generalize w4.drew = wd at *
  refine wpAnyH_take (i := 0) (oi := { dst := some 33, op := Op.move (Operand.tmp 8), type := 23, pos := "law.go:44", after := #[], guard := none }) (v := ?tkv601) rfl (by kernel_rfl) (by kernel_rfl) (by kernel_rfl) (fun _ _ _ h => h) (Or.inl ⟨by rfl, ?tky601⟩) hH0 ?tkr601
  case tky601 => (intro w' hSw; clear hSw; go_simp; try with_reducible rfl)
  try simp only [Act.put, List.setIfInBounds_toArray, List.set_cons_zero, List.set_cons_succ]
  refine wpAnyH_take (i := 1) (oi := { dst := some 34, op := Op.convert 23 9 (Operand.tmp 33), type := 9, pos := "law.go:44", after := #[{ on := 0, ground := Ground.data }], guard := none }) (v := ?tkv602) rfl (by kernel_rfl) (by kernel_rfl) (by kernel_rfl) (fun _ _ _ h => h) (Or.inl ⟨by rfl, ?tky602⟩) hH0 ?tkr602
  case tky602 => (intro w' hSw; have z0 := hs0 _ hSw; clear hSw; go_simp; try with_reducible rfl)
  try simp only [Act.put, List.setIfInBounds_toArray, List.set_cons_zero, List.set_cons_succ]
  refine wpAnyH_take (i := 2) (oi := { dst := some 35, op := Op.move (Operand.tmp 7), type := 23, pos := "law.go:44", after := #[], guard := none }) (v := ?tkv603) rfl (by kernel_rfl) (by kernel_rfl) (by kernel_rfl) (fun _ _ _ h => h) (Or.inl ⟨by rfl, ?tky603⟩) hH0 ?tkr603
  case tky603 => (intro w' hSw; clear hSw; go_simp; try with_reducible rfl)
  try simp only [Act.put, List.setIfInBounds_toArray, List.set_cons_zero, List.set_cons_succ]
  refine wpAnyH_take (i := 3) (oi := { dst := some 36, op := Op.move (Operand.tmp 1), type := 23, pos := "law.go:44", after := #[], guard := none }) (v := ?tkv604) rfl (by kernel_rfl) (by kernel_rfl) (by kernel_rfl) (fun _ _ _ h => h) (Or.inl ⟨by rfl, ?tky604⟩) hH0 ?tkr604
  case tky604 => (intro w' hSw; clear hSw; go_simp; try with_reducible rfl)
  try simp only [Act.put, List.setIfInBounds_toArray, List.set_cons_zero, List.set_cons_succ]
  refine wpAnyH_ready (rs := [4]) (by kernel_rfl) (by simp) ?_
  refine AllReadyH.cons (o := { dst := some 37, op := Op.call { callee := Callee.value (Operand.func 20), args := #[Operand.tmp 35, Operand.tmp 36], argTypes := #[23, 23] }, type := 23, pos := "law.go:44", after := #[{ on := 2, ground := Ground.data }, { on := 3, ground := Ground.data }], guard := none }) rfl (fun K hK => ?_) AllReadyH.nil
  go_simp
  have hBc := HB.out.trans ((hH0).mono HB.out.size)
  refine (tag_any w4.heap.size (n1 + q) c3 A3 long w.heap.size n2 c2 A2 b _ (HT.out.below hBc HT.out.1) ((Row.of_own OL.out).below (hH0)) (hH0).size (H2.out.below hBc) hBc.size (by omega) (by omega)).mono ?_
  rintro e' wT605 ⟨AT605, cT605, rfl, OT605, hbT605⟩
  rw [HKE.out] at OT605
  have hb605 := hbT605.out
  clear hbT605 hBc
  have hs605 : ∀ W, Below wT605.heap.size wT605 W → (convert 23 9 (.slice AT605 32 cT605)).run Tryd.prog W = .ok (.string ⟨(T).toArray⟩) W := fun W hW => run_string_row (Row.of_own (own_below OT605.out hW)) cT605 23 9 5 Tryd.underlying23 Tryd.underlying5 Tryd.underlying9
  go_simp
  have hS605 : (fun W => Below w4.heap.size w4 W) wT605 := (hH0).trans (hb605.mono (hH0).size)
  refine hK.out _ _ hS605 (fun hH605 => ?_)
  clear hK K
  try simp only [Act.put, List.setIfInBounds_toArray, List.set_cons_zero, List.set_cons_succ]
  have hG605 : (fun W => Below w4.heap.size w4 W ∧ Below wT605.heap.size wT605 W) wT605 := ⟨hS605, Below.refl _ _⟩
  refine wpAnyH_grow (S' := (fun W => Below w4.heap.size w4 W ∧ Below wT605.heap.size wT605 W)) (fun _ h => h.1) _ _ _ _ ?_
  refine wpAnyH_take (i := 5) (oi := { dst := some 38, op := Op.convert 23 9 (Operand.tmp 37), type := 9, pos := "law.go:44", after := #[{ on := 4, ground := Ground.data }], guard := none }) (v := ?tkv606) rfl (by kernel_rfl) (by kernel_rfl) (by kernel_rfl) (fun _ _ _ h => h) (Or.inl ⟨by rfl, ?tky606⟩) hG605 ?tkr606
  case tky606 => (intro w' hSw; have z0 := hs0 _ hSw.1; have z1 := hs605 _ hSw.2; clear hSw; go_simp; try with_reducible rfl)
  try simp only [Act.put, List.setIfInBounds_toArray, List.set_cons_zero, List.set_cons_succ]
  refine wpAnyH_take (i := 6) (oi := { dst := some 39, op := Op.binOp BinOp.eql 9 (Operand.tmp 34) (Operand.tmp 38) 9, type := 4, pos := "law.go:44", after := #[{ on := 1, ground := Ground.data }, { on := 5, ground := Ground.data }], guard := none }) (v := ?tkv607) rfl (by kernel_rfl) (by kernel_rfl) (by kernel_rfl) (fun _ _ _ h => h) (Or.inl ⟨by rfl, ?tky607⟩) hG605 ?tkr607
  case tky607 => (intro w' hSw; clear hSw; go_simp; try with_reducible rfl)
  try simp only [Act.put, List.setIfInBounds_toArray, List.set_cons_zero, List.set_cons_succ]
  refine wpAnyH_take (i := 7) (oi := { dst := some 40, op := Op.move (Operand.tmp 39), type := 4, pos := "law.go:44", after := #[{ on := 6, ground := Ground.data }, { on := 4, ground := Ground.chain }], guard := none }) (v := ?tkv608) rfl (by kernel_rfl) (by kernel_rfl) (by kernel_rfl) (fun _ _ _ h => h) (Or.inl ⟨by rfl, ?tky608⟩) hG605 ?tkr608
  case tky608 => (intro w' hSw; clear hSw; go_simp; try with_reducible rfl)
  try simp only [Act.put, List.setIfInBounds_toArray, List.set_cons_zero, List.set_cons_succ]
  refine wpAnyH_take (i := 8) (oi := { dst := some 41, op := Op.move (Operand.tmp 7), type := 23, pos := "law.go:44", after := #[{ on := 7, ground := Ground.guard }], guard := some (7, true) }) (v := ?tkv609) rfl (by kernel_rfl) (by kernel_rfl) (by kernel_rfl) (fun _ _ _ h => h) (Or.inl ⟨by rfl, ?tky609⟩) hG605 ?tkr609
  case tky609 => (intro w' hSw; clear hSw; go_simp; try with_reducible rfl)
  try simp only [Act.put, List.setIfInBounds_toArray, List.set_cons_zero, List.set_cons_succ]
  refine wpAnyH_take (i := 9) (oi := { dst := some 42, op := Op.move (Operand.tmp 1), type := 23, pos := "law.go:44", after := #[{ on := 7, ground := Ground.guard }], guard := some (7, true) }) (v := ?tkv610) rfl (by kernel_rfl) (by kernel_rfl) (by kernel_rfl) (fun _ _ _ h => h) (Or.inl ⟨by rfl, ?tky610⟩) hG605 ?tkr610
  case tky610 => (intro w' hSw; clear hSw; go_simp; try with_reducible rfl)
  try simp only [Act.put, List.setIfInBounds_toArray, List.set_cons_zero, List.set_cons_succ]
  refine wpAnyH_take (i := 10) (oi := { dst := some 43, op := Op.move (Operand.tmp 8), type := 23, pos := "law.go:44", after := #[{ on := 7, ground := Ground.guard }], guard := some (7, true) }) (v := ?tkv611) rfl (by kernel_rfl) (by kernel_rfl) (by kernel_rfl) (fun _ _ _ h => h) (Or.inl ⟨by rfl, ?tky611⟩) hG605 ?tkr611
  case tky611 => (intro w' hSw; clear hSw; go_simp; try with_reducible rfl)
  try simp only [Act.put, List.setIfInBounds_toArray, List.set_cons_zero, List.set_cons_succ]
  refine wpAnyH_ready (rs := [11]) (by kernel_rfl) (by simp) ?_
  refine AllReadyH.cons (o := { dst := some 44, op := Op.call { callee := Callee.value (Operand.func 21), args := #[Operand.tmp 41, Operand.tmp 42, Operand.tmp 43], argTypes := #[23, 23, 23] }, type := 4, pos := "law.go:44", after := #[{ on := 8, ground := Ground.data }, { on := 9, ground := Ground.data }, { on := 10, ground := Ground.data }, { on := 7, ground := Ground.chain }, { on := 7, ground := Ground.guard }], guard := some (7, true) }) rfl (fun K hK => ?_) AllReadyH.nil
  go_simp
  have hBc := HB.out.trans ((hG605.1).mono HB.out.size)
  refine (right_is true w4.heap.size (n1 + q) c3 A3 long w.heap.size n2 c2 A2 b w4.heap.size c4 A4 T _ (HT.out.below hBc HT.out.1) ((Row.of_own OL.out).below (hG605.1)) (hG605.1).size (H2.out.below hBc) hBc.size (by omega) (by omega) ((Row.of_own OT.out).below (hG605.1)) (hG605.1).size HRI.out).mono ?_
  rintro e' wr612 ⟨rfl, hb612⟩
  clear hBc
  go_simp
  have hS612 : (fun W => Below w4.heap.size w4 W ∧ Below wT605.heap.size wT605 W) wr612 := ⟨(hG605.1).trans (hb612.mono (hG605.1).size), (hG605.2).trans (hb612.mono (hG605.2).size)⟩
  refine hK.out _ _ hS612 (fun hH612 => ?_)
  clear hK K
  try simp only [Act.put, List.setIfInBounds_toArray, List.set_cons_zero, List.set_cons_succ]
  refine wpAnyH_take (i := 12) (oi := { dst := some 45, op := Op.pick (Operand.tmp 40) (Operand.tmp 44) (Operand.const (Value.bool false)), type := 4, pos := "law.go:44", after := #[{ on := 7, ground := Ground.data }, { on := 11, ground := Ground.data }], guard := none }) (v := ?tkv613) rfl (by kernel_rfl) (by kernel_rfl) (by kernel_rfl) (fun _ _ _ h => h) (Or.inl ⟨by rfl, ?tky613⟩) hH612 ?tkr613
  case tky613 => (intro w' hSw; clear hSw; go_simp; try with_reducible rfl)
  try simp only [Act.put, List.setIfInBounds_toArray, List.set_cons_zero, List.set_cons_succ]
  refine wpAnyH_take (i := 13) (oi := { dst := some 46, op := Op.move (Operand.tmp 45), type := 4, pos := "law.go:44", after := #[{ on := 12, ground := Ground.data }, { on := 11, ground := Ground.chain }], guard := none }) (v := ?tkv614) rfl (by kernel_rfl) (by kernel_rfl) (by kernel_rfl) (fun _ _ _ h => h) (Or.inl ⟨by rfl, ?tky614⟩) hH612 ?tkr614
  case tky614 => (intro w' hSw; clear hSw; go_simp; try with_reducible rfl)
  try simp only [Act.put, List.setIfInBounds_toArray, List.set_cons_zero, List.set_cons_succ]
  refine wpAnyH_ready (rs := [14]) (by kernel_rfl) (by simp) ?_
  refine AllReadyH.cons (o := { dst := some 47, op := Op.call { callee := Callee.value (Operand.func 18), args := #[], argTypes := #[] }, type := 4, pos := "law.go:44", after := #[{ on := 13, ground := Ground.chain }, { on := 13, ground := Ground.guard }], guard := some (13, true) }) rfl (fun K hK => ?_) AllReadyH.nil
  go_simp
  have hBc := HB.out.trans ((hH612.1).mono HB.out.size)
  refine (awake3_any _ (HT.out.below hBc HT.out.1)).mono ?_
  rintro e' wa615 ⟨rfl, hb615⟩
  clear hBc
  go_simp
  have hS615 : (fun W => Below w4.heap.size w4 W ∧ Below wT605.heap.size wT605 W) wa615 := ⟨(hH612.1).trans (hb615.mono (hH612.1).size), (hH612.2).trans (hb615.mono (hH612.2).size)⟩
  refine hK.out _ _ hS615 (fun hH615 => ?_)
  clear hK K
  try simp only [Act.put, List.setIfInBounds_toArray, List.set_cons_zero, List.set_cons_succ]
  refine wpAnyH_take (i := 15) (oi := { dst := some 48, op := Op.pick (Operand.tmp 46) (Operand.tmp 47) (Operand.const (Value.bool false)), type := 4, pos := "law.go:44", after := #[{ on := 13, ground := Ground.data }, { on := 14, ground := Ground.data }], guard := none }) (v := ?tkv616) rfl (by kernel_rfl) (by kernel_rfl) (by kernel_rfl) (fun _ _ _ h => h) (Or.inl ⟨by rfl, ?tky616⟩) hH615 ?tkr616
  case tky616 => (intro w' hSw; clear hSw; go_simp; try with_reducible rfl)
  try simp only [Act.put, List.setIfInBounds_toArray, List.set_cons_zero, List.set_cons_succ]
  refine wpAnyH_take (i := 16) (oi := { dst := some 6, op := Op.assign (Operand.tmp 48), type := 4, pos := "law.go:44", after := #[{ on := 15, ground := Ground.data }, { on := 14, ground := Ground.chain }, { on := 0, ground := Ground.phase }, { on := 1, ground := Ground.phase }, { on := 2, ground := Ground.phase }, { on := 3, ground := Ground.phase }, { on := 4, ground := Ground.phase }, { on := 5, ground := Ground.phase }, { on := 6, ground := Ground.phase }, { on := 7, ground := Ground.phase }, { on := 8, ground := Ground.phase }, { on := 9, ground := Ground.phase }, { on := 10, ground := Ground.phase }, { on := 11, ground := Ground.phase }, { on := 12, ground := Ground.phase }, { on := 13, ground := Ground.phase }, { on := 14, ground := Ground.phase }, { on := 15, ground := Ground.phase }], guard := none }) (v := ?tkv617) rfl (by kernel_rfl) (by kernel_rfl) (by kernel_rfl) (fun _ _ _ h => h) (Or.inl ⟨by rfl, ?tky617⟩) hH615 ?tkr617
  case tky617 => (intro w' hSw; clear hSw; go_simp; try with_reducible rfl)
  try simp only [Act.put, List.setIfInBounds_toArray, List.set_cons_zero, List.set_cons_succ]
  refine wpAnyH_done (by kernel_rfl) ?_ _
  refine NoPanic.normal ?_
  have hEnd := HB.out.trans ((hH615.1).mono HB.out.size)
  go_wp2_with fail
  go_ret
  exact ⟨rfl, hEnd⟩
end Go.Proofs.YtapjaagigjfidaaDoor.Sh
