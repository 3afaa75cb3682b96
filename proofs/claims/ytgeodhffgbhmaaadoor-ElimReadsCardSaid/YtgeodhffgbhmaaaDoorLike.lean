/- Like: a row is as the page has it: by contract. -/
import Derived.Test.YtgeodhffgbhmaaaDoorR1BitsX
import Derived.Test.YtgeodhffgbhmaaaDoorGrow
import Derived.Deep.DeepCutAuto
namespace Go.Proofs.YtgeodhffgbhmaaaDoor.Vc
open Go.RowKit
open VecM
theorem ls_n {X n : Nat} (hX : X < 2 ^ n) (hn : n ≤ 256) : L X n = Ls X := by unfold Ls; exact (L_more hX hn).symm
theorem quiet_below {f : FuncId} {args : Array Value} {w : World} {v : Value} (h : Calls Tryd.prog f args w fun e w' => e = .returned v ∧ w = w') : Calls Tryd.prog f args w fun e w' => e = .returned v ∧ Below w.heap.size w w' :=
  h.mono fun e w' ⟨he, hw⟩ => ⟨he, by subst hw; exact Below.refl _ _⟩
theorem QB_below {f : FuncId} {args : Array Value} {w : World} {B : Bool} (h : Calls Tryd.prog f args w (QB B w)) : Calls Tryd.prog f args w fun e w' => e = .returned (.bool B) ∧ Below w.heap.size w w' :=
  h.mono fun e w' ⟨he, q, hq⟩ => ⟨he, by subst hq; exact drew_below w q⟩
set_option maxRecDepth 100000 in
set_option maxHeartbeats 1600000 in
theorem like_yes (g h n X B c : Nat) (A : Option Addr) (w : World) (v : VecAt w g h n X) (hr : Row w B A n (vb X n)) (hB : B ≤ w.heap.size) (ht : DTab w) : Calls Tryd.prog 16 #[.pointer (some ⟨g, 0, none⟩), .slice A n c] w fun e w' => e = .returned (.int .i64 0) ∧ Hid (Below w.heap.size w w') := by
  have hn := v.1
  have hls := ls_n v.2.1 v.1
  have hll := ls_lt X
  have HV := Lib.hid (fun (W : World) (hW : Below w.heap.size w W) => v.below hW)
  have HR := Lib.hid (fun (W : World) (hW : Below w.heap.size w W) => hr.below (hW.mono hB))
  have HT := Lib.hid (fun (W : World) (hW : Below w.heap.size w W) => ht.grow hW)
  have HX := Lib.hid v.2.1
  obtain ⟨m, hm⟩ : ∃ m, (Ls X).length = m := ⟨_, rfl⟩
  obtain ⟨F, hF⟩ : ∃ F, firstI (Ls X) = F := ⟨_, rfl⟩
  have H1 := Lib.hid (fun (W : World) (hW : Below w.heap.size w W) => quiet_below (len_any g h n X W (v.below hW)))
  have H2 := Lib.hid (fun (W : World) (hW : Below w.heap.size w W) => quiet_below (first_any g h n X W (v.below hW) (ht.grow hW)))
  have H3 := Lib.hid (fun (W : World) (hW : Below w.heap.size w W) => quiet_below (r1first_any B n c X A W (hr.below (hW.mono hB)) (by omega)))
  have H4 := Lib.hid (fun (W : World) (hW : Below w.heap.size w W) => list_any g h n X W (v.below hW) (ht.grow hW))
  have H5 := Lib.hid (fun (W : World) (hW : Below w.heap.size w W) => r1list_any B n c X A W (hr.below (hW.mono hB)) (by omega) (Nat.le_trans hB hW.size))
  have H6 := Lib.hid (fun (W : World) (hW : Below w.heap.size w W) => quiet_below (count_any g h n X W (v.below hW)))
  have H7 := Lib.hid (fun (W : World) (hW : Below w.heap.size w W) => bytes_any g h n X W (v.below hW))
  have H8 := Lib.hid (fun (W : World) (hW : Below w.heap.size w W) => r1pack_any B n c X A W (hr.below (hW.mono hB)) v.2.1 (by omega) (Nat.le_trans hB hW.size))
  have H9 := Lib.hid (fun (W : World) (B1 B2 c1 c2 : Nat) (A1 A2 : Option Addr) (h1 : Row W B1 A1 m (ni (Ls X))) (h2 : Row W B2 A2 m (ni (Ls X))) => QB_below (same5_yes B1 B2 m c1 c2 A1 A2 _ W h1 h2 (by omega)))
  rw [hls] at H3 H5
  rw [hF] at H2 H3
  rw [hm] at H6
  obtain ⟨Q, hQ⟩ : ∃ Q, bl X n = Q := ⟨_, rfl⟩
  rw [hQ] at H7 H8
  clear hQ
  unfold ListOk at H4
  unfold ListOk' at H5
  rw [hm] at H4 H5
  clear v hr hB ht hls hll hm hF HV HR HT HX
  go_enter Tryd.func16, Tryd.ntmps16
  go_upto_region 1 with fail
  refine wp_region_noPanic ?_
  refine wp_region_held_drew (S := (fun W => Below w.heap.size w W)) (by kernel_rfl) (Below.refl _ _).drew (fun hH0 => ?_)
  have hH0 : Below w.heap.size w w.drew := hH0
  generalize w.drew = wd at *
  refine wpAnyH_take (i := 0) (oi := { dst := some 5, op := Op.move (Operand.tmp 0), type := 33, pos := "law.go:29", after := #[], guard := none }) (v := ?tkv1) rfl (by kernel_rfl) (by kernel_rfl) (by kernel_rfl) (fun _ _ _ h => h) (Or.inl ⟨by rfl, ?tky1⟩) hH0 ?tkr1
  case tky1 => (intro w' hSw; clear hSw; go_simp; try with_reducible rfl)
  try simp only [Act.put, List.setIfInBounds_toArray, List.set_cons_zero, List.set_cons_succ]
  refine wpAnyH_take (i := 1) (oi := { dst := some 6, op := Op.binOp BinOp.eql 33 (Operand.tmp 5) (Operand.const (Value.pointer none)) 33, type := 4, pos := "law.go:29", after := #[{ on := 0, ground := Ground.data }], guard := none }) (v := ?tkv2) rfl (by kernel_rfl) (by kernel_rfl) (by kernel_rfl) (fun _ _ _ h => h) (Or.inl ⟨by rfl, ?tky2⟩) hH0 ?tkr2
  case tky2 => (intro w' hSw; clear hSw; go_simp; try with_reducible rfl)
  try simp only [Act.put, List.setIfInBounds_toArray, List.set_cons_zero, List.set_cons_succ]
  refine wpAnyH_take (i := 2) (oi := { dst := some 7, op := Op.move (Operand.tmp 6), type := 4, pos := "law.go:29", after := #[{ on := 1, ground := Ground.data }], guard := none }) (v := ?tkv3) rfl (by kernel_rfl) (by kernel_rfl) (by kernel_rfl) (fun _ _ _ h => h) (Or.inl ⟨by rfl, ?tky3⟩) hH0 ?tkr3
  case tky3 => (intro w' hSw; clear hSw; go_simp; try with_reducible rfl)
  try simp only [Act.put, List.setIfInBounds_toArray, List.set_cons_zero, List.set_cons_succ]
  refine wpAnyH_take (i := 3) (oi := { dst := some 8, op := Op.move (Operand.tmp 0), type := 33, pos := "law.go:29", after := #[{ on := 2, ground := Ground.guard }], guard := some (2, false) }) (v := ?tkv4) rfl (by kernel_rfl) (by kernel_rfl) (by kernel_rfl) (fun _ _ _ h => h) (Or.inl ⟨by rfl, ?tky4⟩) hH0 ?tkr4
  case tky4 => (intro w' hSw; clear hSw; go_simp; try with_reducible rfl)
  try simp only [Act.put, List.setIfInBounds_toArray, List.set_cons_zero, List.set_cons_succ]
  refine wpAnyH_take (i := 5) (oi := { dst := some 10, op := Op.move (Operand.tmp 1), type := 35, pos := "law.go:29", after := #[{ on := 2, ground := Ground.guard }], guard := some (2, false) }) (v := ?tkv5) rfl (by kernel_rfl) (by kernel_rfl) (by kernel_rfl) (fun _ _ _ h => h) (Or.inl ⟨by rfl, ?tky5⟩) hH0 ?tkr5
  case tky5 => (intro w' hSw; clear hSw; go_simp; try with_reducible rfl)
  try simp only [Act.put, List.setIfInBounds_toArray, List.set_cons_zero, List.set_cons_succ]
  refine wpAnyH_take (i := 6) (oi := { dst := some 11, op := Op.call { callee := Callee.builtin Builtin.len, args := #[Operand.tmp 10], argTypes := #[35] }, type := 3, pos := "law.go:29", after := #[{ on := 5, ground := Ground.data }, { on := 2, ground := Ground.guard }], guard := some (2, false) }) (v := ?tkv6) rfl (by kernel_rfl) (by kernel_rfl) (by kernel_rfl) (fun _ _ _ h => h) (Or.inl ⟨by rfl, ?tky6⟩) hH0 ?tkr6
  case tky6 => (intro w' hSw; clear hSw; go_simp; try with_reducible rfl)
  try simp only [Act.put, List.setIfInBounds_toArray, List.set_cons_zero, List.set_cons_succ]
  refine wpAnyH_ready (rs := [4]) (by kernel_rfl) (by simp) ?_
  refine AllReadyH.cons (o := { dst := some 9, op := Op.call { callee := Callee.value (Operand.func 28), args := #[Operand.tmp 8], argTypes := #[33] }, type := 3, pos := "law.go:29", after := #[{ on := 3, ground := Ground.data }, { on := 2, ground := Ground.chain }, { on := 2, ground := Ground.guard }], guard := some (2, false) }) rfl (fun K hK => ?_) AllReadyH.nil
  go_simp
  refine (H1.out _ hH0).mono ?_
  rintro e w1 ⟨rfl, hb4⟩
  go_wp2_with fail
  refine hK.out _ _ ((hH0).trans (hb4.mono (hH0).size)) (fun hH7 => ?_)
  clear hK K
  try simp only [Act.put, List.setIfInBounds_toArray, List.set_cons_zero, List.set_cons_succ]
  have hG7 : (fun W => Below w.heap.size w W ∧ Below w1.heap.size w1 W) w1 := ⟨hH7, Below.refl _ _⟩
  refine wpAnyH_grow (S' := (fun W => Below w.heap.size w W ∧ Below w1.heap.size w1 W)) (fun _ h => h.1) _ _ _ _ ?_
  refine wpAnyH_take (i := 7) (oi := { dst := some 12, op := Op.binOp BinOp.neq 3 (Operand.tmp 9) (Operand.tmp 11) 3, type := 4, pos := "law.go:29", after := #[{ on := 4, ground := Ground.data }, { on := 6, ground := Ground.data }, { on := 2, ground := Ground.guard }], guard := some (2, false) }) (v := ?tkv8) rfl (by kernel_rfl) (by kernel_rfl) (by kernel_rfl) (fun _ _ _ h => h) (Or.inl ⟨by rfl, ?tky8⟩) hG7 ?tkr8
  case tky8 => (intro w' hSw; clear hSw; go_simp; try with_reducible rfl)
  try simp only [Act.put, List.setIfInBounds_toArray, List.set_cons_zero, List.set_cons_succ]
  refine wpAnyH_take (i := 8) (oi := { dst := some 13, op := Op.pick (Operand.tmp 7) (Operand.const (Value.bool true)) (Operand.tmp 12), type := 4, pos := "law.go:29", after := #[{ on := 2, ground := Ground.data }, { on := 7, ground := Ground.data }], guard := none }) (v := ?tkv9) rfl (by kernel_rfl) (by kernel_rfl) (by kernel_rfl) (fun _ _ _ h => h) (Or.inl ⟨by rfl, ?tky9⟩) hG7 ?tkr9
  case tky9 => (intro w' hSw; clear hSw; go_simp; try with_reducible rfl)
  try simp only [Act.put, List.setIfInBounds_toArray, List.set_cons_zero, List.set_cons_succ]
  refine wpAnyH_take (i := 9) (oi := { dst := some 14, op := Op.move (Operand.tmp 13), type := 4, pos := "law.go:29", after := #[{ on := 8, ground := Ground.data }, { on := 4, ground := Ground.chain }], guard := none }) (v := ?tkv10) rfl (by kernel_rfl) (by kernel_rfl) (by kernel_rfl) (fun _ _ _ h => h) (Or.inl ⟨by rfl, ?tky10⟩) hG7 ?tkr10
  case tky10 => (intro w' hSw; clear hSw; go_simp; try with_reducible rfl)
  try simp only [Act.put, List.setIfInBounds_toArray, List.set_cons_zero, List.set_cons_succ]
  refine wpAnyH_take (i := 10) (oi := { dst := some 15, op := Op.move (Operand.tmp 0), type := 33, pos := "law.go:29", after := #[{ on := 9, ground := Ground.guard }], guard := some (9, false) }) (v := ?tkv11) rfl (by kernel_rfl) (by kernel_rfl) (by kernel_rfl) (fun _ _ _ h => h) (Or.inl ⟨by rfl, ?tky11⟩) hG7 ?tkr11
  case tky11 => (intro w' hSw; clear hSw; go_simp; try with_reducible rfl)
  try simp only [Act.put, List.setIfInBounds_toArray, List.set_cons_zero, List.set_cons_succ]
  refine wpAnyH_take (i := 12) (oi := { dst := some 17, op := Op.move (Operand.tmp 1), type := 35, pos := "law.go:29", after := #[{ on := 9, ground := Ground.guard }], guard := some (9, false) }) (v := ?tkv12) rfl (by kernel_rfl) (by kernel_rfl) (by kernel_rfl) (fun _ _ _ h => h) (Or.inl ⟨by rfl, ?tky12⟩) hG7 ?tkr12
  case tky12 => (intro w' hSw; clear hSw; go_simp; try with_reducible rfl)
  try simp only [Act.put, List.setIfInBounds_toArray, List.set_cons_zero, List.set_cons_succ]
  refine wpAnyH_ready (rs := [11]) (by kernel_rfl) (by simp) ?_
  refine AllReadyH.cons (o := { dst := some 16, op := Op.call { callee := Callee.value (Operand.func 30), args := #[Operand.tmp 15], argTypes := #[33] }, type := 3, pos := "law.go:29", after := #[{ on := 10, ground := Ground.data }, { on := 9, ground := Ground.chain }, { on := 9, ground := Ground.guard }], guard := some (9, false) }) rfl (fun K hK => ?_) AllReadyH.nil
  go_simp
  refine (H2.out _ hG7.1).mono ?_
  rintro e w2 ⟨rfl, hb11⟩
  go_wp2_with fail
  refine hK.out _ _ (⟨(hG7.1).trans (hb11.mono (hG7.1).size), (hG7.2).trans (hb11.mono (hG7.2).size)⟩) (fun hH13 => ?_)
  clear hK K
  try simp only [Act.put, List.setIfInBounds_toArray, List.set_cons_zero, List.set_cons_succ]
  have hG13 : (fun W => Below w.heap.size w W ∧ Below w1.heap.size w1 W ∧ Below w2.heap.size w2 W) w2 := ⟨hH13.1, hH13.2, Below.refl _ _⟩
  refine wpAnyH_grow (S' := (fun W => Below w.heap.size w W ∧ Below w1.heap.size w1 W ∧ Below w2.heap.size w2 W)) (fun _ h => ⟨h.1, h.2.1⟩) _ _ _ _ ?_
  refine wpAnyH_ready (rs := [13]) (by kernel_rfl) (by simp) ?_
  refine AllReadyH.cons (o := { dst := some 18, op := Op.call { callee := Callee.value (Operand.func 32), args := #[Operand.tmp 17], argTypes := #[35] }, type := 3, pos := "law.go:29", after := #[{ on := 12, ground := Ground.data }, { on := 11, ground := Ground.chain }, { on := 9, ground := Ground.guard }], guard := some (9, false) }) rfl (fun K hK => ?_) AllReadyH.nil
  go_simp
  refine (H3.out _ hG13.1).mono ?_
  rintro e w3 ⟨rfl, hb13⟩
  go_wp2_with fail
  refine hK.out _ _ (⟨(hG13.1).trans (hb13.mono (hG13.1).size), (hG13.2.1).trans (hb13.mono (hG13.2.1).size), (hG13.2.2).trans (hb13.mono (hG13.2.2).size)⟩) (fun hH14 => ?_)
  clear hK K
  try simp only [Act.put, List.setIfInBounds_toArray, List.set_cons_zero, List.set_cons_succ]
  have hG14 : (fun W => Below w.heap.size w W ∧ Below w1.heap.size w1 W ∧ Below w2.heap.size w2 W ∧ Below w3.heap.size w3 W) w3 := ⟨hH14.1, hH14.2.1, hH14.2.2, Below.refl _ _⟩
  refine wpAnyH_grow (S' := (fun W => Below w.heap.size w W ∧ Below w1.heap.size w1 W ∧ Below w2.heap.size w2 W ∧ Below w3.heap.size w3 W)) (fun _ h => ⟨h.1, h.2.1, h.2.2.1⟩) _ _ _ _ ?_
  refine wpAnyH_take (i := 14) (oi := { dst := some 19, op := Op.binOp BinOp.neq 3 (Operand.tmp 16) (Operand.tmp 18) 3, type := 4, pos := "law.go:29", after := #[{ on := 11, ground := Ground.data }, { on := 13, ground := Ground.data }, { on := 9, ground := Ground.guard }], guard := some (9, false) }) (v := ?tkv15) rfl (by kernel_rfl) (by kernel_rfl) (by kernel_rfl) (fun _ _ _ h => h) (Or.inl ⟨by rfl, ?tky15⟩) hG14 ?tkr15
  case tky15 => (intro w' hSw; clear hSw; go_simp; try with_reducible rfl)
  try simp only [Act.put, List.setIfInBounds_toArray, List.set_cons_zero, List.set_cons_succ]
  refine wpAnyH_take (i := 15) (oi := { dst := some 20, op := Op.pick (Operand.tmp 14) (Operand.const (Value.bool true)) (Operand.tmp 19), type := 4, pos := "law.go:29", after := #[{ on := 9, ground := Ground.data }, { on := 14, ground := Ground.data }], guard := none }) (v := ?tkv16) rfl (by kernel_rfl) (by kernel_rfl) (by kernel_rfl) (fun _ _ _ h => h) (Or.inl ⟨by rfl, ?tky16⟩) hG14 ?tkr16
  case tky16 => (intro w' hSw; clear hSw; go_simp; try with_reducible rfl)
  try simp only [Act.put, List.setIfInBounds_toArray, List.set_cons_zero, List.set_cons_succ]
  refine wpAnyH_take (i := 16) (oi := { dst := some 21, op := Op.move (Operand.tmp 20), type := 4, pos := "law.go:29", after := #[{ on := 15, ground := Ground.data }, { on := 13, ground := Ground.chain }], guard := none }) (v := ?tkv17) rfl (by kernel_rfl) (by kernel_rfl) (by kernel_rfl) (fun _ _ _ h => h) (Or.inl ⟨by rfl, ?tky17⟩) hG14 ?tkr17
  case tky17 => (intro w' hSw; clear hSw; go_simp; try with_reducible rfl)
  try simp only [Act.put, List.setIfInBounds_toArray, List.set_cons_zero, List.set_cons_succ]
  refine wpAnyH_take (i := 17) (oi := { dst := some 22, op := Op.move (Operand.tmp 0), type := 33, pos := "law.go:29", after := #[{ on := 16, ground := Ground.guard }], guard := some (16, false) }) (v := ?tkv18) rfl (by kernel_rfl) (by kernel_rfl) (by kernel_rfl) (fun _ _ _ h => h) (Or.inl ⟨by rfl, ?tky18⟩) hG14 ?tkr18
  case tky18 => (intro w' hSw; clear hSw; go_simp; try with_reducible rfl)
  try simp only [Act.put, List.setIfInBounds_toArray, List.set_cons_zero, List.set_cons_succ]
  refine wpAnyH_take (i := 19) (oi := { dst := some 24, op := Op.move (Operand.tmp 1), type := 35, pos := "law.go:29", after := #[{ on := 16, ground := Ground.guard }], guard := some (16, false) }) (v := ?tkv19) rfl (by kernel_rfl) (by kernel_rfl) (by kernel_rfl) (fun _ _ _ h => h) (Or.inl ⟨by rfl, ?tky19⟩) hG14 ?tkr19
  case tky19 => (intro w' hSw; clear hSw; go_simp; try with_reducible rfl)
  try simp only [Act.put, List.setIfInBounds_toArray, List.set_cons_zero, List.set_cons_succ]
  refine wpAnyH_ready (rs := [18]) (by kernel_rfl) (by simp) ?_
  refine AllReadyH.cons (o := { dst := some 23, op := Op.call { callee := Callee.value (Operand.func 40), args := #[Operand.tmp 22], argTypes := #[33] }, type := 29, pos := "law.go:29", after := #[{ on := 17, ground := Ground.data }, { on := 16, ground := Ground.chain }, { on := 16, ground := Ground.guard }], guard := some (16, false) }) rfl (fun K hK => ?_) AllReadyH.nil
  go_simp
  refine (H4.out _ hG14.1).mono ?_
  rintro e w4 ⟨A4, c4, rfl, ho4, hb18'⟩
  have hb18 := hb18'.out
  go_wp2_with fail
  refine hK.out _ _ (⟨(hG14.1).trans (hb18.mono (hG14.1).size), (hG14.2.1).trans (hb18.mono (hG14.2.1).size), (hG14.2.2.1).trans (hb18.mono (hG14.2.2.1).size), (hG14.2.2.2).trans (hb18.mono (hG14.2.2.2).size)⟩) (fun hH20 => ?_)
  clear hK K
  try simp only [Act.put, List.setIfInBounds_toArray, List.set_cons_zero, List.set_cons_succ]
  have hG20 : (fun W => Below w.heap.size w W ∧ Below w1.heap.size w1 W ∧ Below w2.heap.size w2 W ∧ Below w3.heap.size w3 W ∧ Below w4.heap.size w4 W) w4 := ⟨hH20.1, hH20.2.1, hH20.2.2.1, hH20.2.2.2, Below.refl _ _⟩
  refine wpAnyH_grow (S' := (fun W => Below w.heap.size w W ∧ Below w1.heap.size w1 W ∧ Below w2.heap.size w2 W ∧ Below w3.heap.size w3 W ∧ Below w4.heap.size w4 W)) (fun _ h => ⟨h.1, h.2.1, h.2.2.1, h.2.2.2.1⟩) _ _ _ _ ?_
  refine wpAnyH_ready (rs := [20]) (by kernel_rfl) (by simp) ?_
  refine AllReadyH.cons (o := { dst := some 25, op := Op.call { callee := Callee.value (Operand.func 41), args := #[Operand.tmp 24], argTypes := #[35] }, type := 29, pos := "law.go:29", after := #[{ on := 19, ground := Ground.data }, { on := 18, ground := Ground.chain }, { on := 16, ground := Ground.guard }], guard := some (16, false) }) rfl (fun K hK => ?_) AllReadyH.nil
  go_simp
  refine (H5.out _ hG20.1).mono ?_
  rintro e w5 ⟨A5, c5, rfl, ho5, hb20'⟩
  have hb20 := hb20'.out
  go_wp2_with fail
  refine hK.out _ _ (⟨(hG20.1).trans (hb20.mono (hG20.1).size), (hG20.2.1).trans (hb20.mono (hG20.2.1).size), (hG20.2.2.1).trans (hb20.mono (hG20.2.2.1).size), (hG20.2.2.2.1).trans (hb20.mono (hG20.2.2.2.1).size), (hG20.2.2.2.2).trans (hb20.mono (hG20.2.2.2.2).size)⟩) (fun hH21 => ?_)
  clear hK K
  try simp only [Act.put, List.setIfInBounds_toArray, List.set_cons_zero, List.set_cons_succ]
  have hG21 : (fun W => Below w.heap.size w W ∧ Below w1.heap.size w1 W ∧ Below w2.heap.size w2 W ∧ Below w3.heap.size w3 W ∧ Below w4.heap.size w4 W ∧ Below w5.heap.size w5 W) w5 := ⟨hH21.1, hH21.2.1, hH21.2.2.1, hH21.2.2.2.1, hH21.2.2.2.2, Below.refl _ _⟩
  refine wpAnyH_grow (S' := (fun W => Below w.heap.size w W ∧ Below w1.heap.size w1 W ∧ Below w2.heap.size w2 W ∧ Below w3.heap.size w3 W ∧ Below w4.heap.size w4 W ∧ Below w5.heap.size w5 W)) (fun _ h => ⟨h.1, h.2.1, h.2.2.1, h.2.2.2.1, h.2.2.2.2.1⟩) _ _ _ _ ?_
  refine wpAnyH_ready (rs := [21]) (by kernel_rfl) (by simp) ?_
  refine AllReadyH.cons (o := { dst := some 26, op := Op.call { callee := Callee.value (Operand.func 39), args := #[Operand.tmp 23, Operand.tmp 25], argTypes := #[29, 29] }, type := 4, pos := "law.go:29", after := #[{ on := 18, ground := Ground.data }, { on := 20, ground := Ground.data }, { on := 20, ground := Ground.chain }, { on := 16, ground := Ground.guard }], guard := some (16, false) }) rfl (fun K hK => ?_) AllReadyH.nil
  go_simp
  refine (H9.out _ _ _ c4 c5 A4 A5 ((Row.of_own ho4.out).below hG21.2.2.2.2.1) ((Row.of_own ho5.out).below hG21.2.2.2.2.2)).mono ?_
  rintro e w6 ⟨rfl, hb21⟩
  go_wp2_with fail
  refine hK.out _ _ (⟨(hG21.1).trans (hb21.mono (hG21.1).size), (hG21.2.1).trans (hb21.mono (hG21.2.1).size), (hG21.2.2.1).trans (hb21.mono (hG21.2.2.1).size), (hG21.2.2.2.1).trans (hb21.mono (hG21.2.2.2.1).size), (hG21.2.2.2.2.1).trans (hb21.mono (hG21.2.2.2.2.1).size), (hG21.2.2.2.2.2).trans (hb21.mono (hG21.2.2.2.2.2).size)⟩) (fun hH22 => ?_)
  clear hK K
  try simp only [Act.put, List.setIfInBounds_toArray, List.set_cons_zero, List.set_cons_succ]
  have hG22 : (fun W => Below w.heap.size w W ∧ Below w1.heap.size w1 W ∧ Below w2.heap.size w2 W ∧ Below w3.heap.size w3 W ∧ Below w4.heap.size w4 W ∧ Below w5.heap.size w5 W ∧ Below w6.heap.size w6 W) w6 := ⟨hH22.1, hH22.2.1, hH22.2.2.1, hH22.2.2.2.1, hH22.2.2.2.2.1, hH22.2.2.2.2.2, Below.refl _ _⟩
  refine wpAnyH_grow (S' := (fun W => Below w.heap.size w W ∧ Below w1.heap.size w1 W ∧ Below w2.heap.size w2 W ∧ Below w3.heap.size w3 W ∧ Below w4.heap.size w4 W ∧ Below w5.heap.size w5 W ∧ Below w6.heap.size w6 W)) (fun _ h => ⟨h.1, h.2.1, h.2.2.1, h.2.2.2.1, h.2.2.2.2.1, h.2.2.2.2.2.1⟩) _ _ _ _ ?_
  refine wpAnyH_take (i := 22) (oi := { dst := some 27, op := Op.unOp UnOp.not 4 (Operand.tmp 26), type := 4, pos := "law.go:29", after := #[{ on := 21, ground := Ground.data }, { on := 16, ground := Ground.guard }], guard := some (16, false) }) (v := ?tkv23) rfl (by kernel_rfl) (by kernel_rfl) (by kernel_rfl) (fun _ _ _ h => h) (Or.inl ⟨by rfl, ?tky23⟩) hG22 ?tkr23
  case tky23 => (intro w' hSw; clear hSw; go_simp; try with_reducible rfl)
  try simp only [Act.put, List.setIfInBounds_toArray, List.set_cons_zero, List.set_cons_succ]
  refine wpAnyH_take (i := 23) (oi := { dst := some 28, op := Op.pick (Operand.tmp 21) (Operand.const (Value.bool true)) (Operand.tmp 27), type := 4, pos := "law.go:29", after := #[{ on := 16, ground := Ground.data }, { on := 22, ground := Ground.data }], guard := none }) (v := ?tkv24) rfl (by kernel_rfl) (by kernel_rfl) (by kernel_rfl) (fun _ _ _ h => h) (Or.inl ⟨by rfl, ?tky24⟩) hG22 ?tkr24
  case tky24 => (intro w' hSw; clear hSw; go_simp; try with_reducible rfl)
  try simp only [Act.put, List.setIfInBounds_toArray, List.set_cons_zero, List.set_cons_succ]
  refine wpAnyH_take (i := 24) (oi := { dst := some 29, op := Op.move (Operand.tmp 28), type := 4, pos := "law.go:29", after := #[{ on := 23, ground := Ground.data }, { on := 21, ground := Ground.chain }], guard := none }) (v := ?tkv25) rfl (by kernel_rfl) (by kernel_rfl) (by kernel_rfl) (fun _ _ _ h => h) (Or.inl ⟨by rfl, ?tky25⟩) hG22 ?tkr25
  case tky25 => (intro w' hSw; clear hSw; go_simp; try with_reducible rfl)
  try simp only [Act.put, List.setIfInBounds_toArray, List.set_cons_zero, List.set_cons_succ]
  refine wpAnyH_take (i := 25) (oi := { dst := some 30, op := Op.move (Operand.tmp 0), type := 33, pos := "law.go:29", after := #[{ on := 24, ground := Ground.guard }], guard := some (24, false) }) (v := ?tkv26) rfl (by kernel_rfl) (by kernel_rfl) (by kernel_rfl) (fun _ _ _ h => h) (Or.inl ⟨by rfl, ?tky26⟩) hG22 ?tkr26
  case tky26 => (intro w' hSw; clear hSw; go_simp; try with_reducible rfl)
  try simp only [Act.put, List.setIfInBounds_toArray, List.set_cons_zero, List.set_cons_succ]
  refine wpAnyH_take (i := 27) (oi := { dst := some 32, op := Op.move (Operand.tmp 1), type := 35, pos := "law.go:29", after := #[{ on := 24, ground := Ground.guard }], guard := some (24, false) }) (v := ?tkv27) rfl (by kernel_rfl) (by kernel_rfl) (by kernel_rfl) (fun _ _ _ h => h) (Or.inl ⟨by rfl, ?tky27⟩) hG22 ?tkr27
  case tky27 => (intro w' hSw; clear hSw; go_simp; try with_reducible rfl)
  try simp only [Act.put, List.setIfInBounds_toArray, List.set_cons_zero, List.set_cons_succ]
  refine wpAnyH_ready (rs := [26]) (by kernel_rfl) (by simp) ?_
  refine AllReadyH.cons (o := { dst := some 31, op := Op.call { callee := Callee.value (Operand.func 42), args := #[Operand.tmp 30], argTypes := #[33] }, type := 3, pos := "law.go:29", after := #[{ on := 25, ground := Ground.data }, { on := 24, ground := Ground.chain }, { on := 24, ground := Ground.guard }], guard := some (24, false) }) rfl (fun K hK => ?_) AllReadyH.nil
  go_simp
  refine (H6.out _ hG22.1).mono ?_
  rintro e w7 ⟨rfl, hb26⟩
  go_wp2_with fail
  refine hK.out _ _ (⟨(hG22.1).trans (hb26.mono (hG22.1).size), (hG22.2.1).trans (hb26.mono (hG22.2.1).size), (hG22.2.2.1).trans (hb26.mono (hG22.2.2.1).size), (hG22.2.2.2.1).trans (hb26.mono (hG22.2.2.2.1).size), (hG22.2.2.2.2.1).trans (hb26.mono (hG22.2.2.2.2.1).size), (hG22.2.2.2.2.2.1).trans (hb26.mono (hG22.2.2.2.2.2.1).size), (hG22.2.2.2.2.2.2).trans (hb26.mono (hG22.2.2.2.2.2.2).size)⟩) (fun hH28 => ?_)
  clear hK K
  try simp only [Act.put, List.setIfInBounds_toArray, List.set_cons_zero, List.set_cons_succ]
  have hG28 : (fun W => Below w.heap.size w W ∧ Below w1.heap.size w1 W ∧ Below w2.heap.size w2 W ∧ Below w3.heap.size w3 W ∧ Below w4.heap.size w4 W ∧ Below w5.heap.size w5 W ∧ Below w6.heap.size w6 W ∧ Below w7.heap.size w7 W) w7 := ⟨hH28.1, hH28.2.1, hH28.2.2.1, hH28.2.2.2.1, hH28.2.2.2.2.1, hH28.2.2.2.2.2.1, hH28.2.2.2.2.2.2, Below.refl _ _⟩
  refine wpAnyH_grow (S' := (fun W => Below w.heap.size w W ∧ Below w1.heap.size w1 W ∧ Below w2.heap.size w2 W ∧ Below w3.heap.size w3 W ∧ Below w4.heap.size w4 W ∧ Below w5.heap.size w5 W ∧ Below w6.heap.size w6 W ∧ Below w7.heap.size w7 W)) (fun _ h => ⟨h.1, h.2.1, h.2.2.1, h.2.2.2.1, h.2.2.2.2.1, h.2.2.2.2.2.1, h.2.2.2.2.2.2.1⟩) _ _ _ _ ?_
  refine wpAnyH_ready (rs := [28]) (by kernel_rfl) (by simp) ?_
  refine AllReadyH.cons (o := { dst := some 33, op := Op.call { callee := Callee.value (Operand.func 41), args := #[Operand.tmp 32], argTypes := #[35] }, type := 29, pos := "law.go:29", after := #[{ on := 27, ground := Ground.data }, { on := 26, ground := Ground.chain }, { on := 24, ground := Ground.guard }], guard := some (24, false) }) rfl (fun K hK => ?_) AllReadyH.nil
  go_simp
  refine (H5.out _ hG28.1).mono ?_
  rintro e w8 ⟨A8, c8, rfl, ho8, hb28'⟩
  have hb28 := hb28'.out
  go_wp2_with fail
  refine hK.out _ _ (⟨(hG28.1).trans (hb28.mono (hG28.1).size), (hG28.2.1).trans (hb28.mono (hG28.2.1).size), (hG28.2.2.1).trans (hb28.mono (hG28.2.2.1).size), (hG28.2.2.2.1).trans (hb28.mono (hG28.2.2.2.1).size), (hG28.2.2.2.2.1).trans (hb28.mono (hG28.2.2.2.2.1).size), (hG28.2.2.2.2.2.1).trans (hb28.mono (hG28.2.2.2.2.2.1).size), (hG28.2.2.2.2.2.2.1).trans (hb28.mono (hG28.2.2.2.2.2.2.1).size), (hG28.2.2.2.2.2.2.2).trans (hb28.mono (hG28.2.2.2.2.2.2.2).size)⟩) (fun hH29 => ?_)
  clear hK K
  try simp only [Act.put, List.setIfInBounds_toArray, List.set_cons_zero, List.set_cons_succ]
  have hG29 : (fun W => Below w.heap.size w W ∧ Below w1.heap.size w1 W ∧ Below w2.heap.size w2 W ∧ Below w3.heap.size w3 W ∧ Below w4.heap.size w4 W ∧ Below w5.heap.size w5 W ∧ Below w6.heap.size w6 W ∧ Below w7.heap.size w7 W ∧ Below w8.heap.size w8 W) w8 := ⟨hH29.1, hH29.2.1, hH29.2.2.1, hH29.2.2.2.1, hH29.2.2.2.2.1, hH29.2.2.2.2.2.1, hH29.2.2.2.2.2.2.1, hH29.2.2.2.2.2.2.2, Below.refl _ _⟩
  refine wpAnyH_grow (S' := (fun W => Below w.heap.size w W ∧ Below w1.heap.size w1 W ∧ Below w2.heap.size w2 W ∧ Below w3.heap.size w3 W ∧ Below w4.heap.size w4 W ∧ Below w5.heap.size w5 W ∧ Below w6.heap.size w6 W ∧ Below w7.heap.size w7 W ∧ Below w8.heap.size w8 W)) (fun _ h => ⟨h.1, h.2.1, h.2.2.1, h.2.2.2.1, h.2.2.2.2.1, h.2.2.2.2.2.1, h.2.2.2.2.2.2.1, h.2.2.2.2.2.2.2.1⟩) _ _ _ _ ?_
  refine wpAnyH_take (i := 29) (oi := { dst := some 34, op := Op.call { callee := Callee.builtin Builtin.len, args := #[Operand.tmp 33], argTypes := #[29] }, type := 3, pos := "law.go:29", after := #[{ on := 28, ground := Ground.data }, { on := 24, ground := Ground.guard }], guard := some (24, false) }) (v := ?tkv30) rfl (by kernel_rfl) (by kernel_rfl) (by kernel_rfl) (fun _ _ _ h => h) (Or.inl ⟨by rfl, ?tky30⟩) hG29 ?tkr30
  case tky30 => (intro w' hSw; clear hSw; go_simp; try with_reducible rfl)
  try simp only [Act.put, List.setIfInBounds_toArray, List.set_cons_zero, List.set_cons_succ]
  refine wpAnyH_take (i := 30) (oi := { dst := some 35, op := Op.binOp BinOp.neq 3 (Operand.tmp 31) (Operand.tmp 34) 3, type := 4, pos := "law.go:29", after := #[{ on := 26, ground := Ground.data }, { on := 29, ground := Ground.data }, { on := 24, ground := Ground.guard }], guard := some (24, false) }) (v := ?tkv31) rfl (by kernel_rfl) (by kernel_rfl) (by kernel_rfl) (fun _ _ _ h => h) (Or.inl ⟨by rfl, ?tky31⟩) hG29 ?tkr31
  case tky31 => (intro w' hSw; clear hSw; go_simp; try with_reducible rfl)
  try simp only [Act.put, List.setIfInBounds_toArray, List.set_cons_zero, List.set_cons_succ]
  refine wpAnyH_take (i := 31) (oi := { dst := some 36, op := Op.pick (Operand.tmp 29) (Operand.const (Value.bool true)) (Operand.tmp 35), type := 4, pos := "law.go:29", after := #[{ on := 24, ground := Ground.data }, { on := 30, ground := Ground.data }], guard := none }) (v := ?tkv32) rfl (by kernel_rfl) (by kernel_rfl) (by kernel_rfl) (fun _ _ _ h => h) (Or.inl ⟨by rfl, ?tky32⟩) hG29 ?tkr32
  case tky32 => (intro w' hSw; clear hSw; go_simp; try with_reducible rfl)
  try simp only [Act.put, List.setIfInBounds_toArray, List.set_cons_zero, List.set_cons_succ]
  refine wpAnyH_take (i := 32) (oi := { dst := some 37, op := Op.move (Operand.tmp 36), type := 4, pos := "law.go:29", after := #[{ on := 31, ground := Ground.data }, { on := 28, ground := Ground.chain }], guard := none }) (v := ?tkv33) rfl (by kernel_rfl) (by kernel_rfl) (by kernel_rfl) (fun _ _ _ h => h) (Or.inl ⟨by rfl, ?tky33⟩) hG29 ?tkr33
  case tky33 => (intro w' hSw; clear hSw; go_simp; try with_reducible rfl)
  try simp only [Act.put, List.setIfInBounds_toArray, List.set_cons_zero, List.set_cons_succ]
  refine wpAnyH_take (i := 33) (oi := { dst := some 38, op := Op.move (Operand.tmp 0), type := 33, pos := "law.go:29", after := #[{ on := 32, ground := Ground.guard }], guard := some (32, false) }) (v := ?tkv34) rfl (by kernel_rfl) (by kernel_rfl) (by kernel_rfl) (fun _ _ _ h => h) (Or.inl ⟨by rfl, ?tky34⟩) hG29 ?tkr34
  case tky34 => (intro w' hSw; clear hSw; go_simp; try with_reducible rfl)
  try simp only [Act.put, List.setIfInBounds_toArray, List.set_cons_zero, List.set_cons_succ]
  refine wpAnyH_take (i := 36) (oi := { dst := some 41, op := Op.move (Operand.tmp 1), type := 35, pos := "law.go:29", after := #[{ on := 32, ground := Ground.guard }], guard := some (32, false) }) (v := ?tkv35) rfl (by kernel_rfl) (by kernel_rfl) (by kernel_rfl) (fun _ _ _ h => h) (Or.inl ⟨by rfl, ?tky35⟩) hG29 ?tkr35
  case tky35 => (intro w' hSw; clear hSw; go_simp; try with_reducible rfl)
  try simp only [Act.put, List.setIfInBounds_toArray, List.set_cons_zero, List.set_cons_succ]
  refine wpAnyH_ready (rs := [34]) (by kernel_rfl) (by simp) ?_
  refine AllReadyH.cons (o := { dst := some 39, op := Op.call { callee := Callee.value (Operand.func 43), args := #[Operand.tmp 38], argTypes := #[33] }, type := 30, pos := "law.go:29", after := #[{ on := 33, ground := Ground.data }, { on := 32, ground := Ground.chain }, { on := 32, ground := Ground.guard }], guard := some (32, false) }) rfl (fun K hK => ?_) AllReadyH.nil
  go_simp
  refine (H7.out _ hG29.1).mono ?_
  rintro e w9 ⟨g9, rfl, ho9, hb34'⟩
  have hb34 := hb34'.out
  have hk9 := Lib.hid (conv_own _ ho9.out)
  go_wp2_with fail
  refine hK.out _ _ (⟨(hG29.1).trans (hb34.mono (hG29.1).size), (hG29.2.1).trans (hb34.mono (hG29.2.1).size), (hG29.2.2.1).trans (hb34.mono (hG29.2.2.1).size), (hG29.2.2.2.1).trans (hb34.mono (hG29.2.2.2.1).size), (hG29.2.2.2.2.1).trans (hb34.mono (hG29.2.2.2.2.1).size), (hG29.2.2.2.2.2.1).trans (hb34.mono (hG29.2.2.2.2.2.1).size), (hG29.2.2.2.2.2.2.1).trans (hb34.mono (hG29.2.2.2.2.2.2.1).size), (hG29.2.2.2.2.2.2.2.1).trans (hb34.mono (hG29.2.2.2.2.2.2.2.1).size), (hG29.2.2.2.2.2.2.2.2).trans (hb34.mono (hG29.2.2.2.2.2.2.2.2).size)⟩) (fun hH36 => ?_)
  clear hK K
  try simp only [Act.put, List.setIfInBounds_toArray, List.set_cons_zero, List.set_cons_succ]
  have hG36 : (fun W => Below w.heap.size w W ∧ Below w1.heap.size w1 W ∧ Below w2.heap.size w2 W ∧ Below w3.heap.size w3 W ∧ Below w4.heap.size w4 W ∧ Below w5.heap.size w5 W ∧ Below w6.heap.size w6 W ∧ Below w7.heap.size w7 W ∧ Below w8.heap.size w8 W ∧ Below w9.heap.size w9 W) w9 := ⟨hH36.1, hH36.2.1, hH36.2.2.1, hH36.2.2.2.1, hH36.2.2.2.2.1, hH36.2.2.2.2.2.1, hH36.2.2.2.2.2.2.1, hH36.2.2.2.2.2.2.2.1, hH36.2.2.2.2.2.2.2.2, Below.refl _ _⟩
  refine wpAnyH_grow (S' := (fun W => Below w.heap.size w W ∧ Below w1.heap.size w1 W ∧ Below w2.heap.size w2 W ∧ Below w3.heap.size w3 W ∧ Below w4.heap.size w4 W ∧ Below w5.heap.size w5 W ∧ Below w6.heap.size w6 W ∧ Below w7.heap.size w7 W ∧ Below w8.heap.size w8 W ∧ Below w9.heap.size w9 W)) (fun _ h => ⟨h.1, h.2.1, h.2.2.1, h.2.2.2.1, h.2.2.2.2.1, h.2.2.2.2.2.1, h.2.2.2.2.2.2.1, h.2.2.2.2.2.2.2.1, h.2.2.2.2.2.2.2.2.1⟩) _ _ _ _ ?_
  refine wpAnyH_take (i := 35) (oi := { dst := some 40, op := Op.convert 30 9 (Operand.tmp 39), type := 9, pos := "law.go:29", after := #[{ on := 34, ground := Ground.data }, { on := 32, ground := Ground.guard }], guard := some (32, false) }) (v := ?tkv37) rfl (by kernel_rfl) (by kernel_rfl) (by kernel_rfl) (fun _ _ _ h => h) (Or.inl ⟨by rfl, ?tky37⟩) hG36 ?tkr37
  case tky37 => (intro w' hSw; have z0 := hk9.out _ hSw.2.2.2.2.2.2.2.2.2; clear hSw; go_simp; try with_reducible rfl)
  try simp only [Act.put, List.setIfInBounds_toArray, List.set_cons_zero, List.set_cons_succ]
  refine wpAnyH_ready (rs := [37]) (by kernel_rfl) (by simp) ?_
  refine AllReadyH.cons (o := { dst := some 42, op := Op.call { callee := Callee.value (Operand.func 44), args := #[Operand.tmp 41], argTypes := #[35] }, type := 30, pos := "law.go:29", after := #[{ on := 36, ground := Ground.data }, { on := 34, ground := Ground.chain }, { on := 32, ground := Ground.guard }], guard := some (32, false) }) rfl (fun K hK => ?_) AllReadyH.nil
  go_simp
  refine (H8.out _ hG36.1).mono ?_
  rintro e w10 ⟨A10, n10, c10, rfl, hn10, hr10, hb37'⟩
  have hb37 := hb37'.out
  have hk10 := Lib.hid (conv_row c10 hr10.out (Nat.le_refl _))
  go_wp2_with fail
  refine hK.out _ _ (⟨(hG36.1).trans (hb37.mono (hG36.1).size), (hG36.2.1).trans (hb37.mono (hG36.2.1).size), (hG36.2.2.1).trans (hb37.mono (hG36.2.2.1).size), (hG36.2.2.2.1).trans (hb37.mono (hG36.2.2.2.1).size), (hG36.2.2.2.2.1).trans (hb37.mono (hG36.2.2.2.2.1).size), (hG36.2.2.2.2.2.1).trans (hb37.mono (hG36.2.2.2.2.2.1).size), (hG36.2.2.2.2.2.2.1).trans (hb37.mono (hG36.2.2.2.2.2.2.1).size), (hG36.2.2.2.2.2.2.2.1).trans (hb37.mono (hG36.2.2.2.2.2.2.2.1).size), (hG36.2.2.2.2.2.2.2.2.1).trans (hb37.mono (hG36.2.2.2.2.2.2.2.2.1).size), (hG36.2.2.2.2.2.2.2.2.2).trans (hb37.mono (hG36.2.2.2.2.2.2.2.2.2).size)⟩) (fun hH38 => ?_)
  clear hK K
  try simp only [Act.put, List.setIfInBounds_toArray, List.set_cons_zero, List.set_cons_succ]
  have hG38 : (fun W => Below w.heap.size w W ∧ Below w1.heap.size w1 W ∧ Below w2.heap.size w2 W ∧ Below w3.heap.size w3 W ∧ Below w4.heap.size w4 W ∧ Below w5.heap.size w5 W ∧ Below w6.heap.size w6 W ∧ Below w7.heap.size w7 W ∧ Below w8.heap.size w8 W ∧ Below w9.heap.size w9 W ∧ Below w10.heap.size w10 W) w10 := ⟨hH38.1, hH38.2.1, hH38.2.2.1, hH38.2.2.2.1, hH38.2.2.2.2.1, hH38.2.2.2.2.2.1, hH38.2.2.2.2.2.2.1, hH38.2.2.2.2.2.2.2.1, hH38.2.2.2.2.2.2.2.2.1, hH38.2.2.2.2.2.2.2.2.2, Below.refl _ _⟩
  refine wpAnyH_grow (S' := (fun W => Below w.heap.size w W ∧ Below w1.heap.size w1 W ∧ Below w2.heap.size w2 W ∧ Below w3.heap.size w3 W ∧ Below w4.heap.size w4 W ∧ Below w5.heap.size w5 W ∧ Below w6.heap.size w6 W ∧ Below w7.heap.size w7 W ∧ Below w8.heap.size w8 W ∧ Below w9.heap.size w9 W ∧ Below w10.heap.size w10 W)) (fun _ h => ⟨h.1, h.2.1, h.2.2.1, h.2.2.2.1, h.2.2.2.2.1, h.2.2.2.2.2.1, h.2.2.2.2.2.2.1, h.2.2.2.2.2.2.2.1, h.2.2.2.2.2.2.2.2.1, h.2.2.2.2.2.2.2.2.2.1⟩) _ _ _ _ ?_
  refine wpAnyH_take (i := 38) (oi := { dst := some 43, op := Op.convert 30 9 (Operand.tmp 42), type := 9, pos := "law.go:29", after := #[{ on := 37, ground := Ground.data }, { on := 32, ground := Ground.guard }], guard := some (32, false) }) (v := ?tkv39) rfl (by kernel_rfl) (by kernel_rfl) (by kernel_rfl) (fun _ _ _ h => h) (Or.inl ⟨by rfl, ?tky39⟩) hG38 ?tkr39
  case tky39 => (intro w' hSw; have z0 := hk9.out _ hSw.2.2.2.2.2.2.2.2.2.1; have z1 := hk10.out _ hSw.2.2.2.2.2.2.2.2.2.2; clear hSw; go_simp; try with_reducible rfl)
  try simp only [Act.put, List.setIfInBounds_toArray, List.set_cons_zero, List.set_cons_succ]
  refine wpAnyH_take (i := 39) (oi := { dst := some 44, op := Op.binOp BinOp.neq 9 (Operand.tmp 40) (Operand.tmp 43) 9, type := 4, pos := "law.go:29", after := #[{ on := 35, ground := Ground.data }, { on := 38, ground := Ground.data }, { on := 32, ground := Ground.guard }], guard := some (32, false) }) (v := ?tkv40) rfl (by kernel_rfl) (by kernel_rfl) (by kernel_rfl) (fun _ _ _ h => h) (Or.inl ⟨by rfl, ?tky40⟩) hG38 ?tkr40
  case tky40 => (intro w' hSw; clear hSw; go_simp; try with_reducible rfl)
  try simp only [Act.put, List.setIfInBounds_toArray, List.set_cons_zero, List.set_cons_succ]
  refine wpAnyH_take (i := 40) (oi := { dst := some 45, op := Op.pick (Operand.tmp 37) (Operand.const (Value.bool true)) (Operand.tmp 44), type := 4, pos := "law.go:29", after := #[{ on := 32, ground := Ground.data }, { on := 39, ground := Ground.data }], guard := none }) (v := ?tkv41) rfl (by kernel_rfl) (by kernel_rfl) (by kernel_rfl) (fun _ _ _ h => h) (Or.inl ⟨by rfl, ?tky41⟩) hG38 ?tkr41
  case tky41 => (intro w' hSw; clear hSw; go_simp; try with_reducible rfl)
  try simp only [Act.put, List.setIfInBounds_toArray, List.set_cons_zero, List.set_cons_succ]
  refine wpAnyH_done (by kernel_rfl) ?_ _
  refine NoPanic.normal ?_
  have hEnd : Below w.heap.size w _ := hG38.1
  go_wp2_with fail
  go_ret
  exact ⟨rfl, hEnd⟩
end Go.Proofs.YtgeodhffgbhmaaaDoor.Vc
