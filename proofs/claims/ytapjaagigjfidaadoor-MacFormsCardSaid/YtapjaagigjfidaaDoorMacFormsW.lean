/- MacForms' walk. -/
import Derived.Test.YtapjaagigjfidaaDoorRTag
import Derived.Test.YtapjaagigjfidaaDoorMacRightW
namespace Go.Proofs.YtapjaagigjfidaaDoor.Sh
open Go.RowKit
theorem right_all (v : Bool) (B1 n1 c1 : Nat) (A1 : Option Addr) (key : List UInt8) (B2 n2 c2 : Nat) (A2 : Option Addr) (b : List UInt8) (B3 n3 c3 : Nat) (A3 : Option Addr) (t : List UInt8) (w : World) (ht : Tab w) (h1 : Row w B1 A1 n1 (bv key)) (hB1 : B1 ≤ w.heap.size) (h2 : Row w B2 A2 n2 (bv b)) (hB2 : B2 ≤ w.heap.size) (hn1 : n1 ≤ 10000000000000000) (hn2 : n2 ≤ 10000000000000000) (h3 : Row w B3 A3 n3 (bv t)) (hB3 : B3 ≤ w.heap.size) (hv : (t == tagOf key b) = v) :
    Calls Tryd.prog 21 #[.slice A1 n1 c1, .slice A2 n2 c2, .slice A3 n3 c3] w fun e w' => e = .returned (.bool v) ∧ Below w.heap.size w w' := by
  have hv2 : (tagOf key b == t) = v := by rw [← hv, Bool.eq_iff_iff, beq_iff_eq, beq_iff_eq]; exact eq_comm
  by_cases h32 : n3 = 32
  · subst h32
    rw [← hv2]
    exact right_32 B1 n1 c1 A1 key B2 n2 c2 A2 b B3 c3 A3 t w ht h1 hB1 h2 hB2 hn1 hn2 h3 hB3
  · have hf : v = false := by
      rw [← hv, beq_eq_false_iff_ne]
      intro e
      have := h3.blen
      rw [e, tagOf_length] at this
      exact h32 this.symm
    rw [hf]
    exact right_other B1 n1 c1 A1 key B2 n2 c2 A2 b n3 c3 A3 w ht h1 hB1 h2 hB2 hn1 hn2 h32
set_option maxRecDepth 100000 in
set_option maxHeartbeats 3200000 in
theorem macforms_walk (A1 : Option Addr) (n1 c1 : Nat) (key : List UInt8) (A2 : Option Addr) (n2 c2 : Nat) (b : List UInt8) (A3 : Option Addr) (n3 c3 : Nat) (tag : List UInt8) (w : World) (ht : Tab w) (h1 : Row w w.heap.size A1 n1 (bv key)) (_ : n1 ≤ c1) (_ : c1 ≤ 9223372036854775807) (h2 : Row w w.heap.size A2 n2 (bv b)) (_ : n2 ≤ c2) (_ : c2 ≤ 9223372036854775807) (h3 : Row w w.heap.size A3 n3 (bv tag)) (_ : n3 ≤ c3) (_ : c3 ≤ 9223372036854775807) :
    Calls Tryd.prog 8 #[.slice A1 n1 c1, .slice A2 n2 c2, .slice A3 n3 c3] w fun e w' => e = .returned (.bool true) ∧ Below w.heap.size w w' := by
  have HT := Lib.hid ht
  have H1 := Lib.hid h1
  have H2 := Lib.hid h2
  have H3 := Lib.hid h3
  clear ht h1 h2 h3
  by_cases hb1 : 300 < n1
  · go_enter Tryd.func8, Tryd.ntmps8
    go_wp2_with fail
    refine (awake3_any _ HT.out).mono ?_
    rintro e w1 ⟨rfl, hb⟩
    go_wp2_with fail
    go_ret
    exact ⟨rfl, hb⟩
  by_cases hb2 : 1500 < n2
  · go_enter Tryd.func8, Tryd.ntmps8
    go_wp2_with fail
    refine (awake3_any _ HT.out).mono ?_
    rintro e w1 ⟨rfl, hb⟩
    go_wp2_with fail
    go_ret
    exact ⟨rfl, hb⟩
  by_cases hb3 : 100 < n3
  · go_enter Tryd.func8, Tryd.ntmps8
    go_wp2_with fail
    refine (awake3_any _ HT.out).mono ?_
    rintro e w1 ⟨rfl, hb⟩
    go_wp2_with fail
    go_ret
    exact ⟨rfl, hb⟩
  have HRT := Lib.hid (rtag_any n1 c1 A1 key n2 c2 A2 b w H1.out H2.out (by omega) (by omega))
  obtain ⟨v, hv⟩ : ∃ v, (tag == tagOf key b) = v := ⟨_, rfl⟩
  have CT := Lib.hid (fun W (hW : Below w.heap.size w W) => tag_any w.heap.size n1 c1 A1 key w.heap.size n2 c2 A2 b W (HT.out.below hW HT.out.1) (H1.out.below hW) hW.size (H2.out.below hW) hW.size (by omega) (by omega))
  have CR := Lib.hid (fun W (hW : Below w.heap.size w W) => right_all v w.heap.size n1 c1 A1 key w.heap.size n2 c2 A2 b w.heap.size n3 c3 A3 tag W (HT.out.below hW HT.out.1) (H1.out.below hW) hW.size (H2.out.below hW) hW.size (by omega) (by omega) (H3.out.below hW) hW.size hv)
  have CA := Lib.hid (fun W (hW : Below w.heap.size w W) => awake3_any W (HT.out.below hW HT.out.1))
  generalize tagOf key b = T at *
  go_enter Tryd.func8, Tryd.ntmps8
  go_wp2_with fail
  refine HRT.out.mono ?_
  rintro e w1 ⟨A4, c4, rfl, ho4, hb1⟩
  have HB1 := hb1
  have HKW := Lib.hid (fun W (hW : Below w1.heap.size w1 W) => run_string_row (P := Tryd.prog) (Row.of_own (own_below ho4.out hW)) c4 23 9 5 Tryd.underlying23 Tryd.underlying5 Tryd.underlying9)
  have HKT := Lib.hid (fun W (hW : Below w1.heap.size w1 W) => run_string_row (P := Tryd.prog) ((H3.out.below HB1.out).below (hW.mono HB1.out.size)) c3 23 9 5 Tryd.underlying23 Tryd.underlying5 Tryd.underlying9)
  have hTT : (T == T) = true := by simp
  clear hb1 ho4 HRT H1 H2 H3
  go_upto_region 4 with fail
  refine wp_region_noPanic ?_
  refine wp_region_held_drew (S := (fun W => Below w1.heap.size w1 W)) (by kernel_rfl) (Below.refl _ _).drew (fun hH0 => ?_)
  have hH0 : (fun W => Below w1.heap.size w1 W) w1.drew := hH0
  generalize w1.drew = wd at *
  refine wpAnyH_take (i := 0) (oi := { dst := some 25, op := Op.move (Operand.tmp 0), type := 23, pos := "law.go:21", after := #[], guard := none }) (v := ?tkv501) rfl (by kernel_rfl) (by kernel_rfl) (by kernel_rfl) (fun _ _ _ h => h) (Or.inl ⟨by rfl, ?tky501⟩) hH0 ?tkr501
  case tky501 => (intro w' hSw; clear hSw; go_simp; try with_reducible rfl)
  try simp only [Act.put, List.setIfInBounds_toArray, List.set_cons_zero, List.set_cons_succ]
  refine wpAnyH_take (i := 1) (oi := { dst := some 26, op := Op.move (Operand.tmp 1), type := 23, pos := "law.go:21", after := #[], guard := none }) (v := ?tkv502) rfl (by kernel_rfl) (by kernel_rfl) (by kernel_rfl) (fun _ _ _ h => h) (Or.inl ⟨by rfl, ?tky502⟩) hH0 ?tkr502
  case tky502 => (intro w' hSw; clear hSw; go_simp; try with_reducible rfl)
  try simp only [Act.put, List.setIfInBounds_toArray, List.set_cons_zero, List.set_cons_succ]
  refine wpAnyH_take (i := 4) (oi := { dst := some 29, op := Op.move (Operand.tmp 7), type := 23, pos := "law.go:21", after := #[], guard := none }) (v := ?tkv503) rfl (by kernel_rfl) (by kernel_rfl) (by kernel_rfl) (fun _ _ _ h => h) (Or.inl ⟨by rfl, ?tky503⟩) hH0 ?tkr503
  case tky503 => (intro w' hSw; clear hSw; go_simp; try with_reducible rfl)
  try simp only [Act.put, List.setIfInBounds_toArray, List.set_cons_zero, List.set_cons_succ]
  refine wpAnyH_take (i := 5) (oi := { dst := some 30, op := Op.convert 23 9 (Operand.tmp 29), type := 9, pos := "law.go:21", after := #[{ on := 4, ground := Ground.data }], guard := none }) (v := ?tkv504) rfl (by kernel_rfl) (by kernel_rfl) (by kernel_rfl) (fun _ _ _ h => h) (Or.inl ⟨by rfl, ?tky504⟩) hH0 ?tkr504
  case tky504 => (intro w' hSw; have z0 := HKW.out _ hSw; have z1 := HKT.out _ hSw; clear hSw; go_simp; try with_reducible rfl)
  try simp only [Act.put, List.setIfInBounds_toArray, List.set_cons_zero, List.set_cons_succ]
  refine wpAnyH_ready (rs := [2]) (by kernel_rfl) (by simp) ?_
  refine AllReadyH.cons (o := { dst := some 27, op := Op.call { callee := Callee.value (Operand.func 20), args := #[Operand.tmp 25, Operand.tmp 26], argTypes := #[23, 23] }, type := 23, pos := "law.go:21", after := #[{ on := 0, ground := Ground.data }, { on := 1, ground := Ground.data }], guard := none }) rfl (fun K hK => ?_) AllReadyH.nil
  go_simp
  refine (CT.out _ (HB1.out.trans ((hH0).mono HB1.out.size))).mono ?_
  rintro e wt ⟨A5, c5, rfl, ho5, hb5⟩
  have hs5 := (hH0).trans (hb5.out.mono (hH0).size)
  have HK5 := Lib.hid (fun W (hW : Below wt.heap.size wt W) => run_string_row (P := Tryd.prog) (Row.of_own (own_below ho5.out hW)) c5 23 9 5 Tryd.underlying23 Tryd.underlying5 Tryd.underlying9)
  clear ho5 hb5
  go_wp2_with fail
  have hS505 : (fun W => Below w1.heap.size w1 W) wt := hs5
  refine hK.out _ _ hS505 (fun hH505 => ?_)
  clear hK K
  try simp only [Act.put, List.setIfInBounds_toArray, List.set_cons_zero, List.set_cons_succ]
  have hG505 : (fun W => Below w1.heap.size w1 W ∧ Below wt.heap.size wt W) wt := ⟨hS505, Below.refl _ _⟩
  refine wpAnyH_grow (S' := (fun W => Below w1.heap.size w1 W ∧ Below wt.heap.size wt W)) (fun _ h => h.1) _ _ _ _ ?_
  refine wpAnyH_take (i := 3) (oi := { dst := some 28, op := Op.convert 23 9 (Operand.tmp 27), type := 9, pos := "law.go:21", after := #[{ on := 2, ground := Ground.data }], guard := none }) (v := ?tkv506) rfl (by kernel_rfl) (by kernel_rfl) (by kernel_rfl) (fun _ _ _ h => h) (Or.inl ⟨by rfl, ?tky506⟩) hG505 ?tkr506
  case tky506 => (intro w' hSw; have z0 := HKW.out _ hSw.1; have z1 := HKT.out _ hSw.1; have z2 := HK5.out _ hSw.2; clear hSw; go_simp; try with_reducible rfl)
  try simp only [Act.put, List.setIfInBounds_toArray, List.set_cons_zero, List.set_cons_succ]
  refine wpAnyH_take (i := 6) (oi := { dst := some 31, op := Op.binOp BinOp.eql 9 (Operand.tmp 28) (Operand.tmp 30) 9, type := 4, pos := "law.go:21", after := #[{ on := 3, ground := Ground.data }, { on := 5, ground := Ground.data }], guard := none }) (v := ?tkv507) rfl (by kernel_rfl) (by kernel_rfl) (by kernel_rfl) (fun _ _ _ h => h) (Or.inl ⟨by rfl, ?tky507⟩) hG505 ?tkr507
  case tky507 => (intro w' hSw; clear hSw; go_simp; try with_reducible rfl)
  try simp only [Act.put, List.setIfInBounds_toArray, List.set_cons_zero, List.set_cons_succ]
  refine wpAnyH_take (i := 7) (oi := { dst := some 32, op := Op.move (Operand.tmp 31), type := 4, pos := "law.go:21", after := #[{ on := 6, ground := Ground.data }, { on := 2, ground := Ground.chain }], guard := none }) (v := ?tkv508) rfl (by kernel_rfl) (by kernel_rfl) (by kernel_rfl) (fun _ _ _ h => h) (Or.inl ⟨by rfl, ?tky508⟩) hG505 ?tkr508
  case tky508 => (intro w' hSw; clear hSw; go_simp; try with_reducible rfl)
  try simp only [Act.put, List.setIfInBounds_toArray, List.set_cons_zero, List.set_cons_succ]
  refine wpAnyH_take (i := 8) (oi := { dst := some 33, op := Op.move (Operand.tmp 0), type := 23, pos := "law.go:21", after := #[{ on := 7, ground := Ground.guard }], guard := some (7, true) }) (v := ?tkv509) rfl (by kernel_rfl) (by kernel_rfl) (by kernel_rfl) (fun _ _ _ h => h) (Or.inl ⟨by rfl, ?tky509⟩) hG505 ?tkr509
  case tky509 => (intro w' hSw; clear hSw; go_simp; try with_reducible rfl)
  try simp only [Act.put, List.setIfInBounds_toArray, List.set_cons_zero, List.set_cons_succ]
  refine wpAnyH_take (i := 9) (oi := { dst := some 34, op := Op.move (Operand.tmp 1), type := 23, pos := "law.go:21", after := #[{ on := 7, ground := Ground.guard }], guard := some (7, true) }) (v := ?tkv510) rfl (by kernel_rfl) (by kernel_rfl) (by kernel_rfl) (fun _ _ _ h => h) (Or.inl ⟨by rfl, ?tky510⟩) hG505 ?tkr510
  case tky510 => (intro w' hSw; clear hSw; go_simp; try with_reducible rfl)
  try simp only [Act.put, List.setIfInBounds_toArray, List.set_cons_zero, List.set_cons_succ]
  refine wpAnyH_take (i := 10) (oi := { dst := some 35, op := Op.move (Operand.tmp 2), type := 23, pos := "law.go:21", after := #[{ on := 7, ground := Ground.guard }], guard := some (7, true) }) (v := ?tkv511) rfl (by kernel_rfl) (by kernel_rfl) (by kernel_rfl) (fun _ _ _ h => h) (Or.inl ⟨by rfl, ?tky511⟩) hG505 ?tkr511
  case tky511 => (intro w' hSw; clear hSw; go_simp; try with_reducible rfl)
  try simp only [Act.put, List.setIfInBounds_toArray, List.set_cons_zero, List.set_cons_succ]
  refine wpAnyH_take (i := 12) (oi := { dst := some 37, op := Op.move (Operand.tmp 2), type := 23, pos := "law.go:21", after := #[{ on := 7, ground := Ground.guard }], guard := some (7, true) }) (v := ?tkv512) rfl (by kernel_rfl) (by kernel_rfl) (by kernel_rfl) (fun _ _ _ h => h) (Or.inl ⟨by rfl, ?tky512⟩) hG505 ?tkr512
  case tky512 => (intro w' hSw; clear hSw; go_simp; try with_reducible rfl)
  try simp only [Act.put, List.setIfInBounds_toArray, List.set_cons_zero, List.set_cons_succ]
  refine wpAnyH_take (i := 13) (oi := { dst := some 38, op := Op.convert 23 9 (Operand.tmp 37), type := 9, pos := "law.go:21", after := #[{ on := 12, ground := Ground.data }, { on := 7, ground := Ground.guard }], guard := some (7, true) }) (v := ?tkv513) rfl (by kernel_rfl) (by kernel_rfl) (by kernel_rfl) (fun _ _ _ h => h) (Or.inl ⟨by rfl, ?tky513⟩) hG505 ?tkr513
  case tky513 => (intro w' hSw; have z0 := HKW.out _ hSw.1; have z1 := HKT.out _ hSw.1; have z2 := HK5.out _ hSw.2; clear hSw; go_simp; try with_reducible rfl)
  try simp only [Act.put, List.setIfInBounds_toArray, List.set_cons_zero, List.set_cons_succ]
  refine wpAnyH_take (i := 14) (oi := { dst := some 39, op := Op.move (Operand.tmp 7), type := 23, pos := "law.go:21", after := #[{ on := 7, ground := Ground.guard }], guard := some (7, true) }) (v := ?tkv514) rfl (by kernel_rfl) (by kernel_rfl) (by kernel_rfl) (fun _ _ _ h => h) (Or.inl ⟨by rfl, ?tky514⟩) hG505 ?tkr514
  case tky514 => (intro w' hSw; clear hSw; go_simp; try with_reducible rfl)
  try simp only [Act.put, List.setIfInBounds_toArray, List.set_cons_zero, List.set_cons_succ]
  refine wpAnyH_take (i := 15) (oi := { dst := some 40, op := Op.convert 23 9 (Operand.tmp 39), type := 9, pos := "law.go:21", after := #[{ on := 14, ground := Ground.data }, { on := 7, ground := Ground.guard }], guard := some (7, true) }) (v := ?tkv515) rfl (by kernel_rfl) (by kernel_rfl) (by kernel_rfl) (fun _ _ _ h => h) (Or.inl ⟨by rfl, ?tky515⟩) hG505 ?tkr515
  case tky515 => (intro w' hSw; have z0 := HKW.out _ hSw.1; have z1 := HKT.out _ hSw.1; have z2 := HK5.out _ hSw.2; clear hSw; go_simp; try with_reducible rfl)
  try simp only [Act.put, List.setIfInBounds_toArray, List.set_cons_zero, List.set_cons_succ]
  refine wpAnyH_take (i := 16) (oi := { dst := some 41, op := Op.binOp BinOp.eql 9 (Operand.tmp 38) (Operand.tmp 40) 9, type := 4, pos := "law.go:21", after := #[{ on := 13, ground := Ground.data }, { on := 15, ground := Ground.data }, { on := 7, ground := Ground.guard }], guard := some (7, true) }) (v := ?tkv516) rfl (by kernel_rfl) (by kernel_rfl) (by kernel_rfl) (fun _ _ _ h => h) (Or.inl ⟨by rfl, ?tky516⟩) hG505 ?tkr516
  case tky516 => (intro w' hSw; clear hSw; go_simp; try with_reducible rfl)
  try simp only [Act.put, List.setIfInBounds_toArray, List.set_cons_zero, List.set_cons_succ]
  refine wpAnyH_ready (rs := [11]) (by kernel_rfl) (by simp) ?_
  refine AllReadyH.cons (o := { dst := some 36, op := Op.call { callee := Callee.value (Operand.func 21), args := #[Operand.tmp 33, Operand.tmp 34, Operand.tmp 35], argTypes := #[23, 23, 23] }, type := 4, pos := "law.go:21", after := #[{ on := 8, ground := Ground.data }, { on := 9, ground := Ground.data }, { on := 10, ground := Ground.data }, { on := 7, ground := Ground.chain }, { on := 7, ground := Ground.guard }], guard := some (7, true) }) rfl (fun K hK => ?_) AllReadyH.nil
  go_simp
  refine (CR.out _ (HB1.out.trans ((hG505.1).mono HB1.out.size))).mono ?_
  rintro e wqr ⟨rfl, hbr⟩
  have hsr := (hG505.1).trans (hbr.mono (hG505.1).size)
  have hrr := (hG505.2).trans (hbr.mono (hG505.2).size)
  go_wp2_with fail
  have hS517 : (fun W => Below w1.heap.size w1 W ∧ Below wt.heap.size wt W) wqr := ⟨hsr, hrr⟩
  refine hK.out _ _ hS517 (fun hH517 => ?_)
  clear hK K
  try simp only [Act.put, List.setIfInBounds_toArray, List.set_cons_zero, List.set_cons_succ]
  refine wpAnyH_take (i := 17) (oi := { dst := some 42, op := Op.binOp BinOp.eql 4 (Operand.tmp 36) (Operand.tmp 41) 4, type := 4, pos := "law.go:21", after := #[{ on := 11, ground := Ground.data }, { on := 16, ground := Ground.data }, { on := 7, ground := Ground.guard }], guard := some (7, true) }) (v := ?tkv518) rfl (by kernel_rfl) (by kernel_rfl) (by kernel_rfl) (fun _ _ _ h => h) (Or.inl ⟨by rfl, ?tky518⟩) hH517 ?tkr518
  case tky518 => (intro w' hSw; clear hSw; go_simp; try with_reducible rfl)
  try simp only [Act.put, List.setIfInBounds_toArray, List.set_cons_zero, List.set_cons_succ]
  refine wpAnyH_take (i := 18) (oi := { dst := some 43, op := Op.pick (Operand.tmp 32) (Operand.tmp 42) (Operand.const (Value.bool false)), type := 4, pos := "law.go:21", after := #[{ on := 7, ground := Ground.data }, { on := 17, ground := Ground.data }], guard := none }) (v := ?tkv519) rfl (by kernel_rfl) (by kernel_rfl) (by kernel_rfl) (fun _ _ _ h => h) (Or.inl ⟨by rfl, ?tky519⟩) hH517 ?tkr519
  case tky519 => (intro w' hSw; clear hSw; go_simp; try with_reducible rfl)
  try simp only [Act.put, List.setIfInBounds_toArray, List.set_cons_zero, List.set_cons_succ]
  refine wpAnyH_take (i := 19) (oi := { dst := some 44, op := Op.move (Operand.tmp 43), type := 4, pos := "law.go:21", after := #[{ on := 18, ground := Ground.data }, { on := 11, ground := Ground.chain }], guard := none }) (v := ?tkv520) rfl (by kernel_rfl) (by kernel_rfl) (by kernel_rfl) (fun _ _ _ h => h) (Or.inl ⟨by rfl, ?tky520⟩) hH517 ?tkr520
  case tky520 => (intro w' hSw; clear hSw; go_simp; try with_reducible rfl)
  try simp only [Act.put, List.setIfInBounds_toArray, List.set_cons_zero, List.set_cons_succ]
  refine wpAnyH_ready (rs := [20]) (by kernel_rfl) (by simp) ?_
  refine AllReadyH.cons (o := { dst := some 45, op := Op.call { callee := Callee.value (Operand.func 18), args := #[], argTypes := #[] }, type := 4, pos := "law.go:21", after := #[{ on := 19, ground := Ground.chain }, { on := 19, ground := Ground.guard }], guard := some (19, true) }) rfl (fun K hK => ?_) AllReadyH.nil
  go_simp
  refine (CA.out _ (HB1.out.trans ((hH517.1).mono HB1.out.size))).mono ?_
  rintro e wqa ⟨rfl, hba⟩
  have hsa := (hH517.1).trans (hba.mono (hH517.1).size)
  have hra := (hH517.2).trans (hba.mono (hH517.2).size)
  go_wp2_with fail
  have hS521 : (fun W => Below w1.heap.size w1 W ∧ Below wt.heap.size wt W) wqa := ⟨hsa, hra⟩
  refine hK.out _ _ hS521 (fun hH521 => ?_)
  clear hK K
  try simp only [Act.put, List.setIfInBounds_toArray, List.set_cons_zero, List.set_cons_succ]
  refine wpAnyH_take (i := 21) (oi := { dst := some 46, op := Op.pick (Operand.tmp 44) (Operand.tmp 45) (Operand.const (Value.bool false)), type := 4, pos := "law.go:21", after := #[{ on := 19, ground := Ground.data }, { on := 20, ground := Ground.data }], guard := none }) (v := ?tkv522) rfl (by kernel_rfl) (by kernel_rfl) (by kernel_rfl) (fun _ _ _ h => h) (Or.inl ⟨by rfl, ?tky522⟩) hH521 ?tkr522
  case tky522 => (intro w' hSw; clear hSw; go_simp; try with_reducible rfl)
  try simp only [Act.put, List.setIfInBounds_toArray, List.set_cons_zero, List.set_cons_succ]
  refine wpAnyH_take (i := 22) (oi := { dst := some 6, op := Op.assign (Operand.tmp 46), type := 4, pos := "law.go:21", after := #[{ on := 21, ground := Ground.data }, { on := 20, ground := Ground.chain }, { on := 0, ground := Ground.phase }, { on := 1, ground := Ground.phase }, { on := 2, ground := Ground.phase }, { on := 3, ground := Ground.phase }, { on := 4, ground := Ground.phase }, { on := 5, ground := Ground.phase }, { on := 6, ground := Ground.phase }, { on := 7, ground := Ground.phase }, { on := 8, ground := Ground.phase }, { on := 9, ground := Ground.phase }, { on := 10, ground := Ground.phase }, { on := 11, ground := Ground.phase }, { on := 12, ground := Ground.phase }, { on := 13, ground := Ground.phase }, { on := 14, ground := Ground.phase }, { on := 15, ground := Ground.phase }, { on := 16, ground := Ground.phase }, { on := 17, ground := Ground.phase }, { on := 18, ground := Ground.phase }, { on := 19, ground := Ground.phase }, { on := 20, ground := Ground.phase }, { on := 21, ground := Ground.phase }], guard := none }) (v := ?tkv523) rfl (by kernel_rfl) (by kernel_rfl) (by kernel_rfl) (fun _ _ _ h => h) (Or.inl ⟨by rfl, ?tky523⟩) hH521 ?tkr523
  case tky523 => (intro w' hSw; clear hSw; go_simp; try with_reducible rfl)
  try simp only [Act.put, List.setIfInBounds_toArray, List.set_cons_zero, List.set_cons_succ]
  refine wpAnyH_done (by kernel_rfl) ?_ _
  refine NoPanic.normal ?_
  have hEnd : Below w.heap.size w _ := HB1.out.trans ((hH521.1).mono HB1.out.size)
  go_wp2_with fail
  go_ret
  exact ⟨rfl, hEnd⟩
end Go.Proofs.YtapjaagigjfidaaDoor.Sh
