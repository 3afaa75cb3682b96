/- The reference's SameRecords of equal records: by contract. -/
import Derived.Test.YtmlmpjokmbgmcaaWhRecs
import Derived.Deep.RegionHeld3
namespace Go.Proofs.Ytmlmpjokmbgmcaa
open Go.RowKit
set_option maxRecDepth 100000 in
set_option maxHeartbeats 3200000 in
theorem wsame_yes (Q Q' : Nat → Prop) (n c c' : Nat) (A A' : Option Addr) (es es' : List RRow) (w : World) (hl : RecW Q w (.slice A n c) n es) (hl' : RecW Q' w (.slice A' n c') n es') (he : es.map RRow.pair = es'.map RRow.pair) (hn : n ≤ 1000000) :
    Calls Try.prog 37 #[.slice A n c, .slice A' n c'] w fun e w' => e = .returned (.bool true) ∧ Hid (Below w.heap.size w w') := by
  have HE := Lib.hid he
  have HL := Lib.hid hl
  have HL' := Lib.hid hl'
  have hnn : ((n : Int) != (n : Int)) = false := bne_self_eq_false _
  clear he hl hl'
  go_enter Try.func37, Try.ntmps37
  go_wp2_with fail
  go_loopw [13] (fun i wr => ∃ k : Nat, k ≤ n ∧ i = .int .i64 k ∧ Hid (Below w.heap.size w wr)) (fun i _ => n - (intOf i).toNat)
  case atStart => exact ⟨0, by omega, rfl, Below.refl _ _⟩
  case round =>
    obtain ⟨k, hk, rfl, hb⟩ := hrel
    by_cases hlt : k < n
    · obtain ⟨ga, rfl, hk1, c0, c1, hrc⟩ := (HL.out.below hb.out).at_ hlt
      obtain ⟨gb, rfl, hk2, d0, d1, hrd⟩ := (HL'.out.below hb.out).at_ hlt
      have hki : (k : Int) < (n : Int) := by omega
      have heq : es[k].pair = es'[k].pair := by
        have h1 : (es.map RRow.pair)[k]? = some es[k].pair := by rw [List.getElem?_map, List.getElem?_eq_getElem hk1]; rfl
        have h2 : (es'.map RRow.pair)[k]? = some es'[k].pair := by rw [List.getElem?_map, List.getElem?_eq_getElem hk2]; rfl
        rw [HE.out, h2] at h1
        injection h1 with h1
        exact h1.symm
      generalize es[k] = r at *
      generalize es'[k] = r' at *
      obtain ⟨rid, rA, rn, rc, rd⟩ := r
      obtain ⟨rid', rA', rn', rc', rd'⟩ := r'
      injection heq with e1 e2
      dsimp only at e1 e2 c0 c1 d0 d1
      subst e1 e2
      obtain ⟨_, _, _, _, _, _, hrow⟩ := hrc
      obtain ⟨_, _, _, _, _, _, hrow'⟩ := hrd
      dsimp only at hrow hrow'
      have HFX : Hid (∀ W : World, Below wr.heap.size wr W → (W.cell? ⟨ga, k * 2, none⟩ = some (.int .u32 (rid : Int)) ∧ W.cell? ⟨ga, k * 2 + 1, none⟩ = some (.slice rA rn rc) ∧ W.cell? ⟨gb, k * 2, none⟩ = some (.int .u32 (rid : Int)) ∧ W.cell? ⟨gb, k * 2 + 1, none⟩ = some (.slice rA' rn' rc')) ∧
          (convert 27 9 (.slice rA rn rc)).run Try.prog W = .ok (.string ⟨rd.toArray⟩) W ∧ (convert 27 9 (.slice rA' rn' rc')).run Try.prog W = .ok (.string ⟨rd.toArray⟩) W) := fun W hW => by
        refine ⟨⟨(hW.cell (p := ⟨ga, k * 2, none⟩) (block_lt_of_cell c0)).trans c0, (hW.cell (p := ⟨ga, k * 2 + 1, none⟩) (block_lt_of_cell c1)).trans c1, (hW.cell (p := ⟨gb, k * 2, none⟩) (block_lt_of_cell d0)).trans d0, (hW.cell (p := ⟨gb, k * 2 + 1, none⟩) (block_lt_of_cell d1)).trans d1⟩, ?_, ?_⟩
        · exact run_string_row (P := Try.prog) (hrow.below hW) rc 27 9 5 Try.underlying27 Try.underlying5 Try.underlying9
        · exact run_string_row (P := Try.prog) (hrow'.below hW) rc' 27 9 5 Try.underlying27 Try.underlying5 Try.underlying9
      have hid0 : ((rid : Int) != (rid : Int)) = false := bne_self_eq_false _
      clear hrow hrow' c0 c1 d0 d1
      go_upto_region 6 with fail
      refine wp_region_noPanic ?_
      refine wp_region_held_drew (S := (fun W => Below (wr.heap.size) wr W)) (by kernel_rfl) (Below.refl _ _).drew (fun hH0 => ?_)
      have hH0 : Below (wr.heap.size) wr wr.drew := hH0
      generalize wr.drew = wd600 at *
      refine wpAnyH_take (i := 0) (oi := { dst := some 16, op := Op.move (Operand.tmp 0), type := 66, pos := "ref.go:290", after := #[], guard := none }) (v := ?tkv601) rfl (by kernel_rfl) (by kernel_rfl) (by kernel_rfl) (fun _ _ _ h => h) (Or.inl ⟨by rfl, ?tky601⟩) hH0 ?tkr601
      case tky601 => (intro w' hSw; clear hSw; go_simp; try with_reducible rfl)
      try simp only [Act.put, List.setIfInBounds_toArray, List.set_cons_zero, List.set_cons_succ]
      refine wpAnyH_take (i := 1) (oi := { dst := some 17, op := Op.move (Operand.tmp 5), type := 3, pos := "ref.go:290", after := #[], guard := none }) (v := ?tkv602) rfl (by kernel_rfl) (by kernel_rfl) (by kernel_rfl) (fun _ _ _ h => h) (Or.inl ⟨by rfl, ?tky602⟩) hH0 ?tkr602
      case tky602 => (intro w' hSw; clear hSw; go_simp; try with_reducible rfl)
      try simp only [Act.put, List.setIfInBounds_toArray, List.set_cons_zero, List.set_cons_succ]
      refine wpAnyH_take (i := 2) (oi := { dst := some 18, op := Op.indexAddr 66 (Operand.tmp 16) (Operand.tmp 17), type := 0, pos := "ref.go:290", after := #[{ on := 0, ground := Ground.data }, { on := 1, ground := Ground.data }], guard := none }) (v := ?tkv603) rfl (by kernel_rfl) (by kernel_rfl) (by kernel_rfl) (fun _ _ _ h => h) (Or.inl ⟨by rfl, ?tky603⟩) hH0 ?tkr603
      case tky603 => (intro w' hSw; clear hSw; go_simp; try with_reducible rfl)
      try simp only [Act.put, List.setIfInBounds_toArray, List.set_cons_zero, List.set_cons_succ]
      refine wpAnyH_take (i := 3) (oi := { dst := some 19, op := Op.fieldAddr 73 (Operand.tmp 18) 0, type := 0, pos := "ref.go:290", after := #[{ on := 2, ground := Ground.data }], guard := none }) (v := ?tkv604) rfl (by kernel_rfl) (by kernel_rfl) (by kernel_rfl) (fun _ _ _ h => h) (Or.inl ⟨by rfl, ?tky604⟩) hH0 ?tkr604
      case tky604 => (intro w' hSw; clear hSw; go_simp; try with_reducible rfl)
      try simp only [Act.put, List.setIfInBounds_toArray, List.set_cons_zero, List.set_cons_succ]
      refine wpAnyH_take (i := 4) (oi := { dst := some 20, op := Op.load 53 (Operand.tmp 19), type := 53, pos := "ref.go:290", after := #[{ on := 3, ground := Ground.data }], guard := none }) (v := ?tkv605) rfl (by kernel_rfl) (by kernel_rfl) (by kernel_rfl) (fun _ _ _ h => h) (Or.inl ⟨by rfl, ?tky605⟩) hH0 ?tkr605
      case tky605 => (intro w' hSw; have z0 := HFX.out _ hSw; clear hSw; go_simp; try with_reducible rfl)
      try simp only [Act.put, List.setIfInBounds_toArray, List.set_cons_zero, List.set_cons_succ]
      refine wpAnyH_take (i := 5) (oi := { dst := some 21, op := Op.move (Operand.tmp 1), type := 66, pos := "ref.go:290", after := #[], guard := none }) (v := ?tkv606) rfl (by kernel_rfl) (by kernel_rfl) (by kernel_rfl) (fun _ _ _ h => h) (Or.inl ⟨by rfl, ?tky606⟩) hH0 ?tkr606
      case tky606 => (intro w' hSw; clear hSw; go_simp; try with_reducible rfl)
      try simp only [Act.put, List.setIfInBounds_toArray, List.set_cons_zero, List.set_cons_succ]
      refine wpAnyH_take (i := 6) (oi := { dst := some 22, op := Op.move (Operand.tmp 5), type := 3, pos := "ref.go:290", after := #[], guard := none }) (v := ?tkv607) rfl (by kernel_rfl) (by kernel_rfl) (by kernel_rfl) (fun _ _ _ h => h) (Or.inl ⟨by rfl, ?tky607⟩) hH0 ?tkr607
      case tky607 => (intro w' hSw; clear hSw; go_simp; try with_reducible rfl)
      try simp only [Act.put, List.setIfInBounds_toArray, List.set_cons_zero, List.set_cons_succ]
      refine wpAnyH_take (i := 7) (oi := { dst := some 23, op := Op.indexAddr 66 (Operand.tmp 21) (Operand.tmp 22), type := 0, pos := "ref.go:290", after := #[{ on := 5, ground := Ground.data }, { on := 6, ground := Ground.data }], guard := none }) (v := ?tkv608) rfl (by kernel_rfl) (by kernel_rfl) (by kernel_rfl) (fun _ _ _ h => h) (Or.inl ⟨by rfl, ?tky608⟩) hH0 ?tkr608
      case tky608 => (intro w' hSw; clear hSw; go_simp; try with_reducible rfl)
      try simp only [Act.put, List.setIfInBounds_toArray, List.set_cons_zero, List.set_cons_succ]
      refine wpAnyH_take (i := 8) (oi := { dst := some 24, op := Op.fieldAddr 73 (Operand.tmp 23) 0, type := 0, pos := "ref.go:290", after := #[{ on := 7, ground := Ground.data }], guard := none }) (v := ?tkv609) rfl (by kernel_rfl) (by kernel_rfl) (by kernel_rfl) (fun _ _ _ h => h) (Or.inl ⟨by rfl, ?tky609⟩) hH0 ?tkr609
      case tky609 => (intro w' hSw; clear hSw; go_simp; try with_reducible rfl)
      try simp only [Act.put, List.setIfInBounds_toArray, List.set_cons_zero, List.set_cons_succ]
      refine wpAnyH_take (i := 9) (oi := { dst := some 25, op := Op.load 53 (Operand.tmp 24), type := 53, pos := "ref.go:290", after := #[{ on := 8, ground := Ground.data }], guard := none }) (v := ?tkv610) rfl (by kernel_rfl) (by kernel_rfl) (by kernel_rfl) (fun _ _ _ h => h) (Or.inl ⟨by rfl, ?tky610⟩) hH0 ?tkr610
      case tky610 => (intro w' hSw; have z0 := HFX.out _ hSw; clear hSw; go_simp; try with_reducible rfl)
      try simp only [Act.put, List.setIfInBounds_toArray, List.set_cons_zero, List.set_cons_succ]
      refine wpAnyH_take (i := 10) (oi := { dst := some 26, op := Op.binOp BinOp.neq 53 (Operand.tmp 20) (Operand.tmp 25) 53, type := 4, pos := "ref.go:290", after := #[{ on := 4, ground := Ground.data }, { on := 9, ground := Ground.data }], guard := none }) (v := ?tkv611) rfl (by kernel_rfl) (by kernel_rfl) (by kernel_rfl) (fun _ _ _ h => h) (Or.inl ⟨by rfl, ?tky611⟩) hH0 ?tkr611
      case tky611 => (intro w' hSw; clear hSw; go_simp; try with_reducible rfl)
      try simp only [Act.put, List.setIfInBounds_toArray, List.set_cons_zero, List.set_cons_succ]
      refine wpAnyH_take (i := 11) (oi := { dst := some 27, op := Op.move (Operand.tmp 26), type := 4, pos := "ref.go:290", after := #[{ on := 10, ground := Ground.data }], guard := none }) (v := ?tkv612) rfl (by kernel_rfl) (by kernel_rfl) (by kernel_rfl) (fun _ _ _ h => h) (Or.inl ⟨by rfl, ?tky612⟩) hH0 ?tkr612
      case tky612 => (intro w' hSw; clear hSw; go_simp; try with_reducible rfl)
      try simp only [Act.put, List.setIfInBounds_toArray, List.set_cons_zero, List.set_cons_succ]
      refine wpAnyH_take (i := 12) (oi := { dst := some 28, op := Op.move (Operand.tmp 0), type := 66, pos := "ref.go:290", after := #[{ on := 11, ground := Ground.guard }], guard := some (11, false) }) (v := ?tkv613) rfl (by kernel_rfl) (by kernel_rfl) (by kernel_rfl) (fun _ _ _ h => h) (Or.inl ⟨by rfl, ?tky613⟩) hH0 ?tkr613
      case tky613 => (intro w' hSw; clear hSw; go_simp; try with_reducible rfl)
      try simp only [Act.put, List.setIfInBounds_toArray, List.set_cons_zero, List.set_cons_succ]
      refine wpAnyH_take (i := 13) (oi := { dst := some 29, op := Op.move (Operand.tmp 5), type := 3, pos := "ref.go:290", after := #[{ on := 11, ground := Ground.guard }], guard := some (11, false) }) (v := ?tkv614) rfl (by kernel_rfl) (by kernel_rfl) (by kernel_rfl) (fun _ _ _ h => h) (Or.inl ⟨by rfl, ?tky614⟩) hH0 ?tkr614
      case tky614 => (intro w' hSw; clear hSw; go_simp; try with_reducible rfl)
      try simp only [Act.put, List.setIfInBounds_toArray, List.set_cons_zero, List.set_cons_succ]
      refine wpAnyH_take (i := 14) (oi := { dst := some 30, op := Op.indexAddr 66 (Operand.tmp 28) (Operand.tmp 29), type := 0, pos := "ref.go:290", after := #[{ on := 12, ground := Ground.data }, { on := 13, ground := Ground.data }, { on := 11, ground := Ground.guard }], guard := some (11, false) }) (v := ?tkv615) rfl (by kernel_rfl) (by kernel_rfl) (by kernel_rfl) (fun _ _ _ h => h) (Or.inl ⟨by rfl, ?tky615⟩) hH0 ?tkr615
      case tky615 => (intro w' hSw; clear hSw; go_simp; try with_reducible rfl)
      try simp only [Act.put, List.setIfInBounds_toArray, List.set_cons_zero, List.set_cons_succ]
      refine wpAnyH_take (i := 15) (oi := { dst := some 31, op := Op.fieldAddr 73 (Operand.tmp 30) 1, type := 0, pos := "ref.go:290", after := #[{ on := 14, ground := Ground.data }, { on := 11, ground := Ground.guard }], guard := some (11, false) }) (v := ?tkv616) rfl (by kernel_rfl) (by kernel_rfl) (by kernel_rfl) (fun _ _ _ h => h) (Or.inl ⟨by rfl, ?tky616⟩) hH0 ?tkr616
      case tky616 => (intro w' hSw; clear hSw; go_simp; try with_reducible rfl)
      try simp only [Act.put, List.setIfInBounds_toArray, List.set_cons_zero, List.set_cons_succ]
      refine wpAnyH_take (i := 16) (oi := { dst := some 32, op := Op.load 27 (Operand.tmp 31), type := 27, pos := "ref.go:290", after := #[{ on := 15, ground := Ground.data }, { on := 11, ground := Ground.guard }], guard := some (11, false) }) (v := ?tkv617) rfl (by kernel_rfl) (by kernel_rfl) (by kernel_rfl) (fun _ _ _ h => h) (Or.inl ⟨by rfl, ?tky617⟩) hH0 ?tkr617
      case tky617 => (intro w' hSw; have z0 := HFX.out _ hSw; clear hSw; go_simp; try with_reducible rfl)
      try simp only [Act.put, List.setIfInBounds_toArray, List.set_cons_zero, List.set_cons_succ]
      refine wpAnyH_take (i := 17) (oi := { dst := some 33, op := Op.convert 27 9 (Operand.tmp 32), type := 9, pos := "ref.go:290", after := #[{ on := 16, ground := Ground.data }, { on := 11, ground := Ground.guard }], guard := some (11, false) }) (v := ?tkv618) rfl (by kernel_rfl) (by kernel_rfl) (by kernel_rfl) (fun _ _ _ h => h) (Or.inl ⟨by rfl, ?tky618⟩) hH0 ?tkr618
      case tky618 => (intro w' hSw; have z0 := HFX.out _ hSw; clear hSw; go_simp; try with_reducible rfl)
      try simp only [Act.put, List.setIfInBounds_toArray, List.set_cons_zero, List.set_cons_succ]
      refine wpAnyH_take (i := 18) (oi := { dst := some 34, op := Op.move (Operand.tmp 1), type := 66, pos := "ref.go:290", after := #[{ on := 11, ground := Ground.guard }], guard := some (11, false) }) (v := ?tkv619) rfl (by kernel_rfl) (by kernel_rfl) (by kernel_rfl) (fun _ _ _ h => h) (Or.inl ⟨by rfl, ?tky619⟩) hH0 ?tkr619
      case tky619 => (intro w' hSw; clear hSw; go_simp; try with_reducible rfl)
      try simp only [Act.put, List.setIfInBounds_toArray, List.set_cons_zero, List.set_cons_succ]
      refine wpAnyH_take (i := 19) (oi := { dst := some 35, op := Op.move (Operand.tmp 5), type := 3, pos := "ref.go:290", after := #[{ on := 11, ground := Ground.guard }], guard := some (11, false) }) (v := ?tkv620) rfl (by kernel_rfl) (by kernel_rfl) (by kernel_rfl) (fun _ _ _ h => h) (Or.inl ⟨by rfl, ?tky620⟩) hH0 ?tkr620
      case tky620 => (intro w' hSw; clear hSw; go_simp; try with_reducible rfl)
      try simp only [Act.put, List.setIfInBounds_toArray, List.set_cons_zero, List.set_cons_succ]
      refine wpAnyH_take (i := 20) (oi := { dst := some 36, op := Op.indexAddr 66 (Operand.tmp 34) (Operand.tmp 35), type := 0, pos := "ref.go:290", after := #[{ on := 18, ground := Ground.data }, { on := 19, ground := Ground.data }, { on := 11, ground := Ground.guard }], guard := some (11, false) }) (v := ?tkv621) rfl (by kernel_rfl) (by kernel_rfl) (by kernel_rfl) (fun _ _ _ h => h) (Or.inl ⟨by rfl, ?tky621⟩) hH0 ?tkr621
      case tky621 => (intro w' hSw; clear hSw; go_simp; try with_reducible rfl)
      try simp only [Act.put, List.setIfInBounds_toArray, List.set_cons_zero, List.set_cons_succ]
      refine wpAnyH_take (i := 21) (oi := { dst := some 37, op := Op.fieldAddr 73 (Operand.tmp 36) 1, type := 0, pos := "ref.go:290", after := #[{ on := 20, ground := Ground.data }, { on := 11, ground := Ground.guard }], guard := some (11, false) }) (v := ?tkv622) rfl (by kernel_rfl) (by kernel_rfl) (by kernel_rfl) (fun _ _ _ h => h) (Or.inl ⟨by rfl, ?tky622⟩) hH0 ?tkr622
      case tky622 => (intro w' hSw; clear hSw; go_simp; try with_reducible rfl)
      try simp only [Act.put, List.setIfInBounds_toArray, List.set_cons_zero, List.set_cons_succ]
      refine wpAnyH_take (i := 22) (oi := { dst := some 38, op := Op.load 27 (Operand.tmp 37), type := 27, pos := "ref.go:290", after := #[{ on := 21, ground := Ground.data }, { on := 11, ground := Ground.guard }], guard := some (11, false) }) (v := ?tkv623) rfl (by kernel_rfl) (by kernel_rfl) (by kernel_rfl) (fun _ _ _ h => h) (Or.inl ⟨by rfl, ?tky623⟩) hH0 ?tkr623
      case tky623 => (intro w' hSw; have z0 := HFX.out _ hSw; clear hSw; go_simp; try with_reducible rfl)
      try simp only [Act.put, List.setIfInBounds_toArray, List.set_cons_zero, List.set_cons_succ]
      refine wpAnyH_take (i := 23) (oi := { dst := some 39, op := Op.convert 27 9 (Operand.tmp 38), type := 9, pos := "ref.go:290", after := #[{ on := 22, ground := Ground.data }, { on := 11, ground := Ground.guard }], guard := some (11, false) }) (v := ?tkv624) rfl (by kernel_rfl) (by kernel_rfl) (by kernel_rfl) (fun _ _ _ h => h) (Or.inl ⟨by rfl, ?tky624⟩) hH0 ?tkr624
      case tky624 => (intro w' hSw; have z0 := HFX.out _ hSw; clear hSw; go_simp; try with_reducible rfl)
      try simp only [Act.put, List.setIfInBounds_toArray, List.set_cons_zero, List.set_cons_succ]
      refine wpAnyH_take (i := 24) (oi := { dst := some 40, op := Op.binOp BinOp.neq 9 (Operand.tmp 33) (Operand.tmp 39) 9, type := 4, pos := "ref.go:290", after := #[{ on := 17, ground := Ground.data }, { on := 23, ground := Ground.data }, { on := 11, ground := Ground.guard }], guard := some (11, false) }) (v := ?tkv625) rfl (by kernel_rfl) (by kernel_rfl) (by kernel_rfl) (fun _ _ _ h => h) (Or.inl ⟨by rfl, ?tky625⟩) hH0 ?tkr625
      case tky625 => (intro w' hSw; clear hSw; go_simp; try with_reducible rfl)
      try simp only [Act.put, List.setIfInBounds_toArray, List.set_cons_zero, List.set_cons_succ]
      refine wpAnyH_take (i := 25) (oi := { dst := some 41, op := Op.pick (Operand.tmp 27) (Operand.const (Value.bool true)) (Operand.tmp 40), type := 4, pos := "ref.go:290", after := #[{ on := 11, ground := Ground.data }, { on := 24, ground := Ground.data }], guard := none }) (v := ?tkv626) rfl (by kernel_rfl) (by kernel_rfl) (by kernel_rfl) (fun _ _ _ h => h) (Or.inl ⟨by rfl, ?tky626⟩) hH0 ?tkr626
      case tky626 => (intro w' hSw; clear hSw; go_simp; try with_reducible rfl)
      try simp only [Act.put, List.setIfInBounds_toArray, List.set_cons_zero, List.set_cons_succ]
      refine wpAnyH_done (by kernel_rfl) ?_ _
      refine NoPanic.normal ?_
      have HB2 := Lib.hid (hb.out.trans (Below.mono (hH0) hb.out.size))
      go_wp2_with fail
      go_roundw
      case rel => exact ⟨k + 1, by omega, by go_num, HB2⟩
      case measure => simp [intOf]; omega
    · obtain rfl : n = k := by omega
      go_wp2_with fail
      go_ret
      exact ⟨rfl, hb⟩
end Go.Proofs.Ytmlmpjokmbgmcaa
