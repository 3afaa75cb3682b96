/- elim.From: by contract. -/
import Derived.Test.YtgeodhffgbhmaaaDoorElFrom
namespace Go.Proofs.YtgeodhffgbhmaaaDoor.El
open Go.RowKit
open VecM Vc
theorem fromI_few (A : Option Addr) (m c0 : Nat) (w : World) (h : m < 4) : Calls Tryd.prog 20 #[.slice A m c0] w (FromNoI w) := by
  go_enter Tryd.func20, Tryd.ntmps20
  go_wp2_with fail
  go_ret2
  exact ⟨rfl, Lib.hid (Below.refl _ _)⟩
set_option maxRecDepth 100000 in
set_option maxHeartbeats 1600000 in
theorem fromI_size (n z : Nat)
    (A : Option Addr) (m c0 : Nat) (l : List UInt8) (w : World) (hr : Row w w.heap.size A m (bv l)) (_hc : m ≤ c0 ∧ c0 ≤ 9223372036854775807) (h4 : 4 ≤ m) (hn : (l.getD 0 0).toNat + 1 = n) (hz : (l.getD 1 0).toNat = z) (hbad : z < 1 ∨ 16 < z) :
    Calls Tryd.prog 20 #[.slice A m c0] w (FromNoI w) := by
  have HR := Lib.hid hr
  have hlm : l.length = m := hr.blen
  obtain ⟨b, o, hA, _, hl0, hc0⟩ := hr.byteAt (k := 0) (by omega)
  subst hA
  obtain ⟨b', o', hA, _, hl1, hc1⟩ := hr.byteAt (k := 1) (by omega)
  injection hA with hA
  injection hA with hA1 hA2
  subst hA1 hA2
  have e0 : l[0] = l.getD 0 0 := by rw [List.getD_eq_getElem?_getD, List.getElem?_eq_getElem hl0]; rfl
  have e1 : l[1] = l.getD 1 0 := by rw [List.getD_eq_getElem?_getD, List.getElem?_eq_getElem hl1]; rfl
  obtain ⟨x0, hx0⟩ : ∃ x0, (l.getD 0 0).toNat = x0 := ⟨_, rfl⟩
  rw [e0, Nat.add_zero, hx0] at hc0
  rw [hx0] at hn
  rw [e1, hz] at hc1
  have hb0 : x0 < 256 := hx0 ▸ UInt8.toNat_lt (l.getD 0 0)
  have hb1 : z < 256 := hz ▸ UInt8.toNat_lt (l.getD 1 0)
  have HNI : Hid (IntKind.i64.wrap (IntKind.i64.wrap (x0 : Int) + 1) = (n : Int)) := Lib.hid (by
    have e1 : IntKind.i64.wrap (x0 : Int) = (x0 : Int) := IntWalk.i64_in _ (by omega)
    rw [e1, show (x0 : Int) + 1 = (n : Int) by omega]
    exact IntWalk.i64_in _ (by omega))
  have HZI : Hid (IntKind.i64.wrap (z : Int) = (z : Int)) := Lib.hid (IntWalk.i64_in _ (by omega))
  have hn2 : n ≤ 256 := by omega
  have hn1 : 1 ≤ n := by omega
  have hm4 : ¬ (m : Int) < 4 := by omega
  have hm0 : 0 < m := by omega
  have hm1 : 1 < m := by omega
  have hm1i : (1 : Int) < (m : Int) := by omega
  have HL : Hid (∀ W, Below w.heap.size w W → W.cell? ⟨b, o, none⟩ = some (.int .u8 (x0 : Int)) ∧ W.cell? ⟨b, o + 1, none⟩ = some (.int .u8 (z : Int))) := Lib.hid fun W hW => ⟨(hW.cell (p := ⟨b, o, none⟩) (block_lt_of_cell hc0)).trans hc0, (hW.cell (p := ⟨b, o + 1, none⟩) (block_lt_of_cell hc1)).trans hc1⟩
  clear e0 e1 hl0 hl1 hr
  go_enter Tryd.func20, Tryd.ntmps20
  go_upto_region 3 with fail
  refine wp_region_noPanic ?_
  refine wp_region_held_drew (S := (fun W => Below (w.heap.size) w W)) (by kernel_rfl) (Below.refl _ _).drew (fun hH0 => ?_)
  have hH0 : Below (w.heap.size) w w.drew := hH0
  generalize w.drew = wd3000 at *
  refine wpAnyH_take (i := 0) (oi := { dst := some 8, op := Op.move (Operand.tmp 0), type := 30, pos := "elim.go:136", after := #[], guard := none }) (v := ?tkv3001) rfl (by kernel_rfl) (by kernel_rfl) (by kernel_rfl) (fun _ _ _ h => h) (Or.inl ⟨by rfl, ?tky3001⟩) hH0 ?tkr3001
  case tky3001 => (intro w' hSw; clear hSw; go_simp; try with_reducible rfl)
  try simp only [Act.put, List.setIfInBounds_toArray, List.set_cons_zero, List.set_cons_succ]
  refine wpAnyH_take (i := 1) (oi := { dst := some 9, op := Op.indexAddr 30 (Operand.tmp 8) (Operand.const (Value.int IntKind.i64 0)), type := 0, pos := "elim.go:136", after := #[{ on := 0, ground := Ground.data }], guard := none }) (v := ?tkv3002) rfl (by kernel_rfl) (by kernel_rfl) (by kernel_rfl) (fun _ _ _ h => h) (Or.inl ⟨by rfl, ?tky3002⟩) hH0 ?tkr3002
  case tky3002 => (intro w' hSw; clear hSw; go_simp; try with_reducible rfl)
  try simp only [Act.put, List.setIfInBounds_toArray, List.set_cons_zero, List.set_cons_succ]
  refine wpAnyH_take (i := 2) (oi := { dst := some 10, op := Op.load 5 (Operand.tmp 9), type := 5, pos := "elim.go:136", after := #[{ on := 1, ground := Ground.data }], guard := none }) (v := ?tkv3003) rfl (by kernel_rfl) (by kernel_rfl) (by kernel_rfl) (fun _ _ _ h => h) (Or.inl ⟨by rfl, ?tky3003⟩) hH0 ?tkr3003
  case tky3003 => (intro w' hSw; have z0 := HL.out _ hSw; clear hSw; go_simp; try with_reducible rfl)
  try simp only [Act.put, List.setIfInBounds_toArray, List.set_cons_zero, List.set_cons_succ]
  refine wpAnyH_take (i := 3) (oi := { dst := some 11, op := Op.convert 5 3 (Operand.tmp 10), type := 3, pos := "elim.go:136", after := #[{ on := 2, ground := Ground.data }], guard := none }) (v := ?tkv3004) rfl (by kernel_rfl) (by kernel_rfl) (by kernel_rfl) (fun _ _ _ h => h) (Or.inl ⟨by rfl, ?tky3004⟩) hH0 ?tkr3004
  case tky3004 => (intro w' hSw; have z0 := HL.out _ hSw; clear hSw; go_simp; try with_reducible rfl)
  try simp only [Act.put, List.setIfInBounds_toArray, List.set_cons_zero, List.set_cons_succ]
  refine wpAnyH_take (i := 4) (oi := { dst := some 12, op := Op.binOp BinOp.add 3 (Operand.tmp 11) (Operand.const (Value.int IntKind.i64 1)) 3, type := 3, pos := "elim.go:136", after := #[{ on := 3, ground := Ground.data }], guard := none }) (v := ?tkv3005) rfl (by kernel_rfl) (by kernel_rfl) (by kernel_rfl) (fun _ _ _ h => h) (Or.inl ⟨by rfl, ?tky3005⟩) hH0 ?tkr3005
  case tky3005 => (intro w' hSw; clear hSw; go_simp; try with_reducible rfl)
  try simp only [Act.put, List.setIfInBounds_toArray, List.set_cons_zero, List.set_cons_succ]
  refine wpAnyH_take (i := 5) (oi := { dst := some 13, op := Op.move (Operand.tmp 0), type := 30, pos := "elim.go:136", after := #[], guard := none }) (v := ?tkv3006) rfl (by kernel_rfl) (by kernel_rfl) (by kernel_rfl) (fun _ _ _ h => h) (Or.inl ⟨by rfl, ?tky3006⟩) hH0 ?tkr3006
  case tky3006 => (intro w' hSw; clear hSw; go_simp; try with_reducible rfl)
  try simp only [Act.put, List.setIfInBounds_toArray, List.set_cons_zero, List.set_cons_succ]
  refine wpAnyH_take (i := 6) (oi := { dst := some 14, op := Op.indexAddr 30 (Operand.tmp 13) (Operand.const (Value.int IntKind.i64 1)), type := 0, pos := "elim.go:136", after := #[{ on := 5, ground := Ground.data }], guard := none }) (v := ?tkv3007) rfl (by kernel_rfl) (by kernel_rfl) (by kernel_rfl) (fun _ _ _ h => h) (Or.inl ⟨by rfl, ?tky3007⟩) hH0 ?tkr3007
  case tky3007 => (intro w' hSw; clear hSw; go_simp; try with_reducible rfl)
  try simp only [Act.put, List.setIfInBounds_toArray, List.set_cons_zero, List.set_cons_succ]
  refine wpAnyH_take (i := 7) (oi := { dst := some 15, op := Op.load 5 (Operand.tmp 14), type := 5, pos := "elim.go:136", after := #[{ on := 6, ground := Ground.data }], guard := none }) (v := ?tkv3008) rfl (by kernel_rfl) (by kernel_rfl) (by kernel_rfl) (fun _ _ _ h => h) (Or.inl ⟨by rfl, ?tky3008⟩) hH0 ?tkr3008
  case tky3008 => (intro w' hSw; have z0 := HL.out _ hSw; clear hSw; go_simp; try with_reducible rfl)
  try simp only [Act.put, List.setIfInBounds_toArray, List.set_cons_zero, List.set_cons_succ]
  refine wpAnyH_take (i := 8) (oi := { dst := some 16, op := Op.convert 5 3 (Operand.tmp 15), type := 3, pos := "elim.go:136", after := #[{ on := 7, ground := Ground.data }], guard := none }) (v := ?tkv3009) rfl (by kernel_rfl) (by kernel_rfl) (by kernel_rfl) (fun _ _ _ h => h) (Or.inl ⟨by rfl, ?tky3009⟩) hH0 ?tkr3009
  case tky3009 => (intro w' hSw; have z0 := HL.out _ hSw; clear hSw; go_simp; try with_reducible rfl)
  try simp only [Act.put, List.setIfInBounds_toArray, List.set_cons_zero, List.set_cons_succ]
  refine wpAnyH_ready (rs := [9]) (by kernel_rfl) (by simp) ?_
  refine AllReadyH.cons (o := { dst := some 17, op := Op.call { callee := Callee.value (Operand.func 8), args := #[Operand.tmp 12, Operand.tmp 16], argTypes := #[3, 3] }, type := 25, pos := "elim.go:136", after := #[{ on := 4, ground := Ground.data }, { on := 8, ground := Ground.data }], guard := none }) rfl (fun K hK => ?_) AllReadyH.nil
  go_simp
  rw [HNI.out, HZI.out]
  refine (newM_bad (n : Int) (z : Int) wd3000 (by omega)).mono ?_
  rintro e' wn3010 ⟨rfl, rfl⟩
  go_simp
  have hS3010 : Below (w.heap.size) w wd3000 := hH0
  refine hK.out _ _ hS3010 (fun hH3010 => ?_)
  have hH3010 : Below (w.heap.size) w wd3000 := hH3010
  clear hK K hS3010
  try simp only [Act.put, List.setIfInBounds_toArray, List.set_cons_zero, List.set_cons_succ]
  refine wpAnyH_take (i := 10) (oi := { dst := some 4, op := Op.assign (Operand.tmp 17), type := 25, pos := "elim.go:136", after := #[{ on := 9, ground := Ground.data }, { on := 9, ground := Ground.chain }, { on := 0, ground := Ground.phase }, { on := 1, ground := Ground.phase }, { on := 2, ground := Ground.phase }, { on := 3, ground := Ground.phase }, { on := 4, ground := Ground.phase }, { on := 5, ground := Ground.phase }, { on := 6, ground := Ground.phase }, { on := 7, ground := Ground.phase }, { on := 8, ground := Ground.phase }, { on := 9, ground := Ground.phase }], guard := none }) (v := ?tkv3011) rfl (by kernel_rfl) (by kernel_rfl) (by kernel_rfl) (fun _ _ _ h => h) (Or.inl ⟨by rfl, ?tky3011⟩) hH3010 ?tkr3011
  case tky3011 => (intro w' hSw; clear hSw; go_simp; try with_reducible rfl)
  try simp only [Act.put, List.setIfInBounds_toArray, List.set_cons_zero, List.set_cons_succ]
  refine wpAnyH_done (by kernel_rfl) ?_ _
  refine NoPanic.normal ?_
  have HBF := Lib.hid (hH3010)
  go_wp2_with fail
  go_ret2
  exact ⟨rfl, HBF⟩
set_option maxRecDepth 100000 in
set_option maxHeartbeats 3200000 in
theorem fromI (n z : Nat)
    (A : Option Addr) (m c0 : Nat) (l : List UInt8) (w : World) (hr : Row w w.heap.size A m (bv l)) (hc : m ≤ c0 ∧ c0 ≤ 9223372036854775807) (h4 : 4 ≤ m) (hn : (l.getD 0 0).toNat + 1 = n) (hz : (l.getD 1 0).toNat = z) (hz1 : 1 ≤ z) (hz2 : z ≤ 16) (ht : DTab w) :
    Calls Tryd.prog 20 #[.slice A m c0] w (FromIOk n z (fromM n z l) w) := by
  have HT := Lib.hid ht
  obtain ⟨RES, hRES⟩ : ∃ R, fromM n z l = R := ⟨_, rfl⟩
  rw [hRES]
  have HRES := Lib.hid hRES
  have HR := Lib.hid hr
  have hlm : l.length = m := hr.blen
  obtain ⟨b, o, hA, _, hl0, hc0⟩ := hr.byteAt (k := 0) (by omega)
  subst hA
  obtain ⟨b', o', hA, _, hl1, hc1⟩ := hr.byteAt (k := 1) (by omega)
  injection hA with hA
  injection hA with hA1 hA2
  subst hA1 hA2
  have e0 : l[0] = l.getD 0 0 := by rw [List.getD_eq_getElem?_getD, List.getElem?_eq_getElem hl0]; rfl
  have e1 : l[1] = l.getD 1 0 := by rw [List.getD_eq_getElem?_getD, List.getElem?_eq_getElem hl1]; rfl
  obtain ⟨x0, hx0⟩ : ∃ x0, (l.getD 0 0).toNat = x0 := ⟨_, rfl⟩
  rw [e0, Nat.add_zero, hx0] at hc0
  rw [hx0] at hn
  rw [e1, hz] at hc1
  have hb0 : x0 < 256 := hx0 ▸ UInt8.toNat_lt (l.getD 0 0)
  have hb1 : z < 256 := hz ▸ UInt8.toNat_lt (l.getD 1 0)
  have HNI : Hid (IntKind.i64.wrap (IntKind.i64.wrap (x0 : Int) + 1) = (n : Int)) := Lib.hid (by
    have e1 : IntKind.i64.wrap (x0 : Int) = (x0 : Int) := IntWalk.i64_in _ (by omega)
    rw [e1, show (x0 : Int) + 1 = (n : Int) by omega]
    exact IntWalk.i64_in _ (by omega))
  have HZI : Hid (IntKind.i64.wrap (z : Int) = (z : Int)) := Lib.hid (IntWalk.i64_in _ (by omega))
  have hn2 : n ≤ 256 := by omega
  have hn1 : 1 ≤ n := by omega
  have hm4 : ¬ (m : Int) < 4 := by omega
  have hm0 : 0 < m := by omega
  have hm1 : 1 < m := by omega
  have hm1i : (1 : Int) < (m : Int) := by omega
  have HL : Hid (∀ W, Below w.heap.size w W → W.cell? ⟨b, o, none⟩ = some (.int .u8 (x0 : Int)) ∧ W.cell? ⟨b, o + 1, none⟩ = some (.int .u8 (z : Int))) := Lib.hid fun W hW => ⟨(hW.cell (p := ⟨b, o, none⟩) (block_lt_of_cell hc0)).trans hc0, (hW.cell (p := ⟨b, o + 1, none⟩) (block_lt_of_cell hc1)).trans hc1⟩
  clear e0 e1 hl0 hl1 hr ht hRES
  go_enter Tryd.func20, Tryd.ntmps20
  go_upto_region 3 with fail
  refine wp_region_noPanic ?_
  refine wp_region_held_drew (S := (fun W => Below (w.heap.size) w W)) (by kernel_rfl) (Below.refl _ _).drew (fun hH0 => ?_)
  have hH0 : Below (w.heap.size) w w.drew := hH0
  generalize w.drew = wd4000 at *
  refine wpAnyH_take (i := 0) (oi := { dst := some 8, op := Op.move (Operand.tmp 0), type := 30, pos := "elim.go:136", after := #[], guard := none }) (v := ?tkv4001) rfl (by kernel_rfl) (by kernel_rfl) (by kernel_rfl) (fun _ _ _ h => h) (Or.inl ⟨by rfl, ?tky4001⟩) hH0 ?tkr4001
  case tky4001 => (intro w' hSw; clear hSw; go_simp; try with_reducible rfl)
  try simp only [Act.put, List.setIfInBounds_toArray, List.set_cons_zero, List.set_cons_succ]
  refine wpAnyH_take (i := 1) (oi := { dst := some 9, op := Op.indexAddr 30 (Operand.tmp 8) (Operand.const (Value.int IntKind.i64 0)), type := 0, pos := "elim.go:136", after := #[{ on := 0, ground := Ground.data }], guard := none }) (v := ?tkv4002) rfl (by kernel_rfl) (by kernel_rfl) (by kernel_rfl) (fun _ _ _ h => h) (Or.inl ⟨by rfl, ?tky4002⟩) hH0 ?tkr4002
  case tky4002 => (intro w' hSw; clear hSw; go_simp; try with_reducible rfl)
  try simp only [Act.put, List.setIfInBounds_toArray, List.set_cons_zero, List.set_cons_succ]
  refine wpAnyH_take (i := 2) (oi := { dst := some 10, op := Op.load 5 (Operand.tmp 9), type := 5, pos := "elim.go:136", after := #[{ on := 1, ground := Ground.data }], guard := none }) (v := ?tkv4003) rfl (by kernel_rfl) (by kernel_rfl) (by kernel_rfl) (fun _ _ _ h => h) (Or.inl ⟨by rfl, ?tky4003⟩) hH0 ?tkr4003
  case tky4003 => (intro w' hSw; have z0 := HL.out _ hSw; clear hSw; go_simp; try with_reducible rfl)
  try simp only [Act.put, List.setIfInBounds_toArray, List.set_cons_zero, List.set_cons_succ]
  refine wpAnyH_take (i := 3) (oi := { dst := some 11, op := Op.convert 5 3 (Operand.tmp 10), type := 3, pos := "elim.go:136", after := #[{ on := 2, ground := Ground.data }], guard := none }) (v := ?tkv4004) rfl (by kernel_rfl) (by kernel_rfl) (by kernel_rfl) (fun _ _ _ h => h) (Or.inl ⟨by rfl, ?tky4004⟩) hH0 ?tkr4004
  case tky4004 => (intro w' hSw; have z0 := HL.out _ hSw; clear hSw; go_simp; try with_reducible rfl)
  try simp only [Act.put, List.setIfInBounds_toArray, List.set_cons_zero, List.set_cons_succ]
  refine wpAnyH_take (i := 4) (oi := { dst := some 12, op := Op.binOp BinOp.add 3 (Operand.tmp 11) (Operand.const (Value.int IntKind.i64 1)) 3, type := 3, pos := "elim.go:136", after := #[{ on := 3, ground := Ground.data }], guard := none }) (v := ?tkv4005) rfl (by kernel_rfl) (by kernel_rfl) (by kernel_rfl) (fun _ _ _ h => h) (Or.inl ⟨by rfl, ?tky4005⟩) hH0 ?tkr4005
  case tky4005 => (intro w' hSw; clear hSw; go_simp; try with_reducible rfl)
  try simp only [Act.put, List.setIfInBounds_toArray, List.set_cons_zero, List.set_cons_succ]
  refine wpAnyH_take (i := 5) (oi := { dst := some 13, op := Op.move (Operand.tmp 0), type := 30, pos := "elim.go:136", after := #[], guard := none }) (v := ?tkv4006) rfl (by kernel_rfl) (by kernel_rfl) (by kernel_rfl) (fun _ _ _ h => h) (Or.inl ⟨by rfl, ?tky4006⟩) hH0 ?tkr4006
  case tky4006 => (intro w' hSw; clear hSw; go_simp; try with_reducible rfl)
  try simp only [Act.put, List.setIfInBounds_toArray, List.set_cons_zero, List.set_cons_succ]
  refine wpAnyH_take (i := 6) (oi := { dst := some 14, op := Op.indexAddr 30 (Operand.tmp 13) (Operand.const (Value.int IntKind.i64 1)), type := 0, pos := "elim.go:136", after := #[{ on := 5, ground := Ground.data }], guard := none }) (v := ?tkv4007) rfl (by kernel_rfl) (by kernel_rfl) (by kernel_rfl) (fun _ _ _ h => h) (Or.inl ⟨by rfl, ?tky4007⟩) hH0 ?tkr4007
  case tky4007 => (intro w' hSw; clear hSw; go_simp; try with_reducible rfl)
  try simp only [Act.put, List.setIfInBounds_toArray, List.set_cons_zero, List.set_cons_succ]
  refine wpAnyH_take (i := 7) (oi := { dst := some 15, op := Op.load 5 (Operand.tmp 14), type := 5, pos := "elim.go:136", after := #[{ on := 6, ground := Ground.data }], guard := none }) (v := ?tkv4008) rfl (by kernel_rfl) (by kernel_rfl) (by kernel_rfl) (fun _ _ _ h => h) (Or.inl ⟨by rfl, ?tky4008⟩) hH0 ?tkr4008
  case tky4008 => (intro w' hSw; have z0 := HL.out _ hSw; clear hSw; go_simp; try with_reducible rfl)
  try simp only [Act.put, List.setIfInBounds_toArray, List.set_cons_zero, List.set_cons_succ]
  refine wpAnyH_take (i := 8) (oi := { dst := some 16, op := Op.convert 5 3 (Operand.tmp 15), type := 3, pos := "elim.go:136", after := #[{ on := 7, ground := Ground.data }], guard := none }) (v := ?tkv4009) rfl (by kernel_rfl) (by kernel_rfl) (by kernel_rfl) (fun _ _ _ h => h) (Or.inl ⟨by rfl, ?tky4009⟩) hH0 ?tkr4009
  case tky4009 => (intro w' hSw; have z0 := HL.out _ hSw; clear hSw; go_simp; try with_reducible rfl)
  try simp only [Act.put, List.setIfInBounds_toArray, List.set_cons_zero, List.set_cons_succ]
  refine wpAnyH_ready (rs := [9]) (by kernel_rfl) (by simp) ?_
  refine AllReadyH.cons (o := { dst := some 17, op := Op.call { callee := Callee.value (Operand.func 8), args := #[Operand.tmp 12, Operand.tmp 16], argTypes := #[3, 3] }, type := 25, pos := "elim.go:136", after := #[{ on := 4, ground := Ground.data }, { on := 8, ground := Ground.data }], guard := none }) rfl (fun K hK => ?_) AllReadyH.nil
  go_simp
  rw [HNI.out, HZI.out]
  refine (newI n z wd4000 (by omega) (by omega)).mono ?_
  rintro e' wn4010 ⟨g4010, rfl, hm4010, hb4010'⟩
  have hb4010 := hb4010'.out
  have MM4010_ := Lib.hid (hm4010.out.more fun b hb => Nat.le_trans (hH0).size hb.1 : IsMat wn4010 (fun b => w.heap.size ≤ b) g4010 n z (List.replicate n none))
  clear hm4010 hb4010'
  go_simp
  have hS4010 : Below (w.heap.size) w wn4010 := (hH0).trans (hb4010.mono (hH0).size)
  refine hK.out _ _ hS4010 (fun hH4010 => ?_)
  have hH4010 : Below (w.heap.size) w wn4010 := hH4010
  clear hK K hS4010
  try simp only [Act.put, List.setIfInBounds_toArray, List.set_cons_zero, List.set_cons_succ]
  refine wpAnyH_take (i := 10) (oi := { dst := some 4, op := Op.assign (Operand.tmp 17), type := 25, pos := "elim.go:136", after := #[{ on := 9, ground := Ground.data }, { on := 9, ground := Ground.chain }, { on := 0, ground := Ground.phase }, { on := 1, ground := Ground.phase }, { on := 2, ground := Ground.phase }, { on := 3, ground := Ground.phase }, { on := 4, ground := Ground.phase }, { on := 5, ground := Ground.phase }, { on := 6, ground := Ground.phase }, { on := 7, ground := Ground.phase }, { on := 8, ground := Ground.phase }, { on := 9, ground := Ground.phase }], guard := none }) (v := ?tkv4011) rfl (by kernel_rfl) (by kernel_rfl) (by kernel_rfl) (fun _ _ _ h => h) (Or.inl ⟨by rfl, ?tky4011⟩) hH4010 ?tkr4011
  case tky4011 => (intro w' hSw; clear hSw; go_simp; try with_reducible rfl)
  try simp only [Act.put, List.setIfInBounds_toArray, List.set_cons_zero, List.set_cons_succ]
  refine wpAnyH_done (by kernel_rfl) ?_ _
  refine NoPanic.normal ?_
  have HBV := Lib.hid (hH4010)
  obtain ⟨wv, rfl⟩ : ∃ x : World, x = wn4010 := ⟨_, rfl⟩
  have HMV := Lib.hid MM4010_.out
  obtain ⟨gm, rfl⟩ : ∃ gv, gv = g4010 := ⟨_, rfl⟩
  obtain ⟨A, hA⟩ : ∃ A : Option Addr, some ⟨b, o, none⟩ = A := ⟨_, rfl⟩
  rw [hA] at HR ⊢
  clear hc0 hc1 HL hA
  --MARK1
  have HRV := Lib.hid (HR.out.below HBV.out)
  have HDV := Lib.hid (HT.out.below HBV.out HT.out.1)
  have hd4 : (bv l).drop 4 = bv (l.drop 4) := bv_drop l 4
  have HAA := Lib.hid (fun (A2 : Option Addr) (c2 : Nat) (h1 : Row wv w.heap.size A2 (m - 4) (bv (l.drop 4))) (h2 : m - 4 ≤ c2 ∧ c2 ≤ 9223372036854775807) => addAll_any w.heap.size gm n z (List.replicate n none) A2 (m - 4) c2 (l.drop 4) wv HMV.out (Inv.start n z) h1 HBV.out.size h2 HDV.out HT.out.1)
  have HFU : Hid (addAllM n z (m - 4) (List.replicate n none) (l.drop 4) = addAllM n z l.length (List.replicate n none) (l.drop 4)) := Lib.hid (addAll_fuel n z hz1 _ _ _ _ (by rw [List.length_drop]; omega) (by rw [List.length_drop]; omega))
  rw [HFU.out] at HAA
  obtain ⟨R, hR⟩ : ∃ R, addAllM n z l.length (List.replicate n none) (l.drop 4) = R := ⟨_, rfl⟩
  rw [hR] at HAA
  have HRR := Lib.hid hR
  have HFN : Hid (R = none → RES = none) := Lib.hid fun h => by rw [← HRES.out]; unfold fromM; rw [hR, h]
  have HFS : Hid (∀ M, R = some M → RES = if bytesM n z M = l then some M else none) := Lib.hid fun M h => by rw [← HRES.out]; unfold fromM; rw [hR, h]
  clear HFU hR
  --MARK2
  go_wp2_with fail
  · refine (HAA.out _ _ (by have h4m : m - 4 = 0 := by omega
                            rw [h4m, List.drop_eq_nil_of_le (by omega)]; exact Row.nil _ _ _) (by omega)).mono ?_
    rintro e wa ⟨rfl, hba, hma⟩
    cases R with
    | none =>
      have hres := HFN.out rfl
      subst hres
      go_wp2_with fail
      go_ret2
      exact ⟨rfl, Lib.hid (HBV.out.trans hba.out)⟩
    | some M =>
      obtain ⟨hi, hm⟩ := hma.out M rfl
      have HI := Lib.hid hi
      have HMA := Lib.hid hm
      have HBA := Lib.hid (HBV.out.trans hba.out)
      have HRA := Lib.hid (HR.out.below HBA.out)
      clear hi hm hma hba HAA
      go_wp2_with fail
      refine (bytesI HMA.out).mono ?_
      rintro e wb ⟨A2, c2, rfl, ho, hb⟩
      have HB2 := Lib.hid (HBA.out.trans (hb.out.mono HBA.out.size))
      have HEQ := Lib.hid (equalE_any wb.heap.size (bytesM n z M).length c2 m 4 A2 A (bytesM n z M) l wb (Row.of_own ho.out) ((HR.out.below HB2.out).more HB2.out.size))
      have HMB := Lib.hid (HMA.out.below hb.out)
      have HRES2 := Lib.hid (HFS.out M rfl)
      clear hb ho
      by_cases he : bytesM n z M = l
      · have hres : RES = some M := HRES2.out.trans (if_pos he)
        subst hres
        have hbb : (bytesM n z M == l) = true := by rw [he]; exact beq_self_eq_true l
        rw [hbb] at HEQ
        clear he hbb
        go_wp2_with fail
        refine HEQ.out.mono ?_
        rintro e wx ⟨rfl, rfl⟩
        go_wp2_with fail
        go_ret2
        exact ⟨gm, rfl, HI, Lib.hid (HMB.out.tight), HB2⟩
      · have hres : RES = none := HRES2.out.trans (if_neg he)
        subst hres
        have hbb : (bytesM n z M == l) = false := by simpa using he
        rw [hbb] at HEQ
        clear he hbb
        go_wp2_with fail
        refine HEQ.out.mono ?_
        rintro e wx ⟨rfl, rfl⟩
        go_wp2_with fail
        go_ret2
        exact ⟨rfl, HB2⟩
  · refine (HAA.out _ _ (by rw [← hd4]; have h := HRV.out.sub (k := 4) (m := m - 4) (A' := A.map fun x => { block := x.block, off := x.off + 4 }) (by omega) (fun b o e _ => by rw [e]; rfl); rwa [List.take_of_length_le (by rw [List.length_drop, bv_length]; omega)] at h) (by omega)).mono ?_
    rintro e wa ⟨rfl, hba, hma⟩
    cases R with
    | none =>
      have hres := HFN.out rfl
      subst hres
      go_wp2_with fail
      go_ret2
      exact ⟨rfl, Lib.hid (HBV.out.trans hba.out)⟩
    | some M =>
      obtain ⟨hi, hm⟩ := hma.out M rfl
      have HI := Lib.hid hi
      have HMA := Lib.hid hm
      have HBA := Lib.hid (HBV.out.trans hba.out)
      have HRA := Lib.hid (HR.out.below HBA.out)
      clear hi hm hma hba HAA
      go_wp2_with fail
      refine (bytesI HMA.out).mono ?_
      rintro e wb ⟨A2, c2, rfl, ho, hb⟩
      have HB2 := Lib.hid (HBA.out.trans (hb.out.mono HBA.out.size))
      have HEQ := Lib.hid (equalE_any wb.heap.size (bytesM n z M).length c2 m c0 A2 A (bytesM n z M) l wb (Row.of_own ho.out) ((HR.out.below HB2.out).more HB2.out.size))
      have HMB := Lib.hid (HMA.out.below hb.out)
      have HRES2 := Lib.hid (HFS.out M rfl)
      clear hb ho
      by_cases he : bytesM n z M = l
      · have hres : RES = some M := HRES2.out.trans (if_pos he)
        subst hres
        have hbb : (bytesM n z M == l) = true := by rw [he]; exact beq_self_eq_true l
        rw [hbb] at HEQ
        clear he hbb
        go_wp2_with fail
        refine HEQ.out.mono ?_
        rintro e wx ⟨rfl, rfl⟩
        go_wp2_with fail
        go_ret2
        exact ⟨gm, rfl, HI, Lib.hid (HMB.out.tight), HB2⟩
      · have hres : RES = none := HRES2.out.trans (if_neg he)
        subst hres
        have hbb : (bytesM n z M == l) = false := by simpa using he
        rw [hbb] at HEQ
        clear he hbb
        go_wp2_with fail
        refine HEQ.out.mono ?_
        rintro e wx ⟨rfl, rfl⟩
        go_wp2_with fail
        go_ret2
        exact ⟨rfl, HB2⟩
  
end Go.Proofs.YtgeodhffgbhmaaaDoor.El
