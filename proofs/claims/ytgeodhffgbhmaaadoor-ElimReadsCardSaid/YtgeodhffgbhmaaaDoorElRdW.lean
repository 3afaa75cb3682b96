/- The reference's FromMatrix: by contract. ElimReads' walk. -/
import Derived.Test.YtgeodhffgbhmaaaDoorRMxD
import Derived.Test.YtgeodhffgbhmaaaDoorElFrB
import Derived.Test.YtgeodhffgbhmaaaDoorNumR
import Derived.Test.YtgeodhffgbhmaaaDoorPlEnv
import Derived.Test.YtgeodhffgbhmaaaDoorElAwake
namespace Go.Proofs.YtgeodhffgbhmaaaDoor.El
open Go.RowKit
open VecM Vc
/-- the number of rows that the header tells -/
def cntB (l : List UInt8) : Nat := (l.getD 2 0).toNat * 256 + (l.getD 3 0).toNat
theorem cntB_le (l : List UInt8) : cntB l ≤ 65535 := by
  have h1 := UInt8.toNat_lt (l.getD 2 0)
  have h2 := UInt8.toNat_lt (l.getD 3 0)
  unfold cntB; omega
theorem number_two {l : List UInt8} (h : 4 ≤ l.length) : CrcM.number ((l.drop 2).take 2) = cntB l := by
  match l, h with
  | x0 :: x1 :: x2 :: x3 :: t, _ => simp [CrcM.number, cntB]
theorem addAllM_inv {n z : Nat} (hn : n ≤ 256) : ∀ (k : Nat) (M M' : Mx) (b : List UInt8), Inv n z M → addAllM n z k M b = some M' → Inv n z M'
  | 0, M, M', b, h, e => by
    unfold addAllM at e
    split at e
    · injection e with e; rw [← e]; exact h
    · cases e
  | k + 1, M, M', b, h, e => by
    rw [addAllM] at e
    split at e
    · injection e with e; rw [← e]; exact h
    · split at e
      · cases e
      · split at e
        · rename_i hlt hf
          split at e
          · refine addAllM_inv hn k _ M' _ (addMx_inv h hn (frN_lt hf _ (Nat.le_refl _)) ?_) e
            rw [List.length_take, List.length_drop]; omega
          · cases e
        · cases e
theorem rows_len {n z : Nat} {M : Mx} (h : Inv n z M) : ∀ k, ((rowsTo M k).flatMap (lnB n)).length = (rowsTo M k).length * (bw n + z)
  | 0 => by simp [rowsTo]
  | k + 1 => by
    show ((rowsTo M k ++ lnAt M k).flatMap (lnB n)).length = (rowsTo M k ++ lnAt M k).length * (bw n + z)
    rw [List.flatMap_append, List.length_append, List.length_append, rows_len h k, Nat.add_mul]
    congr 1
    cases hm : M.getD k none with
    | none => rw [lnAt_none hm]; simp
    | some r =>
      rw [lnAt_some hm]
      have := h.z k r (getD_getM hm)
      simp [lnB, bl_length, this]
theorem bytesM_length {n z : Nat} {M : Mx} (h : Inv n z M) : (bytesM n z M).length = 4 + rankM M * (bw n + z) := by
  rw [← rows_bytes, List.length_append, rows_len h, rowsTo_rank h.len]; rfl
theorem bytesM_cnt {n z : Nat} {M : Mx} (h : rankM M ≤ 65535) : cntB (bytesM n z M) = rankM M := by
  have e2 : (bytesM n z M).getD 2 0 = UInt8.ofNat (rankM M / 256) := rfl
  have e3 : (bytesM n z M).getD 3 0 = UInt8.ofNat (rankM M % 256) := rfl
  unfold cntB
  rw [e2, e3, UInt8.toNat_ofNat', UInt8.toNat_ofNat']; omega
theorem fromM_cnt {n z : Nat} {l : List UInt8} (h : n < cntB l ∨ l.length ≠ 4 + cntB l * (bw n + z)) (hn : n ≤ 256) (_hz : 1 ≤ z) (_hz2 : z ≤ 16) : fromM n z l = none := by
  unfold fromM
  cases ha : addAllM n z l.length (List.replicate n none) (l.drop 4) with
  | none => rfl
  | some M =>
    have hi := addAllM_inv hn _ _ M _ (Inv.start n z) ha
    have hr : rankM M ≤ n := by
      have := rowsTo_le M n
      rw [rowsTo_rank hi.len] at this; exact this
    dsimp only
    split
    · rename_i e
      exfalso
      have h1 := bytesM_length hi
      have h2 := bytesM_cnt (n := n) (z := z) (M := M) (by omega)
      rw [e] at h1 h2
      rw [h2] at h
      rcases h with h | h
      · omega
      · exact h h1
    · rfl
theorem RMat.tight {W : World} {P : Nat → Prop} {gm n z : Nat} {ls : List Ln} (h : RMat W P gm n z ls) : RMat W (fun b => P b ∧ b < W.heap.size) gm n z ls := by
  have hl := h.lt
  obtain ⟨A, c, es, hg, h1, h2⟩ := h.at_
  refine ⟨h.n1, h.z1, ⟨h.p, hl⟩, h.ln, A, c, es, hg, ?_, h2⟩
  exact h1.tight.more fun b hb => ⟨⟨hb.1.1, hb.2⟩, hb.1.2⟩
/-- what FromMatrix tells -/
def RFromNo (w : World) (e : Ending) (w' : World) : Prop := e = .returned (.tuple #[.pointer none, .bool false]) ∧ Hid (Below w.heap.size w w')
def RFromOk (n z : Nat) (R : Option Mx) (w : World) (e : Ending) (w' : World) : Prop := match R with
  | none => RFromNo w e w'
  | some M => ∃ gw, e = .returned (.tuple #[.pointer (some ⟨gw, 0, none⟩), .bool true]) ∧ Hid (Inv n z M) ∧ Hid (RMat w' (fun b => w.heap.size ≤ b ∧ b < w'.heap.size) gw n z (rowsTo M n)) ∧ Hid (Below w.heap.size w w')
theorem rfrom_few (A : Option Addr) (m c0 : Nat) (w : World) (h : m < 4) : Calls Tryd.prog 21 #[.slice A m c0] w (RFromNo w) := by
  go_enter Tryd.func21, Tryd.ntmps21
  go_wp2_with fail
  go_ret2
  exact ⟨rfl, Lib.hid (Below.refl _ _)⟩
set_option maxRecDepth 100000 in
set_option maxHeartbeats 1600000 in
theorem rfrom_size (n z : Nat)
    (A : Option Addr) (m c0 : Nat) (l : List UInt8) (w : World) (hr : Row w w.heap.size A m (bv l)) (hc : m ≤ c0 ∧ c0 ≤ 9223372036854775807) (h4 : 4 ≤ m) (hn : (l.getD 0 0).toNat + 1 = n) (hz : (l.getD 1 0).toNat = z) (hbad : z < 1 ∨ 16 < z) :
    Calls Tryd.prog 21 #[.slice A m c0] w (RFromNo w) := by
  have HR := Lib.hid hr
  have hlm : l.length = m := hr.blen
  obtain ⟨b, o, hA, _, hl0, hc0⟩ := hr.byteAt (k := 0) (by omega)
  subst hA
  obtain ⟨b', o', hA, _, hl1, hc1⟩ := hr.byteAt (k := 1) (by omega)
  injection hA with hA
  injection hA with hA1 hA2
  subst hA1 hA2
  have e0 : l[0] = l.getD 0 0 := by rw [List.getD_eq_getElem?_getD, List.getElem?_eq_getElem hl0]; rfl
  have e1 : l[1] = l.getD 1 0 := by rw [List.getD_eq_getElem?_getD, List.getElem?_eq_getElem hl1]; rfl
  obtain ⟨x0, hx0⟩ : ∃ x0, (l.getD 0 0).toNat = x0 := ⟨_, rfl⟩
  rw [e0, Nat.add_zero, hx0] at hc0
  rw [hx0] at hn
  rw [e1, hz] at hc1
  have hb0 : x0 < 256 := hx0 ▸ UInt8.toNat_lt (l.getD 0 0)
  have hb1 : z < 256 := hz ▸ UInt8.toNat_lt (l.getD 1 0)
  have HNI : Hid (IntKind.i64.wrap (IntKind.i64.wrap (x0 : Int) + 1) = (n : Int)) := Lib.hid (by
    have e1 : IntKind.i64.wrap (x0 : Int) = (x0 : Int) := IntWalk.i64_in _ (by omega)
    rw [e1, show (x0 : Int) + 1 = (n : Int) by omega]
    exact IntWalk.i64_in _ (by omega))
  have HZI : Hid (IntKind.i64.wrap (z : Int) = (z : Int)) := Lib.hid (IntWalk.i64_in _ (by omega))
  have hn2 : n ≤ 256 := by omega
  have hn1 : 1 ≤ n := by omega
  have hm4 : ¬ (m : Int) < 4 := by omega
  have hm0 : 0 < m := by omega
  have hm1 : 1 < m := by omega
  have hm1i : (1 : Int) < (m : Int) := by omega
  have HL : Hid (∀ W, Below w.heap.size w W → W.cell? ⟨b, o, none⟩ = some (.int .u8 (x0 : Int)) ∧ W.cell? ⟨b, o + 1, none⟩ = some (.int .u8 (z : Int))) := Lib.hid fun W hW => ⟨(hW.cell (p := ⟨b, o, none⟩) (block_lt_of_cell hc0)).trans hc0, (hW.cell (p := ⟨b, o + 1, none⟩) (block_lt_of_cell hc1)).trans hc1⟩
  clear e0 e1 hl0 hl1 hr
  obtain ⟨cnt, hcnt⟩ : ∃ c, CrcM.number ((l.drop 2).take 2) = c := ⟨_, rfl⟩
  have HCN := Lib.hid hcnt
  have HCQ : Hid (cntB l = cnt) := Lib.hid (by rw [← hcnt, number_two (by omega)])
  have HCB : Hid (cnt ≤ 65535) := Lib.hid (by rw [← HCQ.out]; exact cntB_le l)
  clear hcnt
  go_enter Tryd.func21, Tryd.ntmps21
  go_upto_region 3 with fail
  refine wp_region_noPanic ?_
  refine wp_region_held_drew (S := (fun W => Below (w.heap.size) w W)) (by kernel_rfl) (Below.refl _ _).drew (fun hH0 => ?_)
  have hH0 : Below (w.heap.size) w w.drew := hH0
  generalize w.drew = wd3000 at *
  refine wpAnyH_take (i := 0) (oi := { dst := some 14, op := Op.move (Operand.tmp 0), type := 30, pos := "ref.go:334", after := #[], guard := none }) (v := ?tkv3001) rfl (by kernel_rfl) (by kernel_rfl) (by kernel_rfl) (fun _ _ _ h => h) (Or.inl ⟨by rfl, ?tky3001⟩) hH0 ?tkr3001
  case tky3001 => (intro w' hSw; clear hSw; go_simp; try with_reducible rfl)
  try simp only [Act.put, List.setIfInBounds_toArray, List.set_cons_zero, List.set_cons_succ]
  refine wpAnyH_take (i := 1) (oi := { dst := some 15, op := Op.indexAddr 30 (Operand.tmp 14) (Operand.const (Value.int IntKind.i64 0)), type := 0, pos := "ref.go:334", after := #[{ on := 0, ground := Ground.data }], guard := none }) (v := ?tkv3002) rfl (by kernel_rfl) (by kernel_rfl) (by kernel_rfl) (fun _ _ _ h => h) (Or.inl ⟨by rfl, ?tky3002⟩) hH0 ?tkr3002
  case tky3002 => (intro w' hSw; clear hSw; go_simp; try with_reducible rfl)
  try simp only [Act.put, List.setIfInBounds_toArray, List.set_cons_zero, List.set_cons_succ]
  refine wpAnyH_take (i := 2) (oi := { dst := some 16, op := Op.load 5 (Operand.tmp 15), type := 5, pos := "ref.go:334", after := #[{ on := 1, ground := Ground.data }], guard := none }) (v := ?tkv3003) rfl (by kernel_rfl) (by kernel_rfl) (by kernel_rfl) (fun _ _ _ h => h) (Or.inl ⟨by rfl, ?tky3003⟩) hH0 ?tkr3003
  case tky3003 => (intro w' hSw; have z0 := HL.out _ hSw; clear hSw; go_simp; try with_reducible rfl)
  try simp only [Act.put, List.setIfInBounds_toArray, List.set_cons_zero, List.set_cons_succ]
  refine wpAnyH_take (i := 3) (oi := { dst := some 17, op := Op.convert 5 3 (Operand.tmp 16), type := 3, pos := "ref.go:334", after := #[{ on := 2, ground := Ground.data }], guard := none }) (v := ?tkv3004) rfl (by kernel_rfl) (by kernel_rfl) (by kernel_rfl) (fun _ _ _ h => h) (Or.inl ⟨by rfl, ?tky3004⟩) hH0 ?tkr3004
  case tky3004 => (intro w' hSw; have z0 := HL.out _ hSw; clear hSw; go_simp; try with_reducible rfl)
  try simp only [Act.put, List.setIfInBounds_toArray, List.set_cons_zero, List.set_cons_succ]
  refine wpAnyH_take (i := 4) (oi := { dst := some 18, op := Op.binOp BinOp.add 3 (Operand.tmp 17) (Operand.const (Value.int IntKind.i64 1)) 3, type := 3, pos := "ref.go:334", after := #[{ on := 3, ground := Ground.data }], guard := none }) (v := ?tkv3005) rfl (by kernel_rfl) (by kernel_rfl) (by kernel_rfl) (fun _ _ _ h => h) (Or.inl ⟨by rfl, ?tky3005⟩) hH0 ?tkr3005
  case tky3005 => (intro w' hSw; clear hSw; go_simp; try with_reducible rfl)
  try simp only [Act.put, List.setIfInBounds_toArray, List.set_cons_zero, List.set_cons_succ]
  refine wpAnyH_take (i := 5) (oi := { dst := some 19, op := Op.move (Operand.tmp 0), type := 30, pos := "ref.go:334", after := #[], guard := none }) (v := ?tkv3006) rfl (by kernel_rfl) (by kernel_rfl) (by kernel_rfl) (fun _ _ _ h => h) (Or.inl ⟨by rfl, ?tky3006⟩) hH0 ?tkr3006
  case tky3006 => (intro w' hSw; clear hSw; go_simp; try with_reducible rfl)
  try simp only [Act.put, List.setIfInBounds_toArray, List.set_cons_zero, List.set_cons_succ]
  refine wpAnyH_take (i := 6) (oi := { dst := some 20, op := Op.indexAddr 30 (Operand.tmp 19) (Operand.const (Value.int IntKind.i64 1)), type := 0, pos := "ref.go:334", after := #[{ on := 5, ground := Ground.data }], guard := none }) (v := ?tkv3007) rfl (by kernel_rfl) (by kernel_rfl) (by kernel_rfl) (fun _ _ _ h => h) (Or.inl ⟨by rfl, ?tky3007⟩) hH0 ?tkr3007
  case tky3007 => (intro w' hSw; clear hSw; go_simp; try with_reducible rfl)
  try simp only [Act.put, List.setIfInBounds_toArray, List.set_cons_zero, List.set_cons_succ]
  refine wpAnyH_take (i := 7) (oi := { dst := some 21, op := Op.load 5 (Operand.tmp 20), type := 5, pos := "ref.go:334", after := #[{ on := 6, ground := Ground.data }], guard := none }) (v := ?tkv3008) rfl (by kernel_rfl) (by kernel_rfl) (by kernel_rfl) (fun _ _ _ h => h) (Or.inl ⟨by rfl, ?tky3008⟩) hH0 ?tkr3008
  case tky3008 => (intro w' hSw; have z0 := HL.out _ hSw; clear hSw; go_simp; try with_reducible rfl)
  try simp only [Act.put, List.setIfInBounds_toArray, List.set_cons_zero, List.set_cons_succ]
  refine wpAnyH_take (i := 8) (oi := { dst := some 22, op := Op.convert 5 3 (Operand.tmp 21), type := 3, pos := "ref.go:334", after := #[{ on := 7, ground := Ground.data }], guard := none }) (v := ?tkv3009) rfl (by kernel_rfl) (by kernel_rfl) (by kernel_rfl) (fun _ _ _ h => h) (Or.inl ⟨by rfl, ?tky3009⟩) hH0 ?tkr3009
  case tky3009 => (intro w' hSw; have z0 := HL.out _ hSw; clear hSw; go_simp; try with_reducible rfl)
  try simp only [Act.put, List.setIfInBounds_toArray, List.set_cons_zero, List.set_cons_succ]
  refine wpAnyH_ready (rs := [9]) (by kernel_rfl) (by simp) ?_
  refine AllReadyH.cons (o := { dst := some 23, op := Op.call { callee := Callee.value (Operand.func 9), args := #[Operand.tmp 18, Operand.tmp 22], argTypes := #[3, 3] }, type := 27, pos := "ref.go:334", after := #[{ on := 4, ground := Ground.data }, { on := 8, ground := Ground.data }], guard := none }) rfl (fun K hK => ?_) AllReadyH.nil
  go_simp
  rw [HNI.out, HZI.out]
  refine (rnewM_bad (n : Int) (z : Int) wd3000 (by omega)).mono ?_
  rintro e' wn3010 ⟨rfl, rfl⟩
  go_simp
  have hS3010 : Below (w.heap.size) w wd3000 := hH0
  refine hK.out _ _ hS3010 (fun hH3010 => ?_)
  have hH3010 : Below (w.heap.size) w wd3000 := hH3010
  clear hK K hS3010
  try simp only [Act.put, List.setIfInBounds_toArray, List.set_cons_zero, List.set_cons_succ]
  refine wpAnyH_take (i := 10) (oi := { dst := some 4, op := Op.assign (Operand.tmp 23), type := 27, pos := "ref.go:334", after := #[{ on := 9, ground := Ground.data }, { on := 9, ground := Ground.chain }, { on := 0, ground := Ground.phase }, { on := 1, ground := Ground.phase }, { on := 2, ground := Ground.phase }, { on := 3, ground := Ground.phase }, { on := 4, ground := Ground.phase }, { on := 5, ground := Ground.phase }, { on := 6, ground := Ground.phase }, { on := 7, ground := Ground.phase }, { on := 8, ground := Ground.phase }, { on := 9, ground := Ground.phase }], guard := none }) (v := ?tkv3011) rfl (by kernel_rfl) (by kernel_rfl) (by kernel_rfl) (fun _ _ _ h => h) (Or.inl ⟨by rfl, ?tky3011⟩) hH3010 ?tkr3011
  case tky3011 => (intro w' hSw; clear hSw; go_simp; try with_reducible rfl)
  try simp only [Act.put, List.setIfInBounds_toArray, List.set_cons_zero, List.set_cons_succ]
  refine wpAnyH_done (by kernel_rfl) ?_ _
  refine NoPanic.normal ?_
  have HBV := Lib.hid (hH3010)
  obtain ⟨wv, rfl⟩ : ∃ x : World, x = wd3000 := ⟨_, rfl⟩
  obtain ⟨A, hA⟩ : ∃ A : Option Addr, some ⟨b, o, none⟩ = A := ⟨_, rfl⟩
  rw [hA] at HR ⊢
  clear hc0 hc1 HL hA
  have hc4 : (4 : Int) ≤ (c0 : Int) := by omega
  have hcb : (cnt : Int) ≤ 65535 := by have := HCB.out; omega
  have HNM := Lib.hid (fun A2 (c2 : Nat) (h : Row wv w.heap.size A2 2 (bv ((l.drop 2).take 2))) => r1num_any 2 w.heap.size c2 A2 ((l.drop 2).take 2) wv h (by omega))
  rw [HCN.out] at HNM
  have HR2 : Hid (Row wv w.heap.size (A.map fun x => x.add 2) 2 (bv ((l.drop 2).take 2))) := Lib.hid (by
    rw [← bv_take, ← bv_drop]
    exact (HR.out.cut (by omega)).below HBV.out)
  go_wp2_with fail
  refine (HNM.out _ _ HR2.out).mono ?_
  rintro e wx ⟨rfl, rfl⟩
  clear HNM HR2
  go_wp2_with fail
  go_ret2
  exact ⟨rfl, HBV⟩
set_option maxRecDepth 100000 in
set_option maxHeartbeats 12800000 in
theorem rfrom (n z : Nat)
    (A : Option Addr) (m c0 : Nat) (l : List UInt8) (w : World) (hr : Row w w.heap.size A m (bv l)) (hc : m ≤ c0 ∧ c0 ≤ 9223372036854775807) (h4 : 4 ≤ m) (hn : (l.getD 0 0).toNat + 1 = n) (hz : (l.getD 1 0).toNat = z) (hz1 : 1 ≤ z) (hz2 : z ≤ 16) :
    Calls Tryd.prog 21 #[.slice A m c0] w (RFromOk n z (fromM n z l) w) := by
  obtain ⟨RES, hRES⟩ : ∃ R, fromM n z l = R := ⟨_, rfl⟩
  rw [hRES]
  have HRES := Lib.hid hRES
  clear hRES
  have HR := Lib.hid hr
  have hlm : l.length = m := hr.blen
  obtain ⟨b, o, hA, _, hl0, hc0⟩ := hr.byteAt (k := 0) (by omega)
  subst hA
  obtain ⟨b', o', hA, _, hl1, hc1⟩ := hr.byteAt (k := 1) (by omega)
  injection hA with hA
  injection hA with hA1 hA2
  subst hA1 hA2
  have e0 : l[0] = l.getD 0 0 := by rw [List.getD_eq_getElem?_getD, List.getElem?_eq_getElem hl0]; rfl
  have e1 : l[1] = l.getD 1 0 := by rw [List.getD_eq_getElem?_getD, List.getElem?_eq_getElem hl1]; rfl
  obtain ⟨x0, hx0⟩ : ∃ x0, (l.getD 0 0).toNat = x0 := ⟨_, rfl⟩
  rw [e0, Nat.add_zero, hx0] at hc0
  rw [hx0] at hn
  rw [e1, hz] at hc1
  have hb0 : x0 < 256 := hx0 ▸ UInt8.toNat_lt (l.getD 0 0)
  have hb1 : z < 256 := hz ▸ UInt8.toNat_lt (l.getD 1 0)
  have HNI : Hid (IntKind.i64.wrap (IntKind.i64.wrap (x0 : Int) + 1) = (n : Int)) := Lib.hid (by
    have e1 : IntKind.i64.wrap (x0 : Int) = (x0 : Int) := IntWalk.i64_in _ (by omega)
    rw [e1, show (x0 : Int) + 1 = (n : Int) by omega]
    exact IntWalk.i64_in _ (by omega))
  have HZI : Hid (IntKind.i64.wrap (z : Int) = (z : Int)) := Lib.hid (IntWalk.i64_in _ (by omega))
  have hn2 : n ≤ 256 := by omega
  have hn1 : 1 ≤ n := by omega
  have hm4 : ¬ (m : Int) < 4 := by omega
  have hm0 : 0 < m := by omega
  have hm1 : 1 < m := by omega
  have hm1i : (1 : Int) < (m : Int) := by omega
  have HL : Hid (∀ W, Below w.heap.size w W → W.cell? ⟨b, o, none⟩ = some (.int .u8 (x0 : Int)) ∧ W.cell? ⟨b, o + 1, none⟩ = some (.int .u8 (z : Int))) := Lib.hid fun W hW => ⟨(hW.cell (p := ⟨b, o, none⟩) (block_lt_of_cell hc0)).trans hc0, (hW.cell (p := ⟨b, o + 1, none⟩) (block_lt_of_cell hc1)).trans hc1⟩
  clear e0 e1 hl0 hl1 hr
  obtain ⟨cnt, hcnt⟩ : ∃ c, CrcM.number ((l.drop 2).take 2) = c := ⟨_, rfl⟩
  have HCN := Lib.hid hcnt
  have HCQ : Hid (cntB l = cnt) := Lib.hid (by rw [← hcnt, number_two (by omega)])
  have HCB : Hid (cnt ≤ 65535) := Lib.hid (by rw [← HCQ.out]; exact cntB_le l)
  clear hcnt
  go_enter Tryd.func21, Tryd.ntmps21
  go_upto_region 3 with fail
  refine wp_region_noPanic ?_
  refine wp_region_held_drew (S := (fun W => Below (w.heap.size) w W)) (by kernel_rfl) (Below.refl _ _).drew (fun hH0 => ?_)
  have hH0 : Below (w.heap.size) w w.drew := hH0
  generalize w.drew = wd3500 at *
  refine wpAnyH_take (i := 0) (oi := { dst := some 14, op := Op.move (Operand.tmp 0), type := 30, pos := "ref.go:334", after := #[], guard := none }) (v := ?tkv3501) rfl (by kernel_rfl) (by kernel_rfl) (by kernel_rfl) (fun _ _ _ h => h) (Or.inl ⟨by rfl, ?tky3501⟩) hH0 ?tkr3501
  case tky3501 => (intro w' hSw; clear hSw; go_simp; try with_reducible rfl)
  try simp only [Act.put, List.setIfInBounds_toArray, List.set_cons_zero, List.set_cons_succ]
  refine wpAnyH_take (i := 1) (oi := { dst := some 15, op := Op.indexAddr 30 (Operand.tmp 14) (Operand.const (Value.int IntKind.i64 0)), type := 0, pos := "ref.go:334", after := #[{ on := 0, ground := Ground.data }], guard := none }) (v := ?tkv3502) rfl (by kernel_rfl) (by kernel_rfl) (by kernel_rfl) (fun _ _ _ h => h) (Or.inl ⟨by rfl, ?tky3502⟩) hH0 ?tkr3502
  case tky3502 => (intro w' hSw; clear hSw; go_simp; try with_reducible rfl)
  try simp only [Act.put, List.setIfInBounds_toArray, List.set_cons_zero, List.set_cons_succ]
  refine wpAnyH_take (i := 2) (oi := { dst := some 16, op := Op.load 5 (Operand.tmp 15), type := 5, pos := "ref.go:334", after := #[{ on := 1, ground := Ground.data }], guard := none }) (v := ?tkv3503) rfl (by kernel_rfl) (by kernel_rfl) (by kernel_rfl) (fun _ _ _ h => h) (Or.inl ⟨by rfl, ?tky3503⟩) hH0 ?tkr3503
  case tky3503 => (intro w' hSw; have z0 := HL.out _ hSw; clear hSw; go_simp; try with_reducible rfl)
  try simp only [Act.put, List.setIfInBounds_toArray, List.set_cons_zero, List.set_cons_succ]
  refine wpAnyH_take (i := 3) (oi := { dst := some 17, op := Op.convert 5 3 (Operand.tmp 16), type := 3, pos := "ref.go:334", after := #[{ on := 2, ground := Ground.data }], guard := none }) (v := ?tkv3504) rfl (by kernel_rfl) (by kernel_rfl) (by kernel_rfl) (fun _ _ _ h => h) (Or.inl ⟨by rfl, ?tky3504⟩) hH0 ?tkr3504
  case tky3504 => (intro w' hSw; have z0 := HL.out _ hSw; clear hSw; go_simp; try with_reducible rfl)
  try simp only [Act.put, List.setIfInBounds_toArray, List.set_cons_zero, List.set_cons_succ]
  refine wpAnyH_take (i := 4) (oi := { dst := some 18, op := Op.binOp BinOp.add 3 (Operand.tmp 17) (Operand.const (Value.int IntKind.i64 1)) 3, type := 3, pos := "ref.go:334", after := #[{ on := 3, ground := Ground.data }], guard := none }) (v := ?tkv3505) rfl (by kernel_rfl) (by kernel_rfl) (by kernel_rfl) (fun _ _ _ h => h) (Or.inl ⟨by rfl, ?tky3505⟩) hH0 ?tkr3505
  case tky3505 => (intro w' hSw; clear hSw; go_simp; try with_reducible rfl)
  try simp only [Act.put, List.setIfInBounds_toArray, List.set_cons_zero, List.set_cons_succ]
  refine wpAnyH_take (i := 5) (oi := { dst := some 19, op := Op.move (Operand.tmp 0), type := 30, pos := "ref.go:334", after := #[], guard := none }) (v := ?tkv3506) rfl (by kernel_rfl) (by kernel_rfl) (by kernel_rfl) (fun _ _ _ h => h) (Or.inl ⟨by rfl, ?tky3506⟩) hH0 ?tkr3506
  case tky3506 => (intro w' hSw; clear hSw; go_simp; try with_reducible rfl)
  try simp only [Act.put, List.setIfInBounds_toArray, List.set_cons_zero, List.set_cons_succ]
  refine wpAnyH_take (i := 6) (oi := { dst := some 20, op := Op.indexAddr 30 (Operand.tmp 19) (Operand.const (Value.int IntKind.i64 1)), type := 0, pos := "ref.go:334", after := #[{ on := 5, ground := Ground.data }], guard := none }) (v := ?tkv3507) rfl (by kernel_rfl) (by kernel_rfl) (by kernel_rfl) (fun _ _ _ h => h) (Or.inl ⟨by rfl, ?tky3507⟩) hH0 ?tkr3507
  case tky3507 => (intro w' hSw; clear hSw; go_simp; try with_reducible rfl)
  try simp only [Act.put, List.setIfInBounds_toArray, List.set_cons_zero, List.set_cons_succ]
  refine wpAnyH_take (i := 7) (oi := { dst := some 21, op := Op.load 5 (Operand.tmp 20), type := 5, pos := "ref.go:334", after := #[{ on := 6, ground := Ground.data }], guard := none }) (v := ?tkv3508) rfl (by kernel_rfl) (by kernel_rfl) (by kernel_rfl) (fun _ _ _ h => h) (Or.inl ⟨by rfl, ?tky3508⟩) hH0 ?tkr3508
  case tky3508 => (intro w' hSw; have z0 := HL.out _ hSw; clear hSw; go_simp; try with_reducible rfl)
  try simp only [Act.put, List.setIfInBounds_toArray, List.set_cons_zero, List.set_cons_succ]
  refine wpAnyH_take (i := 8) (oi := { dst := some 22, op := Op.convert 5 3 (Operand.tmp 21), type := 3, pos := "ref.go:334", after := #[{ on := 7, ground := Ground.data }], guard := none }) (v := ?tkv3509) rfl (by kernel_rfl) (by kernel_rfl) (by kernel_rfl) (fun _ _ _ h => h) (Or.inl ⟨by rfl, ?tky3509⟩) hH0 ?tkr3509
  case tky3509 => (intro w' hSw; have z0 := HL.out _ hSw; clear hSw; go_simp; try with_reducible rfl)
  try simp only [Act.put, List.setIfInBounds_toArray, List.set_cons_zero, List.set_cons_succ]
  refine wpAnyH_ready (rs := [9]) (by kernel_rfl) (by simp) ?_
  refine AllReadyH.cons (o := { dst := some 23, op := Op.call { callee := Callee.value (Operand.func 9), args := #[Operand.tmp 18, Operand.tmp 22], argTypes := #[3, 3] }, type := 27, pos := "ref.go:334", after := #[{ on := 4, ground := Ground.data }, { on := 8, ground := Ground.data }], guard := none }) rfl (fun K hK => ?_) AllReadyH.nil
  go_simp
  rw [HNI.out, HZI.out]
  refine (rnewM n z wd3500 (by omega) (by omega)).mono ?_
  rintro e' wn3510 ⟨g3510, rfl, hm3510, hb3510'⟩
  have hb3510 := hb3510'.out
  have MM3510_ := Lib.hid (hm3510.out.more fun b hb => Nat.le_trans (hH0).size hb.1 : RMat wn3510 (fun b => w.heap.size ≤ b) g3510 n z [])
  clear hm3510 hb3510'
  go_simp
  have hS3510 : Below (w.heap.size) w wn3510 := (hH0).trans (hb3510.mono (hH0).size)
  refine hK.out _ _ hS3510 (fun hH3510 => ?_)
  have hH3510 : Below (w.heap.size) w wn3510 := hH3510
  clear hK K hS3510
  try simp only [Act.put, List.setIfInBounds_toArray, List.set_cons_zero, List.set_cons_succ]
  refine wpAnyH_take (i := 10) (oi := { dst := some 4, op := Op.assign (Operand.tmp 23), type := 27, pos := "ref.go:334", after := #[{ on := 9, ground := Ground.data }, { on := 9, ground := Ground.chain }, { on := 0, ground := Ground.phase }, { on := 1, ground := Ground.phase }, { on := 2, ground := Ground.phase }, { on := 3, ground := Ground.phase }, { on := 4, ground := Ground.phase }, { on := 5, ground := Ground.phase }, { on := 6, ground := Ground.phase }, { on := 7, ground := Ground.phase }, { on := 8, ground := Ground.phase }, { on := 9, ground := Ground.phase }], guard := none }) (v := ?tkv3511) rfl (by kernel_rfl) (by kernel_rfl) (by kernel_rfl) (fun _ _ _ h => h) (Or.inl ⟨by rfl, ?tky3511⟩) hH3510 ?tkr3511
  case tky3511 => (intro w' hSw; clear hSw; go_simp; try with_reducible rfl)
  try simp only [Act.put, List.setIfInBounds_toArray, List.set_cons_zero, List.set_cons_succ]
  refine wpAnyH_done (by kernel_rfl) ?_ _
  refine NoPanic.normal ?_
  have HBV := Lib.hid (hH3510)
  obtain ⟨wv, rfl⟩ : ∃ x : World, x = wn3510 := ⟨_, rfl⟩
  have HMV := Lib.hid MM3510_.out
  obtain ⟨gw, rfl⟩ : ∃ gv, gv = g3510 := ⟨_, rfl⟩
  obtain ⟨A, hA⟩ : ∃ A : Option Addr, some ⟨b, o, none⟩ = A := ⟨_, rfl⟩
  rw [hA] at HR ⊢
  clear hc0 hc1 HL hA
  have hc4 : (4 : Int) ≤ (c0 : Int) := by omega
  have hcb : (cnt : Int) ≤ 65535 := by have := HCB.out; omega
  have HNM := Lib.hid (fun A2 (c2 : Nat) (h : Row wv w.heap.size A2 2 (bv ((l.drop 2).take 2))) => r1num_any 2 w.heap.size c2 A2 ((l.drop 2).take 2) wv h (by omega))
  rw [HCN.out] at HNM
  have HR2 : Hid (Row wv w.heap.size (A.map fun x => x.add 2) 2 (bv ((l.drop 2).take 2))) := Lib.hid (by
    rw [← bv_take, ← bv_drop]
    exact (HR.out.cut (by omega)).below HBV.out)
  go_wp2_with fail
  refine (HNM.out _ _ HR2.out).mono ?_
  rintro e wx ⟨rfl, rfl⟩
  clear HNM HR2
  have HCR := HMV.out.cells
  by_cases hbig : n < cnt
  · have hbi : (n : Int) < (cnt : Int) := by omega
    have hres : RES = none := by rw [← HRES.out]; exact fromM_cnt (.inl (by rw [HCQ.out]; exact hbig)) hn2 hz1 hz2
    subst hres
    obtain ⟨hg0, hg1⟩ := HCR
    go_wp2_with fail
    go_ret2
    exact ⟨rfl, HBV⟩
  · have hbi : ¬ (n : Int) < (cnt : Int) := by omega
    obtain ⟨wd, hwd⟩ : ∃ wd, bw n = wd := ⟨_, rfl⟩
    have HWD : Hid (wd = bw n) := Lib.hid hwd.symm
    have hwi : ((n : Int) + 7) / 8 = (wd : Int) := by rw [← hwd]; unfold bw; omega
    have hwl : wd ≤ 32 := by rw [← hwd]; unfold bw; omega
    have hwli : (wd : Int) ≤ 32 := by omega
    obtain ⟨q, hq⟩ : ∃ q, wd + z = q := ⟨_, rfl⟩
    have HQ : Hid (q = wd + z) := Lib.hid hq.symm
    have hqi : (wd : Int) + (z : Int) = (q : Int) := by omega
    have hql : q ≤ 48 := by omega
    obtain ⟨T, hT⟩ : ∃ T, cnt * q = T := ⟨_, rfl⟩
    have HTT := Lib.hid hT
    have hTi : (cnt : Int) * (q : Int) = (T : Int) := by rw [← hT, Int.natCast_mul]
    have hTl : T ≤ 256 * 48 := by rw [← hT]; exact Nat.mul_le_mul (by omega) hql
    have hTli : (T : Int) ≤ 12288 := by omega
    have hqli : (q : Int) ≤ 48 := by omega
    obtain ⟨hg0, hg1⟩ := HCR
    have hni : (n : Int) ≤ 256 := by omega
    have hzi : (z : Int) ≤ 16 := by omega
    clear hT hq hwd
    by_cases hml : m = 4 + T
    · have hne : ((m : Int) != (4 : Int) + (T : Int)) = false := by simp; omega
      have HLM := Lib.hid hlm
      have HML := Lib.hid hml
      have hmc : (m : Int) ≤ (c0 : Int) := by omega
      have hlm0 := hlm
      clear hml hlm
      have HI0 := Lib.hid (Inv.start n z)
      have HM0 : Hid (RMat wv (fun b => w.heap.size ≤ b) gw n z (rowsTo (List.replicate n none) n)) := Lib.hid (by rw [rowsTo_start]; exact HMV.out)
      have HB0 := HBV
      obtain ⟨RES0, hR0⟩ : ∃ R, addAllM n z l.length (List.replicate n none) (l.drop 4) = R := ⟨_, rfl⟩
      have HFN : Hid (RES0 = none → RES = none) := Lib.hid fun h => by rw [← HRES.out]; unfold fromM; rw [hR0, h]
      have HFS : Hid (∀ M, RES0 = some M → RES = if bytesM n z M = l then some M else none) := Lib.hid fun M h => by rw [← HRES.out]; unfold fromM; rw [hR0, h]
      have HF0 : Hid (∀ f, (l.drop (4 + 0 * q)).length ≤ f → addAllM n z f (List.replicate n none) (l.drop (4 + 0 * q)) = RES0) := Lib.hid fun f hf => by
        rw [Nat.zero_mul, Nat.add_zero] at hf ⊢
        rw [← hR0]
        exact addAll_fuel n z hz1 _ _ _ _ hf (by rw [List.length_drop]; omega)
      clear hR0 hlm0
      go_wp2_with fail
      clear hg0 hg1
      try simp only [hwi]
      clear hwi
      go_loopw [57] (fun x wr => ∃ (k : Nat) (M' : Mx), k ≤ cnt ∧ x = .int .i64 (k : Int) ∧ Hid (Inv n z M') ∧ Hid (RMat wr (fun b => w.heap.size ≤ b) gw n z (rowsTo M' n)) ∧ Hid (Below w.heap.size w wr) ∧ Hid (∀ f, (l.drop (4 + k * q)).length ≤ f → addAllM n z f M' (l.drop (4 + k * q)) = RES0)) (fun x _ => cnt - (intOf x).toNat)
      case atStart => exact ⟨0, List.replicate n none, by omega, rfl, HI0, HM0, HB0, HF0⟩
      case round =>
        obtain ⟨k, M', hk, rfl, HI2, HM2, HBK, HFA⟩ := hrel
        clear HI0 HM0 HB0 HF0
        by_cases hlt : k < cnt
        · have hki : (k : Int) < (cnt : Int) := by omega
          have hcni : (cnt : Int) ≤ 256 := by omega
          obtain ⟨kq, hkq⟩ : ∃ x, k * q = x := ⟨_, rfl⟩
          have hkqi : (k : Int) * (q : Int) = (kq : Int) := by rw [← hkq, Int.natCast_mul]
          have hkl : kq + q ≤ T := by rw [← hkq, ← HTT.out, show k * q + q = (k + 1) * q by rw [Nat.add_mul, Nat.one_mul]]; exact Nat.mul_le_mul_right _ hlt
          obtain ⟨at4, hat⟩ : ∃ x, 4 + kq = x := ⟨_, rfl⟩
          have hati : (4 : Int) + (kq : Int) = (at4 : Int) := by omega
          have HAT : Hid (4 + k * q = at4) := Lib.hid (by rw [hkq]; exact hat)
          have hal : at4 + wd + z ≤ m := by have := HML.out; omega
          obtain ⟨aw, haw⟩ : ∃ x, at4 + wd = x := ⟨_, rfl⟩
          obtain ⟨az, haz⟩ : ∃ x, aw + z = x := ⟨_, rfl⟩
          have hawi : (at4 : Int) + (wd : Int) = (aw : Int) := by omega
          have hazi : (aw : Int) + (z : Int) = (az : Int) := by omega
          have hne4 : ¬ c0 = at4 := by omega
          have hne5 : ¬ c0 = aw := by omega
          have hs1 : aw - at4 = wd := by omega
          have hs2 : az - aw = z := by omega
          have hle1 : at4 ≤ aw := by omega
          have hle2 : aw ≤ az := by omega
          have hle3 : (aw : Int) ≤ (c0 : Int) := by omega
          have hle4 : (az : Int) ≤ (c0 : Int) := by omega
          have HAW := Lib.hid haw
          have hle5 : (aw : Int) ≤ 12600 := by omega
          have hwra : IntKind.i64.wrap (aw : Int) = (aw : Int) := IntWalk.i64_in _ (by omega)
          have hle6 : (az : Int) ≤ 12700 := by omega
          have hali3 : (at4 : Int) ≤ 12500 := by omega
          have hali4 : (at4 : Int) < (c0 : Int) := by omega
          have hkq3 : (kq : Int) ≤ 12500 := by omega
          have HDL : Hid ((l.drop at4).length = m - at4) := Lib.hid (by rw [List.length_drop, HLM.out])
          rw [HAT.out] at HFA
          have HRC : Hid (Row w w.heap.size (A.map fun x => x.add at4) wd (bv ((l.drop at4).take wd))) := Lib.hid (by
            rw [← bv_take, ← bv_drop]
            exact HR.out.cut (by omega))
          have HCG : Hid (∀ W, Below wr.heap.size wr W → W.cell? ⟨gw, 0, none⟩ = some (.int .i64 (n : Int)) ∧ W.cell? ⟨gw, 1, none⟩ = some (.int .i64 (z : Int))) := Lib.hid fun W hW => (HM2.out.below hW).cells
          obtain ⟨hg0, hg1⟩ := HM2.out.cells
          clear hkq hat haw haz
          go_upto_region 14 with fail
          clear hg0 hg1
          by_cases hft : fits n ((l.drop at4).take wd)
          · have HFT := Lib.hid hft
            clear hft
            refine wp_region_noPanic ?_
            refine wp_region_held_drew (S := (fun W => Below (wr.heap.size) wr W)) (by kernel_rfl) (Below.refl _ _).drew (fun hH0 => ?_)
            have hH0 : Below (wr.heap.size) wr wr.drew := hH0
            generalize wr.drew = wd4000 at *
            refine wpAnyH_take (i := 0) (oi := { dst := some 70, op := Op.move (Operand.tmp 4), type := 27, pos := "ref.go:345", after := #[], guard := none }) (v := ?tkv4001) rfl (by kernel_rfl) (by kernel_rfl) (by kernel_rfl) (fun _ _ _ h => h) (Or.inl ⟨by rfl, ?tky4001⟩) hH0 ?tkr4001
            case tky4001 => (intro w' hSw; clear hSw; go_simp; try with_reducible rfl)
            try simp only [Act.put, List.setIfInBounds_toArray, List.set_cons_zero, List.set_cons_succ]
            refine wpAnyH_take (i := 1) (oi := { dst := some 71, op := Op.nilCheck (Operand.tmp 70), type := 0, pos := "ref.go:345", after := #[{ on := 0, ground := Ground.data }], guard := none }) (v := ?tkv4002) rfl (by kernel_rfl) (by kernel_rfl) (by kernel_rfl) (fun _ _ _ h => h) (Or.inl ⟨by rfl, ?tky4002⟩) hH0 ?tkr4002
            case tky4002 => (intro w' hSw; clear hSw; go_simp; try with_reducible rfl)
            try simp only [Act.put, List.setIfInBounds_toArray, List.set_cons_zero, List.set_cons_succ]
            refine wpAnyH_take (i := 2) (oi := { dst := some 72, op := Op.fieldAddr 47 (Operand.tmp 71) 0, type := 0, pos := "ref.go:345", after := #[{ on := 1, ground := Ground.data }], guard := none }) (v := ?tkv4003) rfl (by kernel_rfl) (by kernel_rfl) (by kernel_rfl) (fun _ _ _ h => h) (Or.inl ⟨by rfl, ?tky4003⟩) hH0 ?tkr4003
            case tky4003 => (intro w' hSw; clear hSw; go_simp; try with_reducible rfl)
            try simp only [Act.put, List.setIfInBounds_toArray, List.set_cons_zero, List.set_cons_succ]
            refine wpAnyH_take (i := 3) (oi := { dst := some 73, op := Op.load 3 (Operand.tmp 72), type := 3, pos := "ref.go:345", after := #[{ on := 2, ground := Ground.data }], guard := none }) (v := ?tkv4004) rfl (by kernel_rfl) (by kernel_rfl) (by kernel_rfl) (fun _ _ _ h => h) (Or.inl ⟨by rfl, ?tky4004⟩) hH0 ?tkr4004
            case tky4004 => (intro w' hSw; have z0 := HCG.out _ hSw; clear hSw; go_simp; try with_reducible rfl)
            try simp only [Act.put, List.setIfInBounds_toArray, List.set_cons_zero, List.set_cons_succ]
            refine wpAnyH_take (i := 4) (oi := { dst := some 74, op := Op.move (Operand.tmp 0), type := 30, pos := "ref.go:345", after := #[], guard := none }) (v := ?tkv4005) rfl (by kernel_rfl) (by kernel_rfl) (by kernel_rfl) (fun _ _ _ h => h) (Or.inl ⟨by rfl, ?tky4005⟩) hH0 ?tkr4005
            case tky4005 => (intro w' hSw; clear hSw; go_simp; try with_reducible rfl)
            try simp only [Act.put, List.setIfInBounds_toArray, List.set_cons_zero, List.set_cons_succ]
            refine wpAnyH_take (i := 5) (oi := { dst := some 75, op := Op.move (Operand.tmp 8), type := 3, pos := "ref.go:345", after := #[], guard := none }) (v := ?tkv4006) rfl (by kernel_rfl) (by kernel_rfl) (by kernel_rfl) (fun _ _ _ h => h) (Or.inl ⟨by rfl, ?tky4006⟩) hH0 ?tkr4006
            case tky4006 => (intro w' hSw; clear hSw; go_simp; try with_reducible rfl)
            try simp only [Act.put, List.setIfInBounds_toArray, List.set_cons_zero, List.set_cons_succ]
            refine wpAnyH_take (i := 6) (oi := { dst := some 76, op := Op.move (Operand.tmp 8), type := 3, pos := "ref.go:345", after := #[], guard := none }) (v := ?tkv4007) rfl (by kernel_rfl) (by kernel_rfl) (by kernel_rfl) (fun _ _ _ h => h) (Or.inl ⟨by rfl, ?tky4007⟩) hH0 ?tkr4007
            case tky4007 => (intro w' hSw; clear hSw; go_simp; try with_reducible rfl)
            try simp only [Act.put, List.setIfInBounds_toArray, List.set_cons_zero, List.set_cons_succ]
            refine wpAnyH_take (i := 7) (oi := { dst := some 77, op := Op.move (Operand.tmp 6), type := 3, pos := "ref.go:345", after := #[], guard := none }) (v := ?tkv4008) rfl (by kernel_rfl) (by kernel_rfl) (by kernel_rfl) (fun _ _ _ h => h) (Or.inl ⟨by rfl, ?tky4008⟩) hH0 ?tkr4008
            case tky4008 => (intro w' hSw; clear hSw; go_simp; try with_reducible rfl)
            try simp only [Act.put, List.setIfInBounds_toArray, List.set_cons_zero, List.set_cons_succ]
            refine wpAnyH_take (i := 8) (oi := { dst := some 78, op := Op.binOp BinOp.add 3 (Operand.tmp 76) (Operand.tmp 77) 3, type := 3, pos := "ref.go:345", after := #[{ on := 6, ground := Ground.data }, { on := 7, ground := Ground.data }], guard := none }) (v := ?tkv4009) rfl (by kernel_rfl) (by kernel_rfl) (by kernel_rfl) (fun _ _ _ h => h) (Or.inl ⟨by rfl, ?tky4009⟩) hH0 ?tkr4009
            case tky4009 => (intro w' hSw; clear hSw; go_simp; try with_reducible rfl)
            try simp only [Act.put, List.setIfInBounds_toArray, List.set_cons_zero, List.set_cons_succ]
            refine wpAnyH_take (i := 9) (oi := { dst := some 79, op := Op.slice 30 (Operand.tmp 74) (some (Operand.tmp 75)) (some (Operand.tmp 78)) none, type := 30, pos := "ref.go:345", after := #[{ on := 4, ground := Ground.data }, { on := 5, ground := Ground.data }, { on := 8, ground := Ground.data }], guard := none }) (v := ?tkv4010) rfl (by kernel_rfl) (by kernel_rfl) (by kernel_rfl) (fun _ _ _ h => h) (Or.inl ⟨by rfl, ?tky4010⟩) hH0 ?tkr4010
            case tky4010 => (intro w' hSw; have z0 := HCG.out _ hSw; clear hSw; go_simp; try with_reducible rfl)
            try simp only [Act.put, List.setIfInBounds_toArray, List.set_cons_zero, List.set_cons_succ]
            refine wpAnyH_ready (rs := [10]) (by kernel_rfl) (by simp) ?_
            refine AllReadyH.cons (o := { dst := some 80, op := Op.call { callee := Callee.value (Operand.func 50), args := #[Operand.tmp 73, Operand.tmp 79], argTypes := #[3, 30] }, type := 96, pos := "ref.go:345", after := #[{ on := 3, ground := Ground.data }, { on := 9, ground := Ground.data }], guard := none }) rfl (fun K hK => ?_) AllReadyH.nil
            go_simp
            refine (unpack_yes n _ wd _ _ ((l.drop at4).take wd) wd4000 (HRC.out.below (HBK.out.trans ((hH0).mono HBK.out.size))) (Nat.le_trans HBK.out.size (hH0).size) (by omega) HFT.out).mono ?_
            rintro e' wn4011 ⟨g4011, rfl, ho4011, hb4011'⟩
            have hb4011 := hb4011'.out
            have VE4011_ := Lib.hid (show RowU (some ⟨g4011, 0, none⟩) n (vb (frN ((l.drop at4).take wd) (bw n)) n) wn4011 from Row.of_own ho4011.out)
            clear hb4011' ho4011
            go_simp
            have hS4011 : Below (wr.heap.size) wr wn4011 := (hH0).trans (hb4011.mono (hH0).size)
            refine hK.out _ _ hS4011 (fun hH4011 => ?_)
            have hH4011 : Below (wr.heap.size) wr wn4011 := hH4011
            clear hK K hS4011
            try simp only [Act.put, List.setIfInBounds_toArray, List.set_cons_zero, List.set_cons_succ]
            refine wpAnyH_take (i := 11) (oi := { dst := some 69, op := Op.move (Operand.tmp 80), type := 96, pos := "ref.go:345", after := #[{ on := 10, ground := Ground.data }], guard := none }) (v := ?tkv4012) rfl (by kernel_rfl) (by kernel_rfl) (by kernel_rfl) (fun _ _ _ h => h) (Or.inl ⟨by rfl, ?tky4012⟩) hH4011 ?tkr4012
            case tky4012 => (intro w' hSw; clear hSw; go_simp; try with_reducible rfl)
            try simp only [Act.put, List.setIfInBounds_toArray, List.set_cons_zero, List.set_cons_succ]
            refine wpAnyH_take (i := 12) (oi := { dst := some 81, op := Op.extract (Operand.tmp 69) 0, type := 35, pos := "ref.go:345", after := #[{ on := 11, ground := Ground.data }], guard := none }) (v := ?tkv4013) rfl (by kernel_rfl) (by kernel_rfl) (by kernel_rfl) (fun _ _ _ h => h) (Or.inl ⟨by rfl, ?tky4013⟩) hH4011 ?tkr4013
            case tky4013 => (intro w' hSw; clear hSw; go_simp; try with_reducible rfl)
            try simp only [Act.put, List.setIfInBounds_toArray, List.set_cons_zero, List.set_cons_succ]
            refine wpAnyH_take (i := 13) (oi := { dst := some 82, op := Op.extract (Operand.tmp 69) 1, type := 4, pos := "ref.go:345", after := #[{ on := 11, ground := Ground.data }, { on := 14, ground := Ground.gcOnly Departure.lateStores }], guard := none }) (v := ?tkv4014) rfl (by kernel_rfl) (by kernel_rfl) (by kernel_rfl) (fun _ _ _ h => h) (Or.inl ⟨by rfl, ?tky4014⟩) hH4011 ?tkr4014
            case tky4014 => (intro w' hSw; clear hSw; go_simp; try with_reducible rfl)
            try simp only [Act.put, List.setIfInBounds_toArray, List.set_cons_zero, List.set_cons_succ]
            refine wpAnyH_take (i := 14) (oi := { dst := some 9, op := Op.assign (Operand.tmp 81), type := 35, pos := "ref.go:345", after := #[{ on := 12, ground := Ground.data }, { on := 10, ground := Ground.chain }, { on := 0, ground := Ground.phase }, { on := 1, ground := Ground.phase }, { on := 2, ground := Ground.phase }, { on := 3, ground := Ground.phase }, { on := 4, ground := Ground.phase }, { on := 5, ground := Ground.phase }, { on := 6, ground := Ground.phase }, { on := 7, ground := Ground.phase }, { on := 8, ground := Ground.phase }, { on := 9, ground := Ground.phase }, { on := 10, ground := Ground.phase }, { on := 11, ground := Ground.phase }, { on := 12, ground := Ground.phase }, { on := 13, ground := Ground.textOnly Departure.lateStores }], guard := none }) (v := ?tkv4015) rfl (by kernel_rfl) (by kernel_rfl) (by kernel_rfl) (fun _ _ _ h => h) (Or.inl ⟨by rfl, ?tky4015⟩) hH4011 ?tkr4015
            case tky4015 => (intro w' hSw; clear hSw; go_simp; try with_reducible rfl)
            try simp only [Act.put, List.setIfInBounds_toArray, List.set_cons_zero, List.set_cons_succ]
            refine wpAnyH_take (i := 15) (oi := { dst := some 10, op := Op.assign (Operand.tmp 82), type := 4, pos := "ref.go:345", after := #[{ on := 13, ground := Ground.data }, { on := 14, ground := Ground.chain }, { on := 0, ground := Ground.phase }, { on := 1, ground := Ground.phase }, { on := 2, ground := Ground.phase }, { on := 3, ground := Ground.phase }, { on := 4, ground := Ground.phase }, { on := 5, ground := Ground.phase }, { on := 6, ground := Ground.phase }, { on := 7, ground := Ground.phase }, { on := 8, ground := Ground.phase }, { on := 9, ground := Ground.phase }, { on := 10, ground := Ground.phase }, { on := 11, ground := Ground.phase }, { on := 12, ground := Ground.phase }, { on := 13, ground := Ground.phase }, { on := 14, ground := Ground.phase }], guard := none }) (v := ?tkv4016) rfl (by kernel_rfl) (by kernel_rfl) (by kernel_rfl) (fun _ _ _ h => h) (Or.inl ⟨by rfl, ?tky4016⟩) hH4011 ?tkr4016
            case tky4016 => (intro w' hSw; clear hSw; go_simp; try with_reducible rfl)
            try simp only [Act.put, List.setIfInBounds_toArray, List.set_cons_zero, List.set_cons_succ]
            refine wpAnyH_done (by kernel_rfl) ?_ _
            refine NoPanic.normal ?_
            have HBU := Lib.hid (hH4011)
            obtain ⟨wu, rfl⟩ : ∃ x : World, x = wn4011 := ⟨_, rfl⟩
            have HVU := Lib.hid VE4011_.out
            obtain ⟨gu, rfl⟩ : ∃ gv, gv = g4011 := ⟨_, rfl⟩
            have HMU := Lib.hid (HM2.out.below HBU.out)
            have HBK2 := Lib.hid (HBK.out.trans (HBU.out.mono HBK.out.size))
            obtain ⟨hg0, hg1⟩ := HCG.out wu HBU.out
            have HRD : Hid (Row wu wu.heap.size (A.map fun x => x.add aw) z (bv ((l.drop aw).take z))) := Lib.hid (by
              rw [← bv_take, ← bv_drop]
              exact ((HR.out.cut (by have := HAW.out; omega)).below HBK2.out).more HBK2.out.size)
            have HXL : Hid (frN ((l.drop at4).take wd) (bw n) < 2 ^ n) := Lib.hid (frN_lt HFT.out _ (Nat.le_refl _))
            have HAD := Lib.hid (raddI (c := n) (cd := c0 - aw) HMU.out HI2.out HVU.out HRD.out HXL.out)
            have HIA := Lib.hid (addMx_inv (M := M') HI2.out hn2 HXL.out HRD.out.blen)
            have HOLD := Lib.hid (addAll_old n z ((l.drop at4).length - 1) M' (b := l.drop at4) (by rw [HDL.out]; omega) (by rw [HDL.out, ← HWD.out]; omega) (by rw [← HWD.out]; exact HFT.out))
            have HNEW := Lib.hid (addAll_new n z ((l.drop at4).length - 1) M' (b := l.drop at4) (by rw [HDL.out]; omega) (by rw [HDL.out, ← HWD.out]; omega) (by rw [← HWD.out]; exact HFT.out))
            rw [← HWD.out, List.drop_drop, HAW.out] at HOLD HNEW
            rw [← HWD.out] at HAD HIA
            have HFL := Lib.hid (HFA.out ((l.drop at4).length - 1 + 1) (by omega))
            generalize addMx n M' (frN ((l.drop at4).take wd) wd) ((l.drop aw).take z) = RR at *
            obtain ⟨M2, b2⟩ := RR
            have HGB : Hid (∀ w9 : World, Fr wu w9 (fun b => w.heap.size ≤ b) → Below w.heap.size w w9) := Lib.hid fun w9 h => HBK2.out.trans (h.below (fun _ h => h) HBK2.out.size)
            cases b2 with
            | false =>
              have hres : RES0 = none := by rw [← HFL.out]; exact HOLD.out rfl
              have hres2 := HFN.out hres
              subst hres2
              clear HNEW HOLD
              go_wp2_with fail
              refine HAD.out.mono ?_
              rintro e w9 ⟨rfl, _, hf9⟩
              have HB9 := Lib.hid (HGB.out w9 hf9.out)
              clear hf9 hg0 hg1
              go_wp2_with fail
              go_ret2
              exact ⟨rfl, HB9⟩
            | true =>
              have HE2 : Hid (addAllM n z ((l.drop at4).length - 1) M2 (l.drop (at4 + (wd + z))) = RES0) := Lib.hid (by
                rw [← HFL.out, HNEW.out rfl, List.drop_drop, HWD.out])
              clear HNEW HOLD
              go_wp2_with fail
              refine HAD.out.mono ?_
              rintro e w9 ⟨rfl, hm9, hf9⟩
              have HB9 := Lib.hid (HGB.out w9 hf9.out)
              have HM9 : Hid (RMat w9 (fun b => w.heap.size ≤ b) gw n z (rowsTo M2 n)) := Lib.hid (hm9.out.more fun b hb => hb.elim id fun h => Nat.le_trans HBK2.out.size h.1)
              have HFA2 : Hid (∀ f, (l.drop (4 + (k + 1) * q)).length ≤ f → addAllM n z f M2 (l.drop (4 + (k + 1) * q)) = RES0) := Lib.hid fun f hf => by
                have e1 : 4 + (k + 1) * q = at4 + (wd + z) := by rw [Nat.add_mul, Nat.one_mul, ← HAT.out, HQ.out]; omega
                rw [e1] at hf ⊢
                rw [← HE2.out]
                refine addAll_fuel n z hz1 _ _ _ _ hf ?_
                have h1 := HDL.out
                have h9 : (l.drop (at4 + (wd + z))).length = m - (at4 + (wd + z)) := by rw [List.length_drop, HLM.out]
                rw [h9, h1]
                omega
              clear hm9 hf9 hg0 hg1
              go_wp2_with fail
              go_roundw
              case rel => exact ⟨k + 1, M2, by omega, by go_num, HIA, HM9, HB9, HFA2⟩
              case measure => simp [intOf]; omega
          · have HFT := Lib.hid hft
            have hres : RES = none := HFN.out (by
              have h1 := HFA.out ((l.drop at4).length - 1 + 1) (by omega)
              rw [← h1]
              exact addAll_unfit n z _ M' (by rw [HDL.out]; omega) (by rw [HDL.out, ← HWD.out]; omega) (by rw [← HWD.out]; exact hft))
            subst hres
            clear hft
            refine wp_region_noPanic ?_
            refine wp_region_held_drew (S := (fun W => Below (wr.heap.size) wr W)) (by kernel_rfl) (Below.refl _ _).drew (fun hH0 => ?_)
            have hH0 : Below (wr.heap.size) wr wr.drew := hH0
            generalize wr.drew = wd5000 at *
            refine wpAnyH_take (i := 0) (oi := { dst := some 70, op := Op.move (Operand.tmp 4), type := 27, pos := "ref.go:345", after := #[], guard := none }) (v := ?tkv5001) rfl (by kernel_rfl) (by kernel_rfl) (by kernel_rfl) (fun _ _ _ h => h) (Or.inl ⟨by rfl, ?tky5001⟩) hH0 ?tkr5001
            case tky5001 => (intro w' hSw; clear hSw; go_simp; try with_reducible rfl)
            try simp only [Act.put, List.setIfInBounds_toArray, List.set_cons_zero, List.set_cons_succ]
            refine wpAnyH_take (i := 1) (oi := { dst := some 71, op := Op.nilCheck (Operand.tmp 70), type := 0, pos := "ref.go:345", after := #[{ on := 0, ground := Ground.data }], guard := none }) (v := ?tkv5002) rfl (by kernel_rfl) (by kernel_rfl) (by kernel_rfl) (fun _ _ _ h => h) (Or.inl ⟨by rfl, ?tky5002⟩) hH0 ?tkr5002
            case tky5002 => (intro w' hSw; clear hSw; go_simp; try with_reducible rfl)
            try simp only [Act.put, List.setIfInBounds_toArray, List.set_cons_zero, List.set_cons_succ]
            refine wpAnyH_take (i := 2) (oi := { dst := some 72, op := Op.fieldAddr 47 (Operand.tmp 71) 0, type := 0, pos := "ref.go:345", after := #[{ on := 1, ground := Ground.data }], guard := none }) (v := ?tkv5003) rfl (by kernel_rfl) (by kernel_rfl) (by kernel_rfl) (fun _ _ _ h => h) (Or.inl ⟨by rfl, ?tky5003⟩) hH0 ?tkr5003
            case tky5003 => (intro w' hSw; clear hSw; go_simp; try with_reducible rfl)
            try simp only [Act.put, List.setIfInBounds_toArray, List.set_cons_zero, List.set_cons_succ]
            refine wpAnyH_take (i := 3) (oi := { dst := some 73, op := Op.load 3 (Operand.tmp 72), type := 3, pos := "ref.go:345", after := #[{ on := 2, ground := Ground.data }], guard := none }) (v := ?tkv5004) rfl (by kernel_rfl) (by kernel_rfl) (by kernel_rfl) (fun _ _ _ h => h) (Or.inl ⟨by rfl, ?tky5004⟩) hH0 ?tkr5004
            case tky5004 => (intro w' hSw; have z0 := HCG.out _ hSw; clear hSw; go_simp; try with_reducible rfl)
            try simp only [Act.put, List.setIfInBounds_toArray, List.set_cons_zero, List.set_cons_succ]
            refine wpAnyH_take (i := 4) (oi := { dst := some 74, op := Op.move (Operand.tmp 0), type := 30, pos := "ref.go:345", after := #[], guard := none }) (v := ?tkv5005) rfl (by kernel_rfl) (by kernel_rfl) (by kernel_rfl) (fun _ _ _ h => h) (Or.inl ⟨by rfl, ?tky5005⟩) hH0 ?tkr5005
            case tky5005 => (intro w' hSw; clear hSw; go_simp; try with_reducible rfl)
            try simp only [Act.put, List.setIfInBounds_toArray, List.set_cons_zero, List.set_cons_succ]
            refine wpAnyH_take (i := 5) (oi := { dst := some 75, op := Op.move (Operand.tmp 8), type := 3, pos := "ref.go:345", after := #[], guard := none }) (v := ?tkv5006) rfl (by kernel_rfl) (by kernel_rfl) (by kernel_rfl) (fun _ _ _ h => h) (Or.inl ⟨by rfl, ?tky5006⟩) hH0 ?tkr5006
            case tky5006 => (intro w' hSw; clear hSw; go_simp; try with_reducible rfl)
            try simp only [Act.put, List.setIfInBounds_toArray, List.set_cons_zero, List.set_cons_succ]
            refine wpAnyH_take (i := 6) (oi := { dst := some 76, op := Op.move (Operand.tmp 8), type := 3, pos := "ref.go:345", after := #[], guard := none }) (v := ?tkv5007) rfl (by kernel_rfl) (by kernel_rfl) (by kernel_rfl) (fun _ _ _ h => h) (Or.inl ⟨by rfl, ?tky5007⟩) hH0 ?tkr5007
            case tky5007 => (intro w' hSw; clear hSw; go_simp; try with_reducible rfl)
            try simp only [Act.put, List.setIfInBounds_toArray, List.set_cons_zero, List.set_cons_succ]
            refine wpAnyH_take (i := 7) (oi := { dst := some 77, op := Op.move (Operand.tmp 6), type := 3, pos := "ref.go:345", after := #[], guard := none }) (v := ?tkv5008) rfl (by kernel_rfl) (by kernel_rfl) (by kernel_rfl) (fun _ _ _ h => h) (Or.inl ⟨by rfl, ?tky5008⟩) hH0 ?tkr5008
            case tky5008 => (intro w' hSw; clear hSw; go_simp; try with_reducible rfl)
            try simp only [Act.put, List.setIfInBounds_toArray, List.set_cons_zero, List.set_cons_succ]
            refine wpAnyH_take (i := 8) (oi := { dst := some 78, op := Op.binOp BinOp.add 3 (Operand.tmp 76) (Operand.tmp 77) 3, type := 3, pos := "ref.go:345", after := #[{ on := 6, ground := Ground.data }, { on := 7, ground := Ground.data }], guard := none }) (v := ?tkv5009) rfl (by kernel_rfl) (by kernel_rfl) (by kernel_rfl) (fun _ _ _ h => h) (Or.inl ⟨by rfl, ?tky5009⟩) hH0 ?tkr5009
            case tky5009 => (intro w' hSw; clear hSw; go_simp; try with_reducible rfl)
            try simp only [Act.put, List.setIfInBounds_toArray, List.set_cons_zero, List.set_cons_succ]
            refine wpAnyH_take (i := 9) (oi := { dst := some 79, op := Op.slice 30 (Operand.tmp 74) (some (Operand.tmp 75)) (some (Operand.tmp 78)) none, type := 30, pos := "ref.go:345", after := #[{ on := 4, ground := Ground.data }, { on := 5, ground := Ground.data }, { on := 8, ground := Ground.data }], guard := none }) (v := ?tkv5010) rfl (by kernel_rfl) (by kernel_rfl) (by kernel_rfl) (fun _ _ _ h => h) (Or.inl ⟨by rfl, ?tky5010⟩) hH0 ?tkr5010
            case tky5010 => (intro w' hSw; have z0 := HCG.out _ hSw; clear hSw; go_simp; try with_reducible rfl)
            try simp only [Act.put, List.setIfInBounds_toArray, List.set_cons_zero, List.set_cons_succ]
            refine wpAnyH_ready (rs := [10]) (by kernel_rfl) (by simp) ?_
            refine AllReadyH.cons (o := { dst := some 80, op := Op.call { callee := Callee.value (Operand.func 50), args := #[Operand.tmp 73, Operand.tmp 79], argTypes := #[3, 30] }, type := 96, pos := "ref.go:345", after := #[{ on := 3, ground := Ground.data }, { on := 9, ground := Ground.data }], guard := none }) rfl (fun K hK => ?_) AllReadyH.nil
            go_simp
            refine (unpack_no n _ wd _ _ ((l.drop at4).take wd) wd5000 (HRC.out.below (HBK.out.trans ((hH0).mono HBK.out.size))) (Nat.le_trans HBK.out.size (hH0).size) (by omega) HFT.out).mono ?_
            rintro e' wn5011 ⟨rfl, hb5011'⟩
            have hb5011 := hb5011'.out
            clear hb5011'
            go_simp
            have hS5011 : Below (wr.heap.size) wr wn5011 := (hH0).trans (hb5011.mono (hH0).size)
            refine hK.out _ _ hS5011 (fun hH5011 => ?_)
            have hH5011 : Below (wr.heap.size) wr wn5011 := hH5011
            clear hK K hS5011
            try simp only [Act.put, List.setIfInBounds_toArray, List.set_cons_zero, List.set_cons_succ]
            refine wpAnyH_take (i := 11) (oi := { dst := some 69, op := Op.move (Operand.tmp 80), type := 96, pos := "ref.go:345", after := #[{ on := 10, ground := Ground.data }], guard := none }) (v := ?tkv5012) rfl (by kernel_rfl) (by kernel_rfl) (by kernel_rfl) (fun _ _ _ h => h) (Or.inl ⟨by rfl, ?tky5012⟩) hH5011 ?tkr5012
            case tky5012 => (intro w' hSw; clear hSw; go_simp; try with_reducible rfl)
            try simp only [Act.put, List.setIfInBounds_toArray, List.set_cons_zero, List.set_cons_succ]
            refine wpAnyH_take (i := 12) (oi := { dst := some 81, op := Op.extract (Operand.tmp 69) 0, type := 35, pos := "ref.go:345", after := #[{ on := 11, ground := Ground.data }], guard := none }) (v := ?tkv5013) rfl (by kernel_rfl) (by kernel_rfl) (by kernel_rfl) (fun _ _ _ h => h) (Or.inl ⟨by rfl, ?tky5013⟩) hH5011 ?tkr5013
            case tky5013 => (intro w' hSw; clear hSw; go_simp; try with_reducible rfl)
            try simp only [Act.put, List.setIfInBounds_toArray, List.set_cons_zero, List.set_cons_succ]
            refine wpAnyH_take (i := 13) (oi := { dst := some 82, op := Op.extract (Operand.tmp 69) 1, type := 4, pos := "ref.go:345", after := #[{ on := 11, ground := Ground.data }, { on := 14, ground := Ground.gcOnly Departure.lateStores }], guard := none }) (v := ?tkv5014) rfl (by kernel_rfl) (by kernel_rfl) (by kernel_rfl) (fun _ _ _ h => h) (Or.inl ⟨by rfl, ?tky5014⟩) hH5011 ?tkr5014
            case tky5014 => (intro w' hSw; clear hSw; go_simp; try with_reducible rfl)
            try simp only [Act.put, List.setIfInBounds_toArray, List.set_cons_zero, List.set_cons_succ]
            refine wpAnyH_take (i := 14) (oi := { dst := some 9, op := Op.assign (Operand.tmp 81), type := 35, pos := "ref.go:345", after := #[{ on := 12, ground := Ground.data }, { on := 10, ground := Ground.chain }, { on := 0, ground := Ground.phase }, { on := 1, ground := Ground.phase }, { on := 2, ground := Ground.phase }, { on := 3, ground := Ground.phase }, { on := 4, ground := Ground.phase }, { on := 5, ground := Ground.phase }, { on := 6, ground := Ground.phase }, { on := 7, ground := Ground.phase }, { on := 8, ground := Ground.phase }, { on := 9, ground := Ground.phase }, { on := 10, ground := Ground.phase }, { on := 11, ground := Ground.phase }, { on := 12, ground := Ground.phase }, { on := 13, ground := Ground.textOnly Departure.lateStores }], guard := none }) (v := ?tkv5015) rfl (by kernel_rfl) (by kernel_rfl) (by kernel_rfl) (fun _ _ _ h => h) (Or.inl ⟨by rfl, ?tky5015⟩) hH5011 ?tkr5015
            case tky5015 => (intro w' hSw; clear hSw; go_simp; try with_reducible rfl)
            try simp only [Act.put, List.setIfInBounds_toArray, List.set_cons_zero, List.set_cons_succ]
            refine wpAnyH_take (i := 15) (oi := { dst := some 10, op := Op.assign (Operand.tmp 82), type := 4, pos := "ref.go:345", after := #[{ on := 13, ground := Ground.data }, { on := 14, ground := Ground.chain }, { on := 0, ground := Ground.phase }, { on := 1, ground := Ground.phase }, { on := 2, ground := Ground.phase }, { on := 3, ground := Ground.phase }, { on := 4, ground := Ground.phase }, { on := 5, ground := Ground.phase }, { on := 6, ground := Ground.phase }, { on := 7, ground := Ground.phase }, { on := 8, ground := Ground.phase }, { on := 9, ground := Ground.phase }, { on := 10, ground := Ground.phase }, { on := 11, ground := Ground.phase }, { on := 12, ground := Ground.phase }, { on := 13, ground := Ground.phase }, { on := 14, ground := Ground.phase }], guard := none }) (v := ?tkv5016) rfl (by kernel_rfl) (by kernel_rfl) (by kernel_rfl) (fun _ _ _ h => h) (Or.inl ⟨by rfl, ?tky5016⟩) hH5011 ?tkr5016
            case tky5016 => (intro w' hSw; clear hSw; go_simp; try with_reducible rfl)
            try simp only [Act.put, List.setIfInBounds_toArray, List.set_cons_zero, List.set_cons_succ]
            refine wpAnyH_done (by kernel_rfl) ?_ _
            refine NoPanic.normal ?_
            have HBF := Lib.hid (HBK.out.trans ((hH5011).mono HBK.out.size))
            go_wp2_with fail
            go_ret2
            exact ⟨rfl, HBF⟩
        · obtain rfl : cnt = k := by omega
          have hdrop : l.drop (4 + cnt * q) = [] := List.drop_eq_nil_of_le (by rw [HLM.out, HTT.out, HML.out]; exact Nat.le_refl _)
          have hfa := HFA.out 0 (by rw [hdrop]; exact Nat.le_refl _)
          rw [hdrop] at hfa
          have hsome : RES0 = some M' := by rw [← hfa]; exact addAll_zero n z 0 M' rfl
          have hres := HFS.out M' hsome
          have HLB : Hid (hdr n z (rowsTo M' n).length ++ (rowsTo M' n).flatMap (lnB n) = bytesM n z M') := Lib.hid (by rw [rowsTo_rank HI2.out.len]; exact rows_bytes)
          have HCL : Hid (∀ W, Below wr.heap.size wr W → (convert 30 9 (.slice A m c0)).run Tryd.prog W = .ok (.string ⟨l.toArray⟩) W) := Lib.hid fun W hW => conv_row c0 HR.out (Nat.le_refl _) W (HBK.out.trans (hW.mono HBK.out.size))
          clear hlt hdrop hfa hsome
          by_cases he : bytesM n z M' = l
          · have hres2 : RES = some M' := hres.trans (if_pos he)
            subst hres2
            rw [he] at HLB
            clear he hres
            go_upto_region 18 with fail
            refine wp_region_noPanic ?_
            refine wp_region_held_drew (S := (fun W => Below (wr.heap.size) wr W)) (by kernel_rfl) (Below.refl _ _).drew (fun hH0 => ?_)
            have hH0 : Below (wr.heap.size) wr wr.drew := hH0
            generalize wr.drew = wd6000 at *
            refine wpAnyH_take (i := 0) (oi := { dst := some 105, op := Op.move (Operand.tmp 4), type := 27, pos := "ref.go:350", after := #[], guard := none }) (v := ?tkv6001) rfl (by kernel_rfl) (by kernel_rfl) (by kernel_rfl) (fun _ _ _ h => h) (Or.inl ⟨by rfl, ?tky6001⟩) hH0 ?tkr6001
            case tky6001 => (intro w' hSw; clear hSw; go_simp; try with_reducible rfl)
            try simp only [Act.put, List.setIfInBounds_toArray, List.set_cons_zero, List.set_cons_succ]
            refine wpAnyH_take (i := 3) (oi := { dst := some 108, op := Op.move (Operand.tmp 0), type := 30, pos := "ref.go:350", after := #[], guard := none }) (v := ?tkv6002) rfl (by kernel_rfl) (by kernel_rfl) (by kernel_rfl) (fun _ _ _ h => h) (Or.inl ⟨by rfl, ?tky6002⟩) hH0 ?tkr6002
            case tky6002 => (intro w' hSw; clear hSw; go_simp; try with_reducible rfl)
            try simp only [Act.put, List.setIfInBounds_toArray, List.set_cons_zero, List.set_cons_succ]
            refine wpAnyH_take (i := 4) (oi := { dst := some 109, op := Op.convert 30 9 (Operand.tmp 108), type := 9, pos := "ref.go:350", after := #[{ on := 3, ground := Ground.data }], guard := none }) (v := ?tkv6003) rfl (by kernel_rfl) (by kernel_rfl) (by kernel_rfl) (fun _ _ _ h => h) (Or.inl ⟨by rfl, ?tky6003⟩) hH0 ?tkr6003
            case tky6003 => (intro w' hSw; have z0 := HCL.out _ hSw; clear hSw; go_simp; try with_reducible rfl)
            try simp only [Act.put, List.setIfInBounds_toArray, List.set_cons_zero, List.set_cons_succ]
            refine wpAnyH_ready (rs := [1]) (by kernel_rfl) (by simp) ?_
            refine AllReadyH.cons (o := { dst := some 106, op := Op.call { callee := Callee.value (Operand.func 19), args := #[Operand.tmp 105], argTypes := #[27] }, type := 30, pos := "ref.go:350", after := #[{ on := 0, ground := Ground.data }], guard := none }) rfl (fun K hK => ?_) AllReadyH.nil
            go_simp
            refine (rbytes_any (fun b => w.heap.size ≤ b) gw n z _ wd6000 (HM2.out.below (hH0))).mono ?_
            rw [HLB.out]
            rintro e' wn6004 ⟨A6004, c6004, rfl, ho6004, hb6004'⟩
            have hb6004 := hb6004'.out
            have CV6004 := Lib.hid (conv_own c6004 ho6004.out)
            clear hb6004' ho6004
            go_simp
            have hS6004 : Below (wr.heap.size) wr wn6004 := (hH0).trans (hb6004.mono (hH0).size)
            refine hK.out _ _ hS6004 (fun hH6004 => ?_)
            have hH6004 : Below (wr.heap.size) wr wn6004 := hH6004
            clear hK K hS6004
            try simp only [Act.put, List.setIfInBounds_toArray, List.set_cons_zero, List.set_cons_succ]
            refine wpAnyH_ready (rs := [2]) (by kernel_rfl) (by simp) ?_
            refine AllReadyH.cons (o := { dst := some 107, op := Op.convert 30 9 (Operand.tmp 106), type := 9, pos := "ref.go:350", after := #[{ on := 1, ground := Ground.data }], guard := none }) rfl (fun K hK => ?_) AllReadyH.nil
            have hcv6005 := CV6004.out wn6004 (Below.refl wn6004.heap.size wn6004)
            go_simp
            clear hcv6005
            have hS6005 : Below (wr.heap.size) wr wn6004 := hH6004
            refine hK.out _ _ hS6005 (fun hH6005 => ?_)
            have hH6005 : Below (wr.heap.size) wr wn6004 := hH6005
            clear hK K hS6005
            try simp only [Act.put, List.setIfInBounds_toArray, List.set_cons_zero, List.set_cons_succ]
            refine wpAnyH_take (i := 5) (oi := { dst := some 110, op := Op.binOp BinOp.neq 9 (Operand.tmp 107) (Operand.tmp 109) 9, type := 4, pos := "ref.go:350", after := #[{ on := 2, ground := Ground.data }, { on := 4, ground := Ground.data }], guard := none }) (v := ?tkv6006) rfl (by kernel_rfl) (by kernel_rfl) (by kernel_rfl) (fun _ _ _ h => h) (Or.inl ⟨by rfl, ?tky6006⟩) hH6005 ?tkr6006
            case tky6006 => (intro w' hSw; clear hSw; go_simp; try with_reducible rfl)
            try simp only [Act.put, List.setIfInBounds_toArray, List.set_cons_zero, List.set_cons_succ]
            refine wpAnyH_done (by kernel_rfl) ?_ _
            refine NoPanic.normal ?_
            have HBF := Lib.hid (HBK.out.trans ((hH6005).mono HBK.out.size))
            have HMF := Lib.hid (HM2.out.below (hH6005))
            go_wp2_with fail
            go_ret2
            exact ⟨gw, rfl, HI2, Lib.hid (RMat.tight HMF.out), HBF⟩
          · have hres2 : RES = none := hres.trans (if_neg he)
            subst hres2
            obtain ⟨lb, hlb⟩ : ∃ lb, bytesM n z M' = lb := ⟨_, rfl⟩
            rw [hlb] at HLB he
            have hbeq : (lb == l) = false := by simpa using he
            clear hlb hres he
            go_upto_region 18 with fail
            refine wp_region_noPanic ?_
            refine wp_region_held_drew (S := (fun W => Below (wr.heap.size) wr W)) (by kernel_rfl) (Below.refl _ _).drew (fun hH0 => ?_)
            have hH0 : Below (wr.heap.size) wr wr.drew := hH0
            generalize wr.drew = wd7000 at *
            refine wpAnyH_take (i := 0) (oi := { dst := some 105, op := Op.move (Operand.tmp 4), type := 27, pos := "ref.go:350", after := #[], guard := none }) (v := ?tkv7001) rfl (by kernel_rfl) (by kernel_rfl) (by kernel_rfl) (fun _ _ _ h => h) (Or.inl ⟨by rfl, ?tky7001⟩) hH0 ?tkr7001
            case tky7001 => (intro w' hSw; clear hSw; go_simp; try with_reducible rfl)
            try simp only [Act.put, List.setIfInBounds_toArray, List.set_cons_zero, List.set_cons_succ]
            refine wpAnyH_take (i := 3) (oi := { dst := some 108, op := Op.move (Operand.tmp 0), type := 30, pos := "ref.go:350", after := #[], guard := none }) (v := ?tkv7002) rfl (by kernel_rfl) (by kernel_rfl) (by kernel_rfl) (fun _ _ _ h => h) (Or.inl ⟨by rfl, ?tky7002⟩) hH0 ?tkr7002
            case tky7002 => (intro w' hSw; clear hSw; go_simp; try with_reducible rfl)
            try simp only [Act.put, List.setIfInBounds_toArray, List.set_cons_zero, List.set_cons_succ]
            refine wpAnyH_take (i := 4) (oi := { dst := some 109, op := Op.convert 30 9 (Operand.tmp 108), type := 9, pos := "ref.go:350", after := #[{ on := 3, ground := Ground.data }], guard := none }) (v := ?tkv7003) rfl (by kernel_rfl) (by kernel_rfl) (by kernel_rfl) (fun _ _ _ h => h) (Or.inl ⟨by rfl, ?tky7003⟩) hH0 ?tkr7003
            case tky7003 => (intro w' hSw; have z0 := HCL.out _ hSw; clear hSw; go_simp; try with_reducible rfl)
            try simp only [Act.put, List.setIfInBounds_toArray, List.set_cons_zero, List.set_cons_succ]
            refine wpAnyH_ready (rs := [1]) (by kernel_rfl) (by simp) ?_
            refine AllReadyH.cons (o := { dst := some 106, op := Op.call { callee := Callee.value (Operand.func 19), args := #[Operand.tmp 105], argTypes := #[27] }, type := 30, pos := "ref.go:350", after := #[{ on := 0, ground := Ground.data }], guard := none }) rfl (fun K hK => ?_) AllReadyH.nil
            go_simp
            refine (rbytes_any (fun b => w.heap.size ≤ b) gw n z _ wd7000 (HM2.out.below (hH0))).mono ?_
            rw [HLB.out]
            rintro e' wn7004 ⟨A7004, c7004, rfl, ho7004, hb7004'⟩
            have hb7004 := hb7004'.out
            have CV7004 := Lib.hid (conv_own c7004 ho7004.out)
            clear hb7004' ho7004
            go_simp
            have hS7004 : Below (wr.heap.size) wr wn7004 := (hH0).trans (hb7004.mono (hH0).size)
            refine hK.out _ _ hS7004 (fun hH7004 => ?_)
            have hH7004 : Below (wr.heap.size) wr wn7004 := hH7004
            clear hK K hS7004
            try simp only [Act.put, List.setIfInBounds_toArray, List.set_cons_zero, List.set_cons_succ]
            refine wpAnyH_ready (rs := [2]) (by kernel_rfl) (by simp) ?_
            refine AllReadyH.cons (o := { dst := some 107, op := Op.convert 30 9 (Operand.tmp 106), type := 9, pos := "ref.go:350", after := #[{ on := 1, ground := Ground.data }], guard := none }) rfl (fun K hK => ?_) AllReadyH.nil
            have hcv7005 := CV7004.out wn7004 (Below.refl wn7004.heap.size wn7004)
            go_simp
            clear hcv7005
            have hS7005 : Below (wr.heap.size) wr wn7004 := hH7004
            refine hK.out _ _ hS7005 (fun hH7005 => ?_)
            have hH7005 : Below (wr.heap.size) wr wn7004 := hH7005
            clear hK K hS7005
            try simp only [Act.put, List.setIfInBounds_toArray, List.set_cons_zero, List.set_cons_succ]
            refine wpAnyH_take (i := 5) (oi := { dst := some 110, op := Op.binOp BinOp.neq 9 (Operand.tmp 107) (Operand.tmp 109) 9, type := 4, pos := "ref.go:350", after := #[{ on := 2, ground := Ground.data }, { on := 4, ground := Ground.data }], guard := none }) (v := ?tkv7006) rfl (by kernel_rfl) (by kernel_rfl) (by kernel_rfl) (fun _ _ _ h => h) (Or.inl ⟨by rfl, ?tky7006⟩) hH7005 ?tkr7006
            case tky7006 => (intro w' hSw; clear hSw; go_simp; try with_reducible rfl)
            try simp only [Act.put, List.setIfInBounds_toArray, List.set_cons_zero, List.set_cons_succ]
            refine wpAnyH_done (by kernel_rfl) ?_ _
            refine NoPanic.normal ?_
            have HBF := Lib.hid (HBK.out.trans ((hH7005).mono HBK.out.size))
            go_wp2_with fail
            go_ret2
            exact ⟨rfl, HBF⟩
    · have hne : ((m : Int) != (4 : Int) + (T : Int)) = true := by simp; omega
      have hres : RES = none := by rw [← HRES.out]; exact fromM_cnt (.inr (by rw [HCQ.out, ← HWD.out, ← HQ.out, HTT.out, hlm]; exact hml)) hn2 hz1 hz2
      subst hres
      go_wp2_with fail
      go_ret2
      exact ⟨rfl, HBV⟩
end Go.Proofs.YtgeodhffgbhmaaaDoor.El
namespace Go.Proofs.YtgeodhffgbhmaaaDoor.El
open Go.RowKit
open VecM Vc
/-- what some bytes are -/
def fromD (l : List UInt8) : Option (Nat × Nat × Mx) := if l.length < 4 then none else if 1 ≤ (l.getD 1 0).toNat ∧ (l.getD 1 0).toNat ≤ 16 then (fromM ((l.getD 0 0).toNat + 1) (l.getD 1 0).toNat l).map fun M => ((l.getD 0 0).toNat + 1, (l.getD 1 0).toNat, M) else none
def FromE (R : Option (Nat × Nat × Mx)) (w : World) (e : Ending) (w' : World) : Prop := match R with
  | none => FromNoI w e w'
  | some r => FromIOk r.1 r.2.1 (some r.2.2) w e w'
def RFromE (R : Option (Nat × Nat × Mx)) (w : World) (e : Ending) (w' : World) : Prop := match R with
  | none => RFromNo w e w'
  | some r => RFromOk r.1 r.2.1 (some r.2.2) w e w'
theorem from_e (A : Option Addr) (m c0 : Nat) (l : List UInt8) (w : World) (hr : Row w w.heap.size A m (bv l)) (hc : m ≤ c0 ∧ c0 ≤ 9223372036854775807) (ht : DTab w) : Calls Tryd.prog 20 #[.slice A m c0] w (FromE (fromD l) w) := by
  have hl := hr.blen
  unfold fromD
  by_cases h4 : m < 4
  · rw [if_pos (by omega)]
    exact fromI_few A m c0 w h4
  · rw [if_neg (by omega)]
    obtain ⟨n, hn⟩ : ∃ n, (l.getD 0 0).toNat + 1 = n := ⟨_, rfl⟩
    obtain ⟨z, hz⟩ : ∃ z, (l.getD 1 0).toNat = z := ⟨_, rfl⟩
    rw [hn, hz]
    by_cases hg : 1 ≤ z ∧ z ≤ 16
    · rw [if_pos hg]
      refine (fromI n z A m c0 l w hr hc (by omega) hn hz hg.1 hg.2 ht).mono fun e w' h => ?_
      cases hf : fromM n z l with
      | none => rw [hf] at h; exact h
      | some M => rw [hf] at h; exact h
    · rw [if_neg hg]
      exact fromI_size n z A m c0 l w hr hc (by omega) hn hz (by omega)
theorem rfrom_e (A : Option Addr) (m c0 : Nat) (l : List UInt8) (w : World) (hr : Row w w.heap.size A m (bv l)) (hc : m ≤ c0 ∧ c0 ≤ 9223372036854775807) : Calls Tryd.prog 21 #[.slice A m c0] w (RFromE (fromD l) w) := by
  have hl := hr.blen
  unfold fromD
  by_cases h4 : m < 4
  · rw [if_pos (by omega)]
    exact rfrom_few A m c0 w h4
  · rw [if_neg (by omega)]
    obtain ⟨n, hn⟩ : ∃ n, (l.getD 0 0).toNat + 1 = n := ⟨_, rfl⟩
    obtain ⟨z, hz⟩ : ∃ z, (l.getD 1 0).toNat = z := ⟨_, rfl⟩
    rw [hn, hz]
    by_cases hg : 1 ≤ z ∧ z ≤ 16
    · rw [if_pos hg]
      refine (rfrom n z A m c0 l w hr hc (by omega) hn hz hg.1 hg.2).mono fun e w' h => ?_
      cases hf : fromM n z l with
      | none => rw [hf] at h; exact h
      | some M => rw [hf] at h; exact h
    · rw [if_neg hg]
      exact rfrom_size n z A m c0 l w hr hc (by omega) hn hz (by omega)
theorem bv_put (l : List UInt8) (k : Nat) (u : UInt8) : (bv l).set k (.int .u8 (u.toNat : Int)) = bv (l.set k u) := by simp [bv, List.map_set]
/-- the reference's matrix, and a box -/
def boxO (gb : Nat) (cs : Array Value) : Obj := fun W H => H gb ∧ BX6 gb cs W
theorem keeps_box (gb : Nat) (cs : Array Value) : Keeps (boxO gb cs) := fun _ _ _ a hk _ => ⟨a.1, (hk gb a.1 (Array.getElem?_eq_some_iff.1 a.2).1).trans a.2⟩
def RdE (gw n z : Nat) (M : Mx) (gb : Nat) (cs : Array Value) (w0 W : World) : Prop := Sep3 (rmO gw n z (rowsTo M n)) noObj (boxO gb cs) w0 W
section
variable {gw n z gb : Nat} {M : Mx} {cs : Array Value} {w0 W W' : World}
theorem RdE.below (e : RdE gw n z M gb cs w0 W) (hb : Below W.heap.size W W') : RdE gw n z M gb cs w0 W' := Sep3.below e (keeps_rm _ _ _ _) keeps_no (keeps_box _ _) hb
theorem RdE.bx (e : RdE gw n z M gb cs w0 W) : BX6 gb cs W := by
  obtain ⟨F, G, H, a, b, c, h1, h2, h3, h4, h5⟩ := e
  exact c.2
theorem RdE.b (e : RdE gw n z M gb cs w0 W) : Below w0.heap.size w0 W := Sep3.b e
theorem RdE.drop (e : RdE gw n z M gb cs w0 W) : Sep3 (rmO gw n z (rowsTo M n)) noObj noObj w0 W := by
  obtain ⟨F, G, H, a, b, c, h1, h2, h3, h4, h5⟩ := e
  exact ⟨F, G, H, a, trivial, trivial, h1, h2, h3, h4, h5⟩
theorem RdE.make (s : Sep3 (rmO gw n z (rowsTo M n)) noObj noObj w0 W) (hb : Below W.heap.size W W') (q : W.heap.size ≤ gb) (b : BX6 gb cs W') : RdE gw n z M gb cs w0 W' :=
  ((Sep3.rot s).create keeps_no (keeps_rm gw n z (rowsTo M n)) hb (A' := boxO gb cs) ⟨⟨q, (Array.getElem?_eq_some_iff.1 b).1⟩, b⟩).rot.swap
theorem rd_add (e : RdE gw n z M gb cs w0 W) (hi : Inv n z M) {gv X : Nat} (hv : RowU (some ⟨gv, 0, none⟩) n (vb X n) W) (hX : X < 2 ^ n) {B : Option Addr} {m d : Nat} {l : List UInt8} (hr : Row w0 w0.heap.size B m (bv l)) : Calls Tryd.prog 15 #[.pointer (some ⟨gw, 0, none⟩), .slice (some ⟨gv, 0, none⟩) n n, .slice B m d] W fun e' W' => ∃ b : Bool, e' = .returned (.bool b) ∧ Hid (RdE gw n z (addZ n z M X m l).1 gb cs w0 W') := by
  have hb := e.b
  have hrb := hr.below hb
  obtain ⟨F, hm, hF, hF2, hnext⟩ := Sep3.first2 e keeps_no (keeps_box _ _)
  unfold addZ
  by_cases hz : m = z
  · rw [if_pos hz]
    subst hz
    refine (raddI (c := n) (cd := d) hm hi hv (hrb.more hb.size) hX).mono fun e' w' ⟨he, h1, h2⟩ => ⟨_, he, Lib.hid ?_⟩
    exact hnext w' (rmO gw n m (rowsTo (addMx n M X l).1 n)) h1.out h2.out
  · rw [if_neg hz]
    refine (radd_len F gw n z m d (rowsTo M n) _ B W hm hz).mono fun e' w' ⟨he, h1⟩ => ⟨_, he, Lib.hid (by subst h1; exact e)⟩
end
set_option maxRecDepth 100000 in
set_option maxHeartbeats 12800000 in
theorem elreads_walk (x y : Int) (U : Option Addr) (m cu : Nat) (R : Nat → ERow) (at0 : Int) (xb : UInt8) (B : Option Addr) (mr cr : Nat) (raw : List UInt8) (w : World) (ht : DTab w) (hr : Rows6 w U m R) (hcap : m ≤ cu ∧ cu ≤ 9223372036854775807) (hrw : Row w w.heap.size B mr (bv raw)) (hcr : mr ≤ cr ∧ cr ≤ 9223372036854775807) :
    Calls Tryd.prog 4 #[.int .i64 x, .int .i64 y, .slice U m cu, .int .i64 at0, .int .u8 (xb.toNat : Int), .slice B mr cr] w fun e w' => e = .returned (.bool true) ∧ Below w.heap.size w w' := by
  have HT := Lib.hid ht
  have HR := Lib.hid hr
  have HRW := Lib.hid hrw
  have HCR := Lib.hid hcr
  have HLT := Lib.hid (light_any U m cu R w hr hcap)
  clear ht hr hrw
  go_enter Tryd.func4, Tryd.ntmps4
  go_wp2_with fail
  refine HLT.out.mono ?_
  rintro e w1 ⟨lb, rfl, hl, hb1⟩
  have HB1 := Lib.hid hb1.out
  clear hb1 HLT
  cases lb with
  | false =>
    clear hl
    go_wp2_with fail
    refine (awake6_any _ (HT.out.grow HB1.out)).mono ?_
    rintro e w9 ⟨rfl, hb9⟩
    have HB9 := Lib.hid ((HB1.out).trans (hb9.out.mono (HB1.out).size))
    clear hb9
    go_wp2_with fail
    go_ret
    exact ⟨rfl, HB9.out⟩
  | true =>
    have hl2 := hl.out rfl
    have hm60 := hl2.1
    have HLI := Lib.hid hl2.2
    clear hl hl2
    by_cases h300 : 300 < mr
    · have h300i : (300 : Int) < (mr : Int) := by omega
      clear h300
      go_wp2_with fail
      refine (awake6_any _ (HT.out.grow HB1.out)).mono ?_
      rintro e w9 ⟨rfl, hb9⟩
      have HB9 := Lib.hid ((HB1.out).trans (hb9.out.mono (HB1.out).size))
      clear hb9
      go_wp2_with fail
      go_ret
      exact ⟨rfl, HB9.out⟩
    · have h300i : ¬ (300 : Int) < (mr : Int) := by omega
      clear h300
      by_cases hgood : 1 ≤ x ∧ x ≤ 256 ∧ 1 ≤ y ∧ y ≤ 16
      · obtain ⟨n, hn⟩ : ∃ n : Nat, x = (n : Int) := ⟨x.toNat, by omega⟩
        obtain ⟨z, hz⟩ : ∃ z : Nat, y = (z : Int) := ⟨y.toNat, by omega⟩
        subst hn hz
        have hn1 : 1 ≤ n ∧ n ≤ 256 := by omega
        have hz1 : 1 ≤ z ∧ z ≤ 16 := by omega
        have hni : (n : Int) ≤ 256 := by omega
        have HN := Lib.hid hn1
        have HZ := Lib.hid hz1
        have HRN := Lib.hid (rnewM n z w1 hn1 hz1)
        clear hgood hn1 hz1
        go_wp2_with fail
        refine HRN.out.mono ?_
        rintro e w3 ⟨gw, rfl, hm3, hb3⟩
        have HS0 : Hid (Sep3 (rmO gw n z (rowsTo (List.replicate n none) n)) noObj noObj w w3) := Lib.hid (by
          have s1 := (Sep3.start w).below keeps_no keeps_no keeps_no HB1.out
          exact s1.create keeps_no keeps_no hb3.out (A' := rmO gw n z (rowsTo (List.replicate n none) n)) (by rw [rowsTo_start]; exact hm3.out))
        have HI0 := Lib.hid (Inv.start n z)
        clear hm3 hb3 HRN HB1
        go_wp2_with fail
        go_loopw [40] (fun x wr => ∃ (k : Nat) (M : Mx), k ≤ m ∧ x = .int .i64 (k : Int) ∧ Hid (Inv n z M) ∧ Hid (Sep3 (rmO gw n z (rowsTo M n)) noObj noObj w wr)) (fun x _ => m - (intOf x).toNat)
        case atStart => exact ⟨0, List.replicate n none, by omega, rfl, HI0, HS0⟩
        case round =>
          obtain ⟨k, M, hk, rfl, HI, HS⟩ := hrel
          clear HI0 HS0
          by_cases hlt : k < m
          · have hki : (k : Int) < (m : Int) := by omega
            have hmi : (m : Int) ≤ 60 := by omega
            obtain ⟨b, o, rfl, hbl, c0, c1, hg⟩ := HR.out.keep HS.out.b k hlt
            have HG0 : Hid ((R k).Good w) := Lib.hid (by
              obtain ⟨_, _, _, _, _, _, hg0⟩ := HR.out k hlt
              exact hg0)
            have HGA := Lib.hid HG0.out.a
            have HD := Lib.hid HG0.out.b
            have hnl := (HLI.out k hlt).1
            have HNL : Hid ((R k).n ≤ 4611686018427387904) := Lib.hid (by omega)
            have ha1 := hg.ac
            have hb1 := hg.bc
            have hal : Below wr.heap.size wr (wr.alloc (.cells #[.slice (R k).A (R k).n (R k).c, .slice (R k).B (R k).m (R k).d] 32)) := (Below.refl _ _).alloc (Nat.le_refl _) _
            have HBX0 : Hid (BX6 wr.heap.size #[.slice (R k).A (R k).n (R k).c, .slice (R k).B (R k).m (R k).d] (wr.alloc (.cells #[.slice (R k).A (R k).n (R k).c, .slice (R k).B (R k).m (R k).d] 32))) := Lib.hid (heap_alloc_new wr (.cells #[.slice (R k).A (R k).n (R k).c, .slice (R k).B (R k).m (R k).d] 32))
            have E0_ : Hid (RdE gw n z M wr.heap.size #[.slice (R k).A (R k).n (R k).c, .slice (R k).B (R k).m (R k).d] w (wr.alloc (.cells #[.slice (R k).A (R k).n (R k).c, .slice (R k).B (R k).m (R k).d] 32))) := Lib.hid (RdE.make HS.out hal (Nat.le_refl _) HBX0.out)
            have HCB : Hid (∀ W, BX6 wr.heap.size #[.slice (R k).A (R k).n (R k).c, .slice (R k).B (R k).m (R k).d] W → W.cell? ⟨wr.heap.size, 0, none⟩ = some (.slice (R k).A (R k).n (R k).c) ∧ W.cell? ⟨wr.heap.size, 1, none⟩ = some (.slice (R k).B (R k).m (R k).d)) := Lib.hid fun W hW => by
              constructor <;> (rw [cell_of_row W _ _ _ _ (0, 0) hW]; rfl)
            have HIN : Hid (Inv n z (addZ n z M (ofL n (R k).zs) (R k).m (R k).l).1) := Lib.hid (addZ_inv HI.out HN.out.2 (ofL_lt (R k).zs) HD.out.blen)
            clear hg hal hbl hnl HS
            go_upto_region 9 with fail
            clear c0 c1
            generalize (wr.alloc (.cells #[.slice (R k).A (R k).n (R k).c, .slice (R k).B (R k).m (R k).d] 32)) = wa at *
            refine wp_region_noPanic ?_
            refine wp_region_held_drew (S := (fun W => BX6 wr.heap.size #[.slice (R k).A (R k).n (R k).c, .slice (R k).B (R k).m (R k).d] W)) (by kernel_rfl) HBX0.out (fun hH0 => ?_)
            have hH0 : BX6 wr.heap.size #[.slice (R k).A (R k).n (R k).c, .slice (R k).B (R k).m (R k).d] wa.drew := hH0
            have E0_d := Lib.hid (E0_.out.below ((Below.refl wa.heap.size wa).drew))
            generalize wa.drew = wd1000 at *
            refine wpAnyH_take (i := 0) (oi := { dst := some 44, op := Op.move (Operand.tmp 13), type := 27, pos := "law.go:97", after := #[], guard := none }) (v := ?tkv1001) rfl (by kernel_rfl) (by kernel_rfl) (by kernel_rfl) (fun _ _ _ h => h) (Or.inl ⟨by rfl, ?tky1001⟩) hH0 ?tkr1001
            case tky1001 => (intro w' hSw; clear hSw; go_simp; try with_reducible rfl)
            try simp only [Act.put, List.setIfInBounds_toArray, List.set_cons_zero, List.set_cons_succ]
            refine wpAnyH_take (i := 1) (oi := { dst := some 45, op := Op.move (Operand.tmp 0), type := 3, pos := "law.go:97", after := #[], guard := none }) (v := ?tkv1002) rfl (by kernel_rfl) (by kernel_rfl) (by kernel_rfl) (fun _ _ _ h => h) (Or.inl ⟨by rfl, ?tky1002⟩) hH0 ?tkr1002
            case tky1002 => (intro w' hSw; clear hSw; go_simp; try with_reducible rfl)
            try simp only [Act.put, List.setIfInBounds_toArray, List.set_cons_zero, List.set_cons_succ]
            refine wpAnyH_take (i := 2) (oi := { dst := some 46, op := Op.fieldAddr 32 (Operand.tmp 15) 0, type := 0, pos := "law.go:97", after := #[], guard := none }) (v := ?tkv1003) rfl (by kernel_rfl) (by kernel_rfl) (by kernel_rfl) (fun _ _ _ h => h) (Or.inl ⟨by rfl, ?tky1003⟩) hH0 ?tkr1003
            case tky1003 => (intro w' hSw; clear hSw; go_simp; try with_reducible rfl)
            try simp only [Act.put, List.setIfInBounds_toArray, List.set_cons_zero, List.set_cons_succ]
            refine wpAnyH_take (i := 3) (oi := { dst := some 47, op := Op.load 29 (Operand.tmp 46), type := 29, pos := "law.go:97", after := #[{ on := 2, ground := Ground.data }], guard := none }) (v := ?tkv1004) rfl (by kernel_rfl) (by kernel_rfl) (by kernel_rfl) (fun _ _ _ h => h) (Or.inl ⟨by rfl, ?tky1004⟩) hH0 ?tkr1004
            case tky1004 => (intro w' hSw; have z0 := HCB.out _ hSw; clear hSw; go_simp; try with_reducible rfl)
            try simp only [Act.put, List.setIfInBounds_toArray, List.set_cons_zero, List.set_cons_succ]
            refine wpAnyH_take (i := 5) (oi := { dst := some 49, op := Op.fieldAddr 32 (Operand.tmp 15) 1, type := 0, pos := "law.go:97", after := #[], guard := none }) (v := ?tkv1005) rfl (by kernel_rfl) (by kernel_rfl) (by kernel_rfl) (fun _ _ _ h => h) (Or.inl ⟨by rfl, ?tky1005⟩) hH0 ?tkr1005
            case tky1005 => (intro w' hSw; clear hSw; go_simp; try with_reducible rfl)
            try simp only [Act.put, List.setIfInBounds_toArray, List.set_cons_zero, List.set_cons_succ]
            refine wpAnyH_take (i := 6) (oi := { dst := some 50, op := Op.load 30 (Operand.tmp 49), type := 30, pos := "law.go:97", after := #[{ on := 5, ground := Ground.data }], guard := none }) (v := ?tkv1006) rfl (by kernel_rfl) (by kernel_rfl) (by kernel_rfl) (fun _ _ _ h => h) (Or.inl ⟨by rfl, ?tky1006⟩) hH0 ?tkr1006
            case tky1006 => (intro w' hSw; have z0 := HCB.out _ hSw; clear hSw; go_simp; try with_reducible rfl)
            try simp only [Act.put, List.setIfInBounds_toArray, List.set_cons_zero, List.set_cons_succ]
            refine wpAnyH_ready (rs := [4]) (by kernel_rfl) (by simp) ?_
            refine AllReadyH.cons (o := { dst := some 48, op := Op.call { callee := Callee.value (Operand.func 11), args := #[Operand.tmp 45, Operand.tmp 47], argTypes := #[3, 29] }, type := 35, pos := "law.go:97", after := #[{ on := 1, ground := Ground.data }, { on := 3, ground := Ground.data }], guard := none }) rfl (fun K hK => ?_) AllReadyH.nil
            go_simp
            refine (r1bits_any n (R k).A (R k).n (R k).c _ (R k).zs wd1000 (HGA.out.below E0_d.out.b) E0_d.out.b.size HNL.out HN.out.2).mono ?_
            rintro e' wn1007 ⟨g1007, rfl, ho1007, hb1007'⟩
            have hb1007 := hb1007'.out
            have RV1007_ := Lib.hid (show RowU (some ⟨g1007, 0, none⟩) n (vb (ofL n (R k).zs) n) wn1007 from Row.of_own ho1007.out)
            have HBX1007 := (E0_d.out.below hb1007).bx
            clear hb1007' ho1007
            go_simp
            have E0_1007 := Lib.hid (E0_d.out.below hb1007)
            have hS1007 : BX6 wr.heap.size #[.slice (R k).A (R k).n (R k).c, .slice (R k).B (R k).m (R k).d] wn1007 := HBX1007
            refine hK.out _ _ hS1007 (fun hH1007 => ?_)
            have hH1007 : BX6 wr.heap.size #[.slice (R k).A (R k).n (R k).c, .slice (R k).B (R k).m (R k).d] wn1007 := hH1007
            clear hK K hS1007
            try simp only [Act.put, List.setIfInBounds_toArray, List.set_cons_zero, List.set_cons_succ]
            refine wpAnyH_ready (rs := [7]) (by kernel_rfl) (by simp) ?_
            refine AllReadyH.cons (o := { dst := some 51, op := Op.call { callee := Callee.value (Operand.func 15), args := #[Operand.tmp 44, Operand.tmp 48, Operand.tmp 50], argTypes := #[27, 35, 30] }, type := 4, pos := "law.go:97", after := #[{ on := 0, ground := Ground.data }, { on := 4, ground := Ground.data }, { on := 6, ground := Ground.data }, { on := 4, ground := Ground.chain }], guard := none }) rfl (fun K hK => ?_) AllReadyH.nil
            go_simp
            refine (rd_add (d := (R k).d) E0_1007.out HI.out RV1007_.out (ofL_lt _) HD.out).mono ?_
            rintro e' wn1008 ⟨b1008, rfl, he1008⟩
            have E1008_ := Lib.hid he1008.out
            have HBX1008 := he1008.out.bx
            clear he1008 E0_1007
            go_simp
            have hS1008 : BX6 wr.heap.size #[.slice (R k).A (R k).n (R k).c, .slice (R k).B (R k).m (R k).d] wn1008 := HBX1008
            refine hK.out _ _ hS1008 (fun hH1008 => ?_)
            have hH1008 : BX6 wr.heap.size #[.slice (R k).A (R k).n (R k).c, .slice (R k).B (R k).m (R k).d] wn1008 := hH1008
            clear hK K hS1008
            try simp only [Act.put, List.setIfInBounds_toArray, List.set_cons_zero, List.set_cons_succ]
            refine wpAnyH_done (by kernel_rfl) ?_ _
            refine NoPanic.normal ?_
            have HSN := Lib.hid E1008_.out.drop
            go_wp2_with fail
            go_roundw
            case rel => exact ⟨k + 1, _, by omega, by go_num, HIN, HSN⟩
            case measure => simp [intOf]; omega
          · obtain rfl : m = k := by omega
            clear hlt
            obtain ⟨wm, rfl⟩ : ∃ W : World, W = wr := ⟨_, rfl⟩
            have HBM := Lib.hid HS.out.b
            obtain ⟨FA, FB, FC, hmA, _, _, _, _, _, _, _⟩ := HS.out
            have HRY := Lib.hid (rbytes_any FA gw n z _ wm hmA)
            obtain ⟨lb, hlb⟩ : ∃ lb, hdr n z (rowsTo M n).length ++ (rowsTo M n).flatMap (lnB n) = lb := ⟨_, rfl⟩
            have hl4 : 4 ≤ lb.length := by rw [← hlb, List.length_append]; simp [hdr]
            have hlmax : lb.length ≤ 20000 := by
              have h1 := rows_len HI.out n
              have h2 := rowsTo_le M n
              have h3 : bw n + z ≤ 48 := by have := HN.out; have := HZ.out; unfold bw; omega
              have h4 : (rowsTo M n).length * (bw n + z) ≤ 256 * 48 := Nat.mul_le_mul (by have := HN.out.2; omega) h3
              have h5 : (hdr n z (rowsTo M n).length).length = 4 := rfl
              rw [← hlb, List.length_append, h1, h5]; omega
            rw [hlb] at HRY
            clear hmA hlb
            go_wp2_with fail
            refine HRY.out.mono ?_
            rintro e wy ⟨Ab, cb, rfl, ho, hb⟩
            have HBY := Lib.hid (HBM.out.trans (hb.out.mono HBM.out.size))
            obtain ⟨k, hkl, hpick⟩ := pick_in at0 (lb.length : Int) (by omega) (by omega)
            have HPK := Lib.hid hpick
            have hkl2 : k < lb.length := by omega
            obtain ⟨gb, hAb, hgb⟩ : ∃ gb, Ab = some ⟨gb, 0, none⟩ ∧ wm.heap.size ≤ gb := by
              rcases ho.out.2 with ⟨_, h0⟩ | ⟨g', cap, cur, e, hg', _⟩
              · omega
              · injection e with e
                exact ⟨g', e, hg'⟩
            subst hAb
            have hcap : lb.length ≤ cb ∧ cb ≤ 9223372036854775807 := by
              obtain ⟨A', cap, e, h1, h2, _⟩ := own_slice ho.out
              injection e with _ _ e
              subst e
              exact ⟨h1, by unfold maxLen at h2; omega⟩
            have HCAP := Lib.hid hcap
            have hcell := (ho.out.cellAt k (by omega)).trans (bv_getD _ k hkl2)
            have hfz := ho.out.frozenAt k
            obtain ⟨ub, hub⟩ : ∃ u, lb.getD k 0 = u := ⟨_, rfl⟩
            rw [hub] at hcell
            have hxor := xor_int ub xb
            obtain ⟨xr, hxr⟩ : ∃ u, ub ^^^ xb = u := ⟨_, rfl⟩
            rw [hxr] at hxor
            clear hub hxr
            obtain ⟨lb2, hlb2⟩ : ∃ l2, lb.set k xr = l2 := ⟨_, rfl⟩
            have hst := (ho.out.stored k (.int .u8 (xr.toNat : Int))).1
            rw [bv_put, hlb2] at hst
            have hl2 : lb2.length = lb.length := by rw [← hlb2, List.length_set]
            have HRB : Hid (RowU (some ⟨gb, 0, none⟩) lb.length (bv lb2) (wy.setCell ⟨gb, k, none⟩ (.int .u8 (xr.toNat : Int)))) := Lib.hid (Row.of_own hst)
            have HBZ0 : Hid (Below w.heap.size w (wy.setCell ⟨gb, k, none⟩ (.int .u8 (xr.toNat : Int)))) := Lib.hid (HBY.out.setCell (Nat.le_trans HBM.out.size hgb) _)
            obtain ⟨LL, hLL⟩ : ∃ L, lb.length = L := ⟨_, rfl⟩
            have hkli : (k : Int) < (LL : Int) := by omega
            have hLLi : (LL : Int) ≤ 20000 := by omega
            have hLL4 : (4 : Int) ≤ (LL : Int) := by omega
            rw [hLL] at HRB HPK HCAP ⊢
            clear ho hb hpick hcap hst hlb2 hl2 hkl hkl2 hLL hl4 hlmax HRY
            go_upto_region 13 with (rw [HPK.out])
            obtain ⟨wz, hwz⟩ : ∃ W, (wy.setCell ⟨gb, k, none⟩ (.int .u8 (xr.toNat : Int))) = W := ⟨_, rfl⟩
            rw [hwz] at HRB HBZ0 ⊢
            have HBZ := HBZ0
            have HRW2 : Hid (RowU B mr (bv raw) wz) := Lib.hid ((HRW.out.below HBZ.out).more HBZ.out.size)
            clear hwz hcell hfz hxor HBZ0
            go_wp2_with fail
            go_loopw [71] (fun x wr => ∃ t : Nat, t ≤ 2 ∧ x = .int .i64 (t : Int) ∧ Hid (Below wz.heap.size wz wr)) (fun x _ => 2 - (intOf x).toNat)
            case atStart => exact ⟨0, by omega, rfl, Lib.hid (Below.refl _ _)⟩
            case round =>
              obtain ⟨t, ht2, rfl, HBK⟩ := hrel
              have htt : t = 0 ∨ t = 1 ∨ t = 2 := by omega
              rcases htt with rfl | rfl | rfl
              · clear ht2
                have hix : ∀ w' : World, (Instr.index 53 (.agg #[.slice (some ⟨gb, 0, none⟩) LL cb, .slice B mr cr]) (.int .i64 0)).run Tryd.prog w' = .ok (.slice (some ⟨gb, 0, none⟩) LL cb) w' := fun w' => by kernel_rfl
                have HBR := Lib.hid (HBZ.out.trans (HBK.out.mono HBZ.out.size))
                have HRY : Hid (RowU (some ⟨gb, 0, none⟩) LL (bv lb2) wr) := Lib.hid (RowU.below HRB.out HBK.out)
                have HFE := Lib.hid (from_e (some ⟨gb, 0, none⟩) LL cb lb2 wr HRY.out HCAP.out (HT.out.grow HBR.out))
                cases hfd : fromD lb2 with
                | none =>
                  rw [hfd] at HFE
                  have HFD := Lib.hid hfd
                  clear hfd
                  go_wp2_with fail
                  refine HFE.out.mono ?_
                  rintro e w2 ⟨rfl, hb2⟩
                  have HRE := Lib.hid (rfrom_e (some ⟨gb, 0, none⟩) LL cb lb2 w2 (RowU.below HRY.out hb2.out) HCAP.out)
                  rw [HFD.out] at HRE
                  go_wp2_with fail
                  refine HRE.out.mono ?_
                  rintro e w3 ⟨rfl, hb3⟩
                  have HBN := Lib.hid (HBK.out.trans ((hb2.out.trans (hb3.out.mono hb2.out.size)).mono HBK.out.size))
                  clear hb2 hb3 HFE HRE
                  go_wp2_with fail
                  go_roundw
                  case rel => exact ⟨0 + 1, by omega, by first | rfl | go_num | simp, HBN⟩
                  case measure => simp [intOf]
                | some r =>
                  obtain ⟨n2, z2, M2⟩ := r
                  rw [hfd] at HFE
                  have HFD := Lib.hid hfd
                  clear hfd
                  go_wp2_with fail
                  refine HFE.out.mono ?_
                  rintro e w2 ⟨gm, rfl, _, hm2, hb2⟩
                  have HRE := Lib.hid (rfrom_e (some ⟨gb, 0, none⟩) LL cb lb2 w2 (RowU.below HRY.out hb2.out) HCAP.out)
                  rw [HFD.out] at HRE
                  go_wp2_with fail
                  refine HRE.out.mono ?_
                  rintro e w3 ⟨gk, rfl, _, hm3, hb3⟩
                  have HB23 := Lib.hid (hb2.out.trans (hb3.out.mono hb2.out.size))
                  have HSL : Hid (Sep3 (matO gm n2 z2 M2) (rmO gk n2 z2 (rowsTo M2 n2)) noObj wr w3) := Lib.hid (by
                    have s1 := (Sep3.start wr).create keeps_no keeps_no hb2.out (A' := matO gm n2 z2 M2) hm2.out
                    have s2 := (s1.rot).create keeps_no (keeps_mat gm n2 z2 _) hb3.out (A' := rmO gk n2 z2 (rowsTo M2 n2)) hm3.out
                    exact s2.rot.rot)
                  have HLK := Lib.hid (sep_like HSL.out (HT.out.grow HBR.out))
                  clear hm2 hm3 hb2 hb3 HFE HRE HSL
                  go_wp2_with fail
                  refine HLK.out.mono ?_
                  rintro e w4 ⟨rfl, hb4⟩
                  have HBN := Lib.hid (HBK.out.trans ((HB23.out.trans (hb4.out.mono HB23.out.size)).mono HBK.out.size))
                  clear hb4 HLK
                  go_wp2_with fail
                  go_roundw
                  case rel => exact ⟨0 + 1, by omega, by first | rfl | go_num | simp, HBN⟩
                  case measure => simp [intOf]
              · clear ht2
                have hix : ∀ w' : World, (Instr.index 53 (.agg #[.slice (some ⟨gb, 0, none⟩) LL cb, .slice B mr cr]) (.int .i64 1)).run Tryd.prog w' = .ok (.slice B mr cr) w' := fun w' => by kernel_rfl
                have HBR := Lib.hid (HBZ.out.trans (HBK.out.mono HBZ.out.size))
                have HRY : Hid (RowU B mr (bv raw) wr) := Lib.hid (RowU.below HRW2.out HBK.out)
                have HFE := Lib.hid (from_e B mr cr raw wr HRY.out HCR.out (HT.out.grow HBR.out))
                cases hfd : fromD raw with
                | none =>
                  rw [hfd] at HFE
                  have HFD := Lib.hid hfd
                  clear hfd
                  go_wp2_with fail
                  refine HFE.out.mono ?_
                  rintro e w2 ⟨rfl, hb2⟩
                  have HRE := Lib.hid (rfrom_e B mr cr raw w2 (RowU.below HRY.out hb2.out) HCR.out)
                  rw [HFD.out] at HRE
                  go_wp2_with fail
                  refine HRE.out.mono ?_
                  rintro e w3 ⟨rfl, hb3⟩
                  have HBN := Lib.hid (HBK.out.trans ((hb2.out.trans (hb3.out.mono hb2.out.size)).mono HBK.out.size))
                  clear hb2 hb3 HFE HRE
                  go_wp2_with fail
                  go_roundw
                  case rel => exact ⟨1 + 1, by omega, by first | rfl | go_num | simp, HBN⟩
                  case measure => simp [intOf]
                | some r =>
                  obtain ⟨n2, z2, M2⟩ := r
                  rw [hfd] at HFE
                  have HFD := Lib.hid hfd
                  clear hfd
                  go_wp2_with fail
                  refine HFE.out.mono ?_
                  rintro e w2 ⟨gm, rfl, _, hm2, hb2⟩
                  have HRE := Lib.hid (rfrom_e B mr cr raw w2 (RowU.below HRY.out hb2.out) HCR.out)
                  rw [HFD.out] at HRE
                  go_wp2_with fail
                  refine HRE.out.mono ?_
                  rintro e w3 ⟨gk, rfl, _, hm3, hb3⟩
                  have HB23 := Lib.hid (hb2.out.trans (hb3.out.mono hb2.out.size))
                  have HSL : Hid (Sep3 (matO gm n2 z2 M2) (rmO gk n2 z2 (rowsTo M2 n2)) noObj wr w3) := Lib.hid (by
                    have s1 := (Sep3.start wr).create keeps_no keeps_no hb2.out (A' := matO gm n2 z2 M2) hm2.out
                    have s2 := (s1.rot).create keeps_no (keeps_mat gm n2 z2 _) hb3.out (A' := rmO gk n2 z2 (rowsTo M2 n2)) hm3.out
                    exact s2.rot.rot)
                  have HLK := Lib.hid (sep_like HSL.out (HT.out.grow HBR.out))
                  clear hm2 hm3 hb2 hb3 HFE HRE HSL
                  go_wp2_with fail
                  refine HLK.out.mono ?_
                  rintro e w4 ⟨rfl, hb4⟩
                  have HBN := Lib.hid (HBK.out.trans ((HB23.out.trans (hb4.out.mono HB23.out.size)).mono HBK.out.size))
                  clear hb4 HLK
                  go_wp2_with fail
                  go_roundw
                  case rel => exact ⟨1 + 1, by omega, by first | rfl | go_num | simp, HBN⟩
                  case measure => simp [intOf]
              · have HBF := Lib.hid (HBZ.out.trans (HBK.out.mono HBZ.out.size))
                clear ht2 HBK
                go_wp2_with fail
                refine (awake6_any _ (HT.out.grow HBF.out)).mono ?_
                rintro e w9 ⟨rfl, hb9⟩
                have HB9 := Lib.hid ((HBF.out).trans (hb9.out.mono (HBF.out).size))
                clear hb9
                go_wp2_with fail
                go_ret
                exact ⟨rfl, HB9.out⟩
      · have hbad : x < 1 ∨ 256 < x ∨ y < 1 ∨ 16 < y := by omega
        have HRN := Lib.hid (rnewM_bad x y w1 hbad)
        clear hgood hbad
        go_wp2_with fail
        refine HRN.out.mono ?_
        rintro e w2 ⟨rfl, rfl⟩
        go_wp2_with fail
        refine (awake6_any _ (HT.out.grow HB1.out)).mono ?_
        rintro e w9 ⟨rfl, hb9⟩
        have HB9 := Lib.hid ((HB1.out).trans (hb9.out.mono (HB1.out).size))
        clear hb9
        go_wp2_with fail
        go_ret
        exact ⟨rfl, HB9.out⟩
end Go.Proofs.YtgeodhffgbhmaaaDoor.El
