/- elim's addAll and From: by contracts. elim.From: by contract. -/
import Derived.Test.YtgeodhffgbhmaaaDoorElFromM
namespace Go.Proofs.YtgeodhffgbhmaaaDoor.El
open Go.RowKit
open VecM Vc
/-- what addAll tells: were all rows added; and then, the matrix -/
def AddAllOk (B gm n z : Nat) (R : Option Mx) (w : World) (e : Ending) (w' : World) : Prop :=
  e = .returned (.bool R.isSome) ∧ Hid (Below B w w') ∧ Hid (∀ M', R = some M' → Inv n z M' ∧ IsMat w' (fun b => B ≤ b) gm n z M')
set_option maxRecDepth 100000 in
set_option maxHeartbeats 3200000 in
theorem addAll_any (B gm n z : Nat) (M : Mx) (A : Option Addr) (m c0 : Nat) (l : List UInt8) (w : World) (hm : IsMat w (fun b => B ≤ b) gm n z M) (hi : Inv n z M) (hr : Row w B A m (bv l)) (hB : B ≤ w.heap.size) (hc : m ≤ c0 ∧ c0 ≤ 9223372036854775807) (ht : DTab w) (hd : 0 < B) :
    Calls Tryd.prog 47 #[.pointer (some ⟨gm, 0, none⟩), .slice A m c0] w (AddAllOk B gm n z (addAllM n z m M l) w) := by
  have HM0 := Lib.hid hm
  have HI0 := Lib.hid hi
  have HR0 := Lib.hid hr
  have HT := Lib.hid ht
  have HD := Lib.hid hd
  obtain ⟨hn1, hn2, hz1, hz2, hc0⟩ : 1 ≤ n ∧ n ≤ 256 ∧ 1 ≤ z ∧ z ≤ 16 ∧ w.cell? ⟨gm, 0, none⟩ = some (.int .i64 (n : Int)) := by
    obtain ⟨gr, rs, _, hmat⟩ := hm
    exact ⟨hmat.n1, hmat.n2, hmat.z1, hmat.z2, hmat.cells.1⟩
  have hlm : l.length = m := hr.blen
  clear hm hi hr ht hd
  obtain ⟨wd, hwd⟩ : ∃ wd, bw n = wd := ⟨_, rfl⟩
  have HWD := Lib.hid hwd
  have HBW : Hid (((n : Int) + 7) / 8 = (wd : Int)) := Lib.hid (by rw [← hwd]; unfold bw; omega)
  have hwd1 : 1 ≤ wd := by rw [← hwd]; unfold bw; omega
  have hwd2 : wd ≤ 32 := by rw [← hwd]; unfold bw; omega
  have hni : (n : Int) ≤ 256 := by omega
  have hzi : (z : Int) ≤ 16 := by omega
  have hzi1 : (1 : Int) ≤ (z : Int) := by omega
  have hwi : (wd : Int) ≤ 32 := by omega
  have hwi1 : (1 : Int) ≤ (wd : Int) := by omega
  obtain ⟨RES, hRES⟩ : ∃ R, addAllM n z m M l = R := ⟨_, rfl⟩
  rw [hRES]
  have HRES := Lib.hid hRES
  clear hwd hRES
  go_enter Tryd.func47, Tryd.ntmps47
  go_upto_region 1 with fail
  go_wp2_with (rw [HBW.out])
  clear hc0 HBW
  go_loopw [1] (fun s wr => ∃ (m' cp k : Nat) (A' : Option Addr) (M' : Mx) (l' : List UInt8), s = .slice A' m' cp ∧ (m' ≤ cp ∧ cp ≤ 9223372036854775807) ∧ l'.length = m' ∧ m' ≤ k ∧ Hid (addAllM n z k M' l' = RES) ∧ Hid (Inv n z M') ∧ Hid (IsMat wr (fun b => B ≤ b) gm n z M') ∧ Hid (Row wr B A' m' (bv l')) ∧ Hid (Below B w wr)) (fun s _ => match s with | .slice _ m' _ => m' | _ => 0)
  case atStart => exact ⟨m, c0, m, A, M, l, rfl, hc, hlm, Nat.le_refl _, HRES, HI0, HM0, HR0, Lib.hid (Below.refl _ _)⟩
  case round =>
    obtain ⟨m', cp, k, A', M', l', rfl, ⟨hmc, hcx⟩, hll, hmk, HE, HI, HM, HR, HBK⟩ := hrel
    clear HRES HI0 HM0 HR0 hlm hc
    have HBB : Hid (B ≤ wr.heap.size) := Lib.hid (Nat.le_trans hB HBK.out.size)
    by_cases h0 : m' = 0
    · subst h0
      have hres : RES = some M' := by rw [← HE.out]; exact addAll_zero n z k M' hll
      subst hres
      have HIM := Lib.hid (And.intro HI.out HM.out)
      clear hmk hll
      go_wp2_with fail
      go_ret
      exact ⟨rfl, HBK, Lib.hid (fun _ h => by injection h with h; subst h; exact HIM.out)⟩
    · have hm0 : (0 : Int) < (m' : Int) := by omega
      obtain ⟨k, rfl⟩ : ∃ k', k = k' + 1 := ⟨k - 1, by omega⟩
      obtain ⟨hcA, hcB⟩ : wr.cell? ⟨gm, 0, none⟩ = some (.int .i64 (n : Int)) ∧ wr.cell? ⟨gm, 1, none⟩ = some (.int .i64 (z : Int)) := by
        obtain ⟨gr, rs, _, hmat⟩ := HM.out
        exact ⟨hmat.cells.1, hmat.cells.2.1⟩
      by_cases hlt : m' < wd + z
      · have hlti : (m' : Int) < (wd : Int) + (z : Int) := by omega
        have hres : RES = none := by rw [← HE.out]; exact addAll_few n z k M' (by omega) (by rw [HWD.out]; omega)
        subst hres
        go_wp2_with fail
        go_ret
        exact ⟨rfl, HBK, Lib.hid (fun _ h => by cases h)⟩
      · have hlti : ¬ (m' : Int) < (wd : Int) + (z : Int) := by omega
        have hwc : (wd : Int) ≤ (cp : Int) := by omega
        have HC0 : Hid (∀ W, Below wr.heap.size wr W → W.cell? ⟨gm, 0, none⟩ = some (.int .i64 (n : Int))) := Lib.hid fun W hW => (hW.cell (p := ⟨gm, 0, none⟩) (block_lt_of_cell hcA)).trans hcA
        have HHD : Hid (Row wr B A' wd (bv (l'.take wd))) := Lib.hid (by rw [← bv_take]; exact HR.out.head (by omega))
        go_upto_region 5 with fail
        clear hcA hcB
        by_cases hft : fits n (l'.take wd)
        · have HFT := Lib.hid hft
          refine wp_region_noPanic ?_
          refine wp_region_held_drew (S := (fun W => Below (wr.heap.size) wr W)) (by kernel_rfl) (Below.refl _ _).drew (fun hH0 => ?_)
          have hH0 : Below (wr.heap.size) wr wr.drew := hH0
          generalize wr.drew = wd7000 at *
          refine wpAnyH_take (i := 0) (oi := { dst := some 27, op := Op.move (Operand.tmp 0), type := 25, pos := "elim.go:154", after := #[], guard := none }) (v := ?tkv7001) rfl (by kernel_rfl) (by kernel_rfl) (by kernel_rfl) (fun _ _ _ h => h) (Or.inl ⟨by rfl, ?tky7001⟩) hH0 ?tkr7001
          case tky7001 => (intro w' hSw; clear hSw; go_simp; try with_reducible rfl)
          try simp only [Act.put, List.setIfInBounds_toArray, List.set_cons_zero, List.set_cons_succ]
          refine wpAnyH_take (i := 1) (oi := { dst := some 28, op := Op.nilCheck (Operand.tmp 27), type := 0, pos := "elim.go:154", after := #[{ on := 0, ground := Ground.data }], guard := none }) (v := ?tkv7002) rfl (by kernel_rfl) (by kernel_rfl) (by kernel_rfl) (fun _ _ _ h => h) (Or.inl ⟨by rfl, ?tky7002⟩) hH0 ?tkr7002
          case tky7002 => (intro w' hSw; clear hSw; go_simp; try with_reducible rfl)
          try simp only [Act.put, List.setIfInBounds_toArray, List.set_cons_zero, List.set_cons_succ]
          refine wpAnyH_take (i := 2) (oi := { dst := some 29, op := Op.fieldAddr 69 (Operand.tmp 28) 0, type := 0, pos := "elim.go:154", after := #[{ on := 1, ground := Ground.data }], guard := none }) (v := ?tkv7003) rfl (by kernel_rfl) (by kernel_rfl) (by kernel_rfl) (fun _ _ _ h => h) (Or.inl ⟨by rfl, ?tky7003⟩) hH0 ?tkr7003
          case tky7003 => (intro w' hSw; clear hSw; go_simp; try with_reducible rfl)
          try simp only [Act.put, List.setIfInBounds_toArray, List.set_cons_zero, List.set_cons_succ]
          refine wpAnyH_take (i := 3) (oi := { dst := some 30, op := Op.load 3 (Operand.tmp 29), type := 3, pos := "elim.go:154", after := #[{ on := 2, ground := Ground.data }], guard := none }) (v := ?tkv7004) rfl (by kernel_rfl) (by kernel_rfl) (by kernel_rfl) (fun _ _ _ h => h) (Or.inl ⟨by rfl, ?tky7004⟩) hH0 ?tkr7004
          case tky7004 => (intro w' hSw; have z0 := HC0.out _ hSw; clear hSw; go_simp; try with_reducible rfl)
          try simp only [Act.put, List.setIfInBounds_toArray, List.set_cons_zero, List.set_cons_succ]
          refine wpAnyH_take (i := 4) (oi := { dst := some 31, op := Op.move (Operand.tmp 1), type := 30, pos := "elim.go:154", after := #[], guard := none }) (v := ?tkv7005) rfl (by kernel_rfl) (by kernel_rfl) (by kernel_rfl) (fun _ _ _ h => h) (Or.inl ⟨by rfl, ?tky7005⟩) hH0 ?tkr7005
          case tky7005 => (intro w' hSw; clear hSw; go_simp; try with_reducible rfl)
          try simp only [Act.put, List.setIfInBounds_toArray, List.set_cons_zero, List.set_cons_succ]
          refine wpAnyH_take (i := 5) (oi := { dst := some 32, op := Op.move (Operand.tmp 5), type := 3, pos := "elim.go:154", after := #[], guard := none }) (v := ?tkv7006) rfl (by kernel_rfl) (by kernel_rfl) (by kernel_rfl) (fun _ _ _ h => h) (Or.inl ⟨by rfl, ?tky7006⟩) hH0 ?tkr7006
          case tky7006 => (intro w' hSw; clear hSw; go_simp; try with_reducible rfl)
          try simp only [Act.put, List.setIfInBounds_toArray, List.set_cons_zero, List.set_cons_succ]
          refine wpAnyH_take (i := 6) (oi := { dst := some 33, op := Op.slice 30 (Operand.tmp 31) none (some (Operand.tmp 32)) none, type := 30, pos := "elim.go:154", after := #[{ on := 4, ground := Ground.data }, { on := 5, ground := Ground.data }], guard := none }) (v := ?tkv7007) rfl (by kernel_rfl) (by kernel_rfl) (by kernel_rfl) (fun _ _ _ h => h) (Or.inl ⟨by rfl, ?tky7007⟩) hH0 ?tkr7007
          case tky7007 => (intro w' hSw; have z0 := HC0.out _ hSw; clear hSw; go_simp; try with_reducible rfl)
          try simp only [Act.put, List.setIfInBounds_toArray, List.set_cons_zero, List.set_cons_succ]
          refine wpAnyH_ready (rs := [7]) (by kernel_rfl) (by simp) ?_
          refine AllReadyH.cons (o := { dst := some 34, op := Op.call { callee := Callee.value (Operand.func 58), args := #[Operand.tmp 30, Operand.tmp 33], argTypes := #[3, 30] }, type := 107, pos := "elim.go:154", after := #[{ on := 3, ground := Ground.data }, { on := 6, ground := Ground.data }], guard := none }) rfl (fun K hK => ?_) AllReadyH.nil
          go_simp
          refine (from_ok n A' wd cp B (l'.take wd) wd7000 (HHD.out.below (((hH0)).mono HBB.out)) (Nat.le_trans HBB.out (hH0).size) (by omega) (by omega) HFT.out).mono ?_
          rintro e' wn7008 ⟨g7008, h7008, rfl, hg7008, hh7008, hv7008, hbo7008⟩
          have hb7008 := hbo7008.out
          have VE7008_ := Lib.hid hv7008.out
          clear hbo7008 hv7008 hg7008 hh7008
          go_simp
          have hS7008 : Below (wr.heap.size) wr wn7008 := (hH0).trans (hb7008.mono (hH0).size)
          refine hK.out _ _ hS7008 (fun hH7008 => ?_)
          have hH7008 : Below (wr.heap.size) wr wn7008 := hH7008
          clear hK K hS7008
          try simp only [Act.put, List.setIfInBounds_toArray, List.set_cons_zero, List.set_cons_succ]
          refine wpAnyH_take (i := 8) (oi := { dst := some 26, op := Op.move (Operand.tmp 34), type := 107, pos := "elim.go:154", after := #[{ on := 7, ground := Ground.data }], guard := none }) (v := ?tkv7009) rfl (by kernel_rfl) (by kernel_rfl) (by kernel_rfl) (fun _ _ _ h => h) (Or.inl ⟨by rfl, ?tky7009⟩) hH7008 ?tkr7009
          case tky7009 => (intro w' hSw; clear hSw; go_simp; try with_reducible rfl)
          try simp only [Act.put, List.setIfInBounds_toArray, List.set_cons_zero, List.set_cons_succ]
          refine wpAnyH_take (i := 9) (oi := { dst := some 35, op := Op.extract (Operand.tmp 26) 0, type := 33, pos := "elim.go:154", after := #[{ on := 8, ground := Ground.data }], guard := none }) (v := ?tkv7010) rfl (by kernel_rfl) (by kernel_rfl) (by kernel_rfl) (fun _ _ _ h => h) (Or.inl ⟨by rfl, ?tky7010⟩) hH7008 ?tkr7010
          case tky7010 => (intro w' hSw; clear hSw; go_simp; try with_reducible rfl)
          try simp only [Act.put, List.setIfInBounds_toArray, List.set_cons_zero, List.set_cons_succ]
          refine wpAnyH_take (i := 10) (oi := { dst := some 36, op := Op.extract (Operand.tmp 26) 1, type := 4, pos := "elim.go:154", after := #[{ on := 8, ground := Ground.data }, { on := 11, ground := Ground.gcOnly Departure.lateStores }], guard := none }) (v := ?tkv7011) rfl (by kernel_rfl) (by kernel_rfl) (by kernel_rfl) (fun _ _ _ h => h) (Or.inl ⟨by rfl, ?tky7011⟩) hH7008 ?tkr7011
          case tky7011 => (intro w' hSw; clear hSw; go_simp; try with_reducible rfl)
          try simp only [Act.put, List.setIfInBounds_toArray, List.set_cons_zero, List.set_cons_succ]
          refine wpAnyH_take (i := 11) (oi := { dst := some 6, op := Op.assign (Operand.tmp 35), type := 33, pos := "elim.go:154", after := #[{ on := 9, ground := Ground.data }, { on := 7, ground := Ground.chain }, { on := 0, ground := Ground.phase }, { on := 1, ground := Ground.phase }, { on := 2, ground := Ground.phase }, { on := 3, ground := Ground.phase }, { on := 4, ground := Ground.phase }, { on := 5, ground := Ground.phase }, { on := 6, ground := Ground.phase }, { on := 7, ground := Ground.phase }, { on := 8, ground := Ground.phase }, { on := 9, ground := Ground.phase }, { on := 10, ground := Ground.textOnly Departure.lateStores }], guard := none }) (v := ?tkv7012) rfl (by kernel_rfl) (by kernel_rfl) (by kernel_rfl) (fun _ _ _ h => h) (Or.inl ⟨by rfl, ?tky7012⟩) hH7008 ?tkr7012
          case tky7012 => (intro w' hSw; clear hSw; go_simp; try with_reducible rfl)
          try simp only [Act.put, List.setIfInBounds_toArray, List.set_cons_zero, List.set_cons_succ]
          refine wpAnyH_take (i := 12) (oi := { dst := some 7, op := Op.assign (Operand.tmp 36), type := 4, pos := "elim.go:154", after := #[{ on := 10, ground := Ground.data }, { on := 11, ground := Ground.chain }, { on := 0, ground := Ground.phase }, { on := 1, ground := Ground.phase }, { on := 2, ground := Ground.phase }, { on := 3, ground := Ground.phase }, { on := 4, ground := Ground.phase }, { on := 5, ground := Ground.phase }, { on := 6, ground := Ground.phase }, { on := 7, ground := Ground.phase }, { on := 8, ground := Ground.phase }, { on := 9, ground := Ground.phase }, { on := 10, ground := Ground.phase }, { on := 11, ground := Ground.phase }], guard := none }) (v := ?tkv7013) rfl (by kernel_rfl) (by kernel_rfl) (by kernel_rfl) (fun _ _ _ h => h) (Or.inl ⟨by rfl, ?tky7013⟩) hH7008 ?tkr7013
          case tky7013 => (intro w' hSw; clear hSw; go_simp; try with_reducible rfl)
          try simp only [Act.put, List.setIfInBounds_toArray, List.set_cons_zero, List.set_cons_succ]
          refine wpAnyH_done (by kernel_rfl) ?_ _
          refine NoPanic.normal ?_
          have HBV := Lib.hid (hH7008)
          obtain ⟨wv, rfl⟩ : ∃ x : World, x = wn7008 := ⟨_, rfl⟩
          have HV := Lib.hid VE7008_.out
          obtain ⟨gv, hgv⟩ : ∃ gv, g7008 = gv := ⟨_, rfl⟩
          subst hgv
          have HMV := Lib.hid (HM.out.below HBV.out)
          have HB5 := Lib.hid (HBK.out.trans (HBV.out.mono HBB.out))
          have HRV := Lib.hid (HR.out.below (HBV.out.mono HBB.out))
          have HDV := Lib.hid (HT.out.below HB5.out HD.out)
          have hcx : wv.cell? ⟨gm, 1, none⟩ = some (.int .i64 (z : Int)) := by
            obtain ⟨gr, rs, _, hmat⟩ := HMV.out
            exact hmat.cells.2.1
          have hlz : ((l'.drop wd).take z).length = z := by rw [List.length_take, List.length_drop]; omega
          have HRC : Hid (Row wv wv.heap.size (A'.map fun x => x.add wd) ((l'.drop wd).take z).length (bv ((l'.drop wd).take z))) := Lib.hid (by
            rw [hlz, ← bv_take, ← bv_drop]
            exact (HRV.out.cut (by omega)).more (Nat.le_trans HBB.out HBV.out.size))
          have HADD := Lib.hid (addI (c0 := cp - wd) HMV.out HI.out HV.out HRC.out hlz HDV.out)
          have HIA := Lib.hid (addMx_inv (M := M') HI.out hn2 HV.out.2.1 hlz)
          have HOLD := Lib.hid (addAll_old n z k M' (b := l') (by omega) (by rw [HWD.out]; omega) (by rw [HWD.out]; exact HFT.out))
          have HNEW := Lib.hid (addAll_new n z k M' (b := l') (by omega) (by rw [HWD.out]; omega) (by rw [HWD.out]; exact HFT.out))
          rw [HWD.out] at HADD HIA HOLD HNEW
          clear hlz
          generalize addMx n M' (frN (l'.take wd) wd) ((l'.drop wd).take z) = R at *
          obtain ⟨M2, b2⟩ := R
          have HGB : Hid (∀ w9 : World, Fr wv w9 (fun b => B ≤ b) → Below B w w9) := Lib.hid fun w9 h => HB5.out.trans (h.below (fun _ h => h) (Nat.le_trans HBB.out HBV.out.size))
          cases b2 with
          | false =>
            have hres : RES = none := by rw [← HE.out]; exact HOLD.out rfl
            subst hres
            clear HNEW HOLD
            go_wp2_with fail
            refine HADD.out.mono ?_
            rintro e w9 ⟨rfl, _, hf9⟩
            have HB9 := Lib.hid (HGB.out w9 hf9.out)
            clear hf9 hcx
            go_wp2_with fail
            go_ret
            exact ⟨rfl, HB9, Lib.hid (fun _ h => by cases h)⟩
          | true =>
            have HE2 : Hid (addAllM n z k M2 (l'.drop (wd + z)) = RES) := Lib.hid (by rw [← HE.out, HNEW.out rfl])
            clear HNEW HOLD
            go_wp2_with fail
            refine HADD.out.mono ?_
            rintro e w9 ⟨rfl, hm9, hf9⟩
            have HB9 := Lib.hid (HGB.out w9 hf9.out)
            have HM9 : Hid (IsMat w9 (fun b => B ≤ b) gm n z M2) := Lib.hid (hm9.out.more fun b hb => hb.elim id fun h => Nat.le_trans (Nat.le_trans HBB.out HBV.out.size) h.1)
            have HR9 : Hid (Row w9 B (if cp = wd + z then A' else A'.map fun x => x.add (wd + z)) (m' - (wd + z)) (bv (l'.drop (wd + z)))) := Lib.hid (by
              rw [← bv_drop]
              exact (HRV.out.below (hf9.out.below (fun _ h => h) (Nat.le_trans HBB.out HBV.out.size))).tail (by omega) hmc)
            have hcz : w9.cell? ⟨gm, 1, none⟩ = some (.int .i64 (z : Int)) := by
              obtain ⟨gr, rs, _, hmat⟩ := HM9.out
              exact hmat.cells.2.1
            have hll2 : (l'.drop (wd + z)).length = m' - (wd + z) := by rw [List.length_drop, hll]
            have HLL2 := Lib.hid hll2
            clear hm9 hf9 hcx hll2
            obtain ⟨wz, hwz⟩ : ∃ wz, wd + z = wz := ⟨_, rfl⟩
            have hwzi : (wd : Int) + (z : Int) = (wz : Int) := by omega
            rw [hwz] at HR9 HLL2 HE2
            go_wp2_with fail
            go_roundw
            case rel => exact ⟨_, _, k, _, M2, l'.drop wz, rfl, ⟨by omega, by omega⟩, HLL2.out, by omega, HE2, HIA, HM9, HR9, HB9⟩
            case measure => simp; omega
        · have hres : RES = none := by rw [← HE.out]; exact addAll_unfit n z k M' (by omega) (by rw [HWD.out]; omega) (by rw [HWD.out]; exact hft)
          subst hres
          have HFT := Lib.hid hft
          refine wp_region_noPanic ?_
          refine wp_region_held_drew (S := (fun W => Below (wr.heap.size) wr W)) (by kernel_rfl) (Below.refl _ _).drew (fun hH0 => ?_)
          have hH0 : Below (wr.heap.size) wr wr.drew := hH0
          generalize wr.drew = wd8000 at *
          refine wpAnyH_take (i := 0) (oi := { dst := some 27, op := Op.move (Operand.tmp 0), type := 25, pos := "elim.go:154", after := #[], guard := none }) (v := ?tkv8001) rfl (by kernel_rfl) (by kernel_rfl) (by kernel_rfl) (fun _ _ _ h => h) (Or.inl ⟨by rfl, ?tky8001⟩) hH0 ?tkr8001
          case tky8001 => (intro w' hSw; clear hSw; go_simp; try with_reducible rfl)
          try simp only [Act.put, List.setIfInBounds_toArray, List.set_cons_zero, List.set_cons_succ]
          refine wpAnyH_take (i := 1) (oi := { dst := some 28, op := Op.nilCheck (Operand.tmp 27), type := 0, pos := "elim.go:154", after := #[{ on := 0, ground := Ground.data }], guard := none }) (v := ?tkv8002) rfl (by kernel_rfl) (by kernel_rfl) (by kernel_rfl) (fun _ _ _ h => h) (Or.inl ⟨by rfl, ?tky8002⟩) hH0 ?tkr8002
          case tky8002 => (intro w' hSw; clear hSw; go_simp; try with_reducible rfl)
          try simp only [Act.put, List.setIfInBounds_toArray, List.set_cons_zero, List.set_cons_succ]
          refine wpAnyH_take (i := 2) (oi := { dst := some 29, op := Op.fieldAddr 69 (Operand.tmp 28) 0, type := 0, pos := "elim.go:154", after := #[{ on := 1, ground := Ground.data }], guard := none }) (v := ?tkv8003) rfl (by kernel_rfl) (by kernel_rfl) (by kernel_rfl) (fun _ _ _ h => h) (Or.inl ⟨by rfl, ?tky8003⟩) hH0 ?tkr8003
          case tky8003 => (intro w' hSw; clear hSw; go_simp; try with_reducible rfl)
          try simp only [Act.put, List.setIfInBounds_toArray, List.set_cons_zero, List.set_cons_succ]
          refine wpAnyH_take (i := 3) (oi := { dst := some 30, op := Op.load 3 (Operand.tmp 29), type := 3, pos := "elim.go:154", after := #[{ on := 2, ground := Ground.data }], guard := none }) (v := ?tkv8004) rfl (by kernel_rfl) (by kernel_rfl) (by kernel_rfl) (fun _ _ _ h => h) (Or.inl ⟨by rfl, ?tky8004⟩) hH0 ?tkr8004
          case tky8004 => (intro w' hSw; have z0 := HC0.out _ hSw; clear hSw; go_simp; try with_reducible rfl)
          try simp only [Act.put, List.setIfInBounds_toArray, List.set_cons_zero, List.set_cons_succ]
          refine wpAnyH_take (i := 4) (oi := { dst := some 31, op := Op.move (Operand.tmp 1), type := 30, pos := "elim.go:154", after := #[], guard := none }) (v := ?tkv8005) rfl (by kernel_rfl) (by kernel_rfl) (by kernel_rfl) (fun _ _ _ h => h) (Or.inl ⟨by rfl, ?tky8005⟩) hH0 ?tkr8005
          case tky8005 => (intro w' hSw; clear hSw; go_simp; try with_reducible rfl)
          try simp only [Act.put, List.setIfInBounds_toArray, List.set_cons_zero, List.set_cons_succ]
          refine wpAnyH_take (i := 5) (oi := { dst := some 32, op := Op.move (Operand.tmp 5), type := 3, pos := "elim.go:154", after := #[], guard := none }) (v := ?tkv8006) rfl (by kernel_rfl) (by kernel_rfl) (by kernel_rfl) (fun _ _ _ h => h) (Or.inl ⟨by rfl, ?tky8006⟩) hH0 ?tkr8006
          case tky8006 => (intro w' hSw; clear hSw; go_simp; try with_reducible rfl)
          try simp only [Act.put, List.setIfInBounds_toArray, List.set_cons_zero, List.set_cons_succ]
          refine wpAnyH_take (i := 6) (oi := { dst := some 33, op := Op.slice 30 (Operand.tmp 31) none (some (Operand.tmp 32)) none, type := 30, pos := "elim.go:154", after := #[{ on := 4, ground := Ground.data }, { on := 5, ground := Ground.data }], guard := none }) (v := ?tkv8007) rfl (by kernel_rfl) (by kernel_rfl) (by kernel_rfl) (fun _ _ _ h => h) (Or.inl ⟨by rfl, ?tky8007⟩) hH0 ?tkr8007
          case tky8007 => (intro w' hSw; have z0 := HC0.out _ hSw; clear hSw; go_simp; try with_reducible rfl)
          try simp only [Act.put, List.setIfInBounds_toArray, List.set_cons_zero, List.set_cons_succ]
          refine wpAnyH_ready (rs := [7]) (by kernel_rfl) (by simp) ?_
          refine AllReadyH.cons (o := { dst := some 34, op := Op.call { callee := Callee.value (Operand.func 58), args := #[Operand.tmp 30, Operand.tmp 33], argTypes := #[3, 30] }, type := 107, pos := "elim.go:154", after := #[{ on := 3, ground := Ground.data }, { on := 6, ground := Ground.data }], guard := none }) rfl (fun K hK => ?_) AllReadyH.nil
          go_simp
          refine (from_no n A' wd cp B (l'.take wd) wd8000 (HHD.out.below (((hH0)).mono HBB.out)) (Nat.le_trans HBB.out (hH0).size) (by omega) (by omega) HFT.out).mono ?_
          rintro e' wn8008 ⟨rfl, hb8008⟩
          go_simp
          have hS8008 : Below (wr.heap.size) wr wn8008 := (hH0).trans (hb8008.mono (hH0).size)
          refine hK.out _ _ hS8008 (fun hH8008 => ?_)
          have hH8008 : Below (wr.heap.size) wr wn8008 := hH8008
          clear hK K hS8008
          try simp only [Act.put, List.setIfInBounds_toArray, List.set_cons_zero, List.set_cons_succ]
          refine wpAnyH_take (i := 8) (oi := { dst := some 26, op := Op.move (Operand.tmp 34), type := 107, pos := "elim.go:154", after := #[{ on := 7, ground := Ground.data }], guard := none }) (v := ?tkv8009) rfl (by kernel_rfl) (by kernel_rfl) (by kernel_rfl) (fun _ _ _ h => h) (Or.inl ⟨by rfl, ?tky8009⟩) hH8008 ?tkr8009
          case tky8009 => (intro w' hSw; clear hSw; go_simp; try with_reducible rfl)
          try simp only [Act.put, List.setIfInBounds_toArray, List.set_cons_zero, List.set_cons_succ]
          refine wpAnyH_take (i := 9) (oi := { dst := some 35, op := Op.extract (Operand.tmp 26) 0, type := 33, pos := "elim.go:154", after := #[{ on := 8, ground := Ground.data }], guard := none }) (v := ?tkv8010) rfl (by kernel_rfl) (by kernel_rfl) (by kernel_rfl) (fun _ _ _ h => h) (Or.inl ⟨by rfl, ?tky8010⟩) hH8008 ?tkr8010
          case tky8010 => (intro w' hSw; clear hSw; go_simp; try with_reducible rfl)
          try simp only [Act.put, List.setIfInBounds_toArray, List.set_cons_zero, List.set_cons_succ]
          refine wpAnyH_take (i := 10) (oi := { dst := some 36, op := Op.extract (Operand.tmp 26) 1, type := 4, pos := "elim.go:154", after := #[{ on := 8, ground := Ground.data }, { on := 11, ground := Ground.gcOnly Departure.lateStores }], guard := none }) (v := ?tkv8011) rfl (by kernel_rfl) (by kernel_rfl) (by kernel_rfl) (fun _ _ _ h => h) (Or.inl ⟨by rfl, ?tky8011⟩) hH8008 ?tkr8011
          case tky8011 => (intro w' hSw; clear hSw; go_simp; try with_reducible rfl)
          try simp only [Act.put, List.setIfInBounds_toArray, List.set_cons_zero, List.set_cons_succ]
          refine wpAnyH_take (i := 11) (oi := { dst := some 6, op := Op.assign (Operand.tmp 35), type := 33, pos := "elim.go:154", after := #[{ on := 9, ground := Ground.data }, { on := 7, ground := Ground.chain }, { on := 0, ground := Ground.phase }, { on := 1, ground := Ground.phase }, { on := 2, ground := Ground.phase }, { on := 3, ground := Ground.phase }, { on := 4, ground := Ground.phase }, { on := 5, ground := Ground.phase }, { on := 6, ground := Ground.phase }, { on := 7, ground := Ground.phase }, { on := 8, ground := Ground.phase }, { on := 9, ground := Ground.phase }, { on := 10, ground := Ground.textOnly Departure.lateStores }], guard := none }) (v := ?tkv8012) rfl (by kernel_rfl) (by kernel_rfl) (by kernel_rfl) (fun _ _ _ h => h) (Or.inl ⟨by rfl, ?tky8012⟩) hH8008 ?tkr8012
          case tky8012 => (intro w' hSw; clear hSw; go_simp; try with_reducible rfl)
          try simp only [Act.put, List.setIfInBounds_toArray, List.set_cons_zero, List.set_cons_succ]
          refine wpAnyH_take (i := 12) (oi := { dst := some 7, op := Op.assign (Operand.tmp 36), type := 4, pos := "elim.go:154", after := #[{ on := 10, ground := Ground.data }, { on := 11, ground := Ground.chain }, { on := 0, ground := Ground.phase }, { on := 1, ground := Ground.phase }, { on := 2, ground := Ground.phase }, { on := 3, ground := Ground.phase }, { on := 4, ground := Ground.phase }, { on := 5, ground := Ground.phase }, { on := 6, ground := Ground.phase }, { on := 7, ground := Ground.phase }, { on := 8, ground := Ground.phase }, { on := 9, ground := Ground.phase }, { on := 10, ground := Ground.phase }, { on := 11, ground := Ground.phase }], guard := none }) (v := ?tkv8013) rfl (by kernel_rfl) (by kernel_rfl) (by kernel_rfl) (fun _ _ _ h => h) (Or.inl ⟨by rfl, ?tky8013⟩) hH8008 ?tkr8013
          case tky8013 => (intro w' hSw; clear hSw; go_simp; try with_reducible rfl)
          try simp only [Act.put, List.setIfInBounds_toArray, List.set_cons_zero, List.set_cons_succ]
          refine wpAnyH_done (by kernel_rfl) ?_ _
          refine NoPanic.normal ?_
          have HBF := Lib.hid (HBK.out.trans ((hH8008).mono HBB.out))
          go_wp2_with fail
          go_ret
          exact ⟨rfl, HBF, Lib.hid (fun _ h => by cases h)⟩
theorem addAll_fuel (n z : Nat) (hz : 1 ≤ z) : ∀ (k k' : Nat) (M : Mx) (b : List UInt8), b.length ≤ k → b.length ≤ k' → addAllM n z k M b = addAllM n z k' M b := by
  intro k
  induction k with
  | zero => intro k' M b h _; rw [addAll_zero n z 0 M (by omega), addAll_zero n z k' M (by omega)]
  | succ k ih =>
    intro k' M b h h'
    by_cases h0 : b.length = 0
    · rw [addAll_zero n z _ M h0, addAll_zero n z k' M h0]
    · obtain ⟨k', rfl⟩ : ∃ j, k' = j + 1 := ⟨k' - 1, by omega⟩
      by_cases h1 : b.length < bw n + z
      · rw [addAll_few n z k M h0 h1, addAll_few n z k' M h0 h1]
      · by_cases h2 : fits n (b.take (bw n))
        · cases h3 : (addMx n M (frN (b.take (bw n)) (bw n)) ((b.drop (bw n)).take z)).2 with
          | false => rw [addAll_old n z k M h0 h1 h2 h3, addAll_old n z k' M h0 h1 h2 h3]
          | true =>
            rw [addAll_new n z k M h0 h1 h2 h3, addAll_new n z k' M h0 h1 h2 h3]
            exact ih k' _ _ (by rw [List.length_drop]; omega) (by rw [List.length_drop]; omega)
        · rw [addAll_unfit n z k M h0 h1 h2, addAll_unfit n z k' M h0 h1 h2]
theorem equalE_any (B n cap n' cap' : Nat) (A A' : Option Addr) (l l' : List UInt8) (w : World) (hl : Row w B A n (bv l)) (hl' : Row w B A' n' (bv l')) :
    Calls Tryd.prog 48 #[.slice A n cap, .slice A' n' cap'] w (fun e w' => e = .returned (.bool (l == l')) ∧ w' = w) := by
  have k1 : ∀ W, Below B w W → (convert 30 9 (.slice A n cap)).run Tryd.prog W = .ok (.string ⟨l.toArray⟩) W := fun W hW => run_string_row (hl.below hW) _ _ _ 5 Tryd.underlying30 Tryd.underlying5 Tryd.underlying9
  have k2 : ∀ W, Below B w W → (convert 30 9 (.slice A' n' cap')).run Tryd.prog W = .ok (.string ⟨l'.toArray⟩) W := fun W hW => run_string_row (hl'.below hW) _ _ _ 5 Tryd.underlying30 Tryd.underlying5 Tryd.underlying9
  have k1' := k1 w (Below.refl _ _)
  have k2' := k2 w (Below.refl _ _)
  go_enter Tryd.func48, Tryd.ntmps48
  go_wp2_with fail
  go_ret
  exact ⟨rfl, rfl⟩
theorem IsMat.tight {W : World} {F : Nat → Prop} {gm n z : Nat} {M : Mx} (h : IsMat W F gm n z M) : IsMat W (fun b => F b ∧ b < W.heap.size) gm n z M := by
  obtain ⟨gr, rs, e, m⟩ := h
  refine ⟨gr, rs, e, ⟨m.n1, m.n2, m.z1, m.z2, m.len, m.head, m.rows, fun i r hr => ?_, m.apart, ⟨m.fm, m.lt.1⟩, ⟨m.fr, m.lt.2⟩⟩⟩
  obtain ⟨h1, h2, h3, h4, h5, h6⟩ := m.at_ i r hr
  exact ⟨h1, h2, h3, ⟨h4, h1.lt.1⟩, ⟨h5, h1.lt.2⟩, ⟨h6, h2.lt rfl⟩⟩
/-- what From tells -/
def FromNoI (w : World) (e : Ending) (w' : World) : Prop := e = .returned (.tuple #[.pointer none, .bool false]) ∧ Hid (Below w.heap.size w w')
def FromIOk (n z : Nat) (R : Option Mx) (w : World) (e : Ending) (w' : World) : Prop := match R with
  | none => FromNoI w e w'
  | some M => ∃ gm, e = .returned (.tuple #[.pointer (some ⟨gm, 0, none⟩), .bool true]) ∧ Hid (Inv n z M) ∧ Hid (IsMat w' (fun b => w.heap.size ≤ b ∧ b < w'.heap.size) gm n z M) ∧ Hid (Below w.heap.size w w')
end Go.Proofs.YtgeodhffgbhmaaaDoor.El
namespace Go.Proofs.YtgeodhffgbhmaaaDoor.El
open Go.RowKit
open VecM Vc
theorem fromI_few (A : Option Addr) (m c0 : Nat) (w : World) (h : m < 4) : Calls Tryd.prog 20 #[.slice A m c0] w (FromNoI w) := by
  go_enter Tryd.func20, Tryd.ntmps20
  go_wp2_with fail
  go_ret2
  exact ⟨rfl, Lib.hid (Below.refl _ _)⟩
set_option maxRecDepth 100000 in
set_option maxHeartbeats 1600000 in
theorem fromI_size (n z : Nat)
    (A : Option Addr) (m c0 : Nat) (l : List UInt8) (w : World) (hr : Row w w.heap.size A m (bv l)) (_hc : m ≤ c0 ∧ c0 ≤ 9223372036854775807) (h4 : 4 ≤ m) (hn : (l.getD 0 0).toNat + 1 = n) (hz : (l.getD 1 0).toNat = z) (hbad : z < 1 ∨ 16 < z) :
    Calls Tryd.prog 20 #[.slice A m c0] w (FromNoI w) := by
  have HR := Lib.hid hr
  have hlm : l.length = m := hr.blen
  obtain ⟨b, o, hA, _, hl0, hc0⟩ := hr.byteAt (k := 0) (by omega)
  subst hA
  obtain ⟨b', o', hA, _, hl1, hc1⟩ := hr.byteAt (k := 1) (by omega)
  injection hA with hA
  injection hA with hA1 hA2
  subst hA1 hA2
  have e0 : l[0] = l.getD 0 0 := by rw [List.getD_eq_getElem?_getD, List.getElem?_eq_getElem hl0]; rfl
  have e1 : l[1] = l.getD 1 0 := by rw [List.getD_eq_getElem?_getD, List.getElem?_eq_getElem hl1]; rfl
  obtain ⟨x0, hx0⟩ : ∃ x0, (l.getD 0 0).toNat = x0 := ⟨_, rfl⟩
  rw [e0, Nat.add_zero, hx0] at hc0
  rw [hx0] at hn
  rw [e1, hz] at hc1
  have hb0 : x0 < 256 := hx0 ▸ UInt8.toNat_lt (l.getD 0 0)
  have hb1 : z < 256 := hz ▸ UInt8.toNat_lt (l.getD 1 0)
  have HNI : Hid (IntKind.i64.wrap (IntKind.i64.wrap (x0 : Int) + 1) = (n : Int)) := Lib.hid (by
    have e1 : IntKind.i64.wrap (x0 : Int) = (x0 : Int) := IntWalk.i64_in _ (by omega)
    rw [e1, show (x0 : Int) + 1 = (n : Int) by omega]
    exact IntWalk.i64_in _ (by omega))
  have HZI : Hid (IntKind.i64.wrap (z : Int) = (z : Int)) := Lib.hid (IntWalk.i64_in _ (by omega))
  have hn2 : n ≤ 256 := by omega
  have hn1 : 1 ≤ n := by omega
  have hm4 : ¬ (m : Int) < 4 := by omega
  have hm0 : 0 < m := by omega
  have hm1 : 1 < m := by omega
  have hm1i : (1 : Int) < (m : Int) := by omega
  have HL : Hid (∀ W, Below w.heap.size w W → W.cell? ⟨b, o, none⟩ = some (.int .u8 (x0 : Int)) ∧ W.cell? ⟨b, o + 1, none⟩ = some (.int .u8 (z : Int))) := Lib.hid fun W hW => ⟨(hW.cell (p := ⟨b, o, none⟩) (block_lt_of_cell hc0)).trans hc0, (hW.cell (p := ⟨b, o + 1, none⟩) (block_lt_of_cell hc1)).trans hc1⟩
  clear e0 e1 hl0 hl1 hr
  go_enter Tryd.func20, Tryd.ntmps20
  go_upto_region 3 with fail
  refine wp_region_noPanic ?_
  refine wp_region_held_drew (S := (fun W => Below (w.heap.size) w W)) (by kernel_rfl) (Below.refl _ _).drew (fun hH0 => ?_)
  have hH0 : Below (w.heap.size) w w.drew := hH0
  generalize w.drew = wd3000 at *
  refine wpAnyH_take (i := 0) (oi := { dst := some 8, op := Op.move (Operand.tmp 0), type := 30, pos := "elim.go:136", after := #[], guard := none }) (v := ?tkv3001) rfl (by kernel_rfl) (by kernel_rfl) (by kernel_rfl) (fun _ _ _ h => h) (Or.inl ⟨by rfl, ?tky3001⟩) hH0 ?tkr3001
  case tky3001 => (intro w' hSw; clear hSw; go_simp; try with_reducible rfl)
  try simp only [Act.put, List.setIfInBounds_toArray, List.set_cons_zero, List.set_cons_succ]
  refine wpAnyH_take (i := 1) (oi := { dst := some 9, op := Op.indexAddr 30 (Operand.tmp 8) (Operand.const (Value.int IntKind.i64 0)), type := 0, pos := "elim.go:136", after := #[{ on := 0, ground := Ground.data }], guard := none }) (v := ?tkv3002) rfl (by kernel_rfl) (by kernel_rfl) (by kernel_rfl) (fun _ _ _ h => h) (Or.inl ⟨by rfl, ?tky3002⟩) hH0 ?tkr3002
  case tky3002 => (intro w' hSw; clear hSw; go_simp; try with_reducible rfl)
  try simp only [Act.put, List.setIfInBounds_toArray, List.set_cons_zero, List.set_cons_succ]
  refine wpAnyH_take (i := 2) (oi := { dst := some 10, op := Op.load 5 (Operand.tmp 9), type := 5, pos := "elim.go:136", after := #[{ on := 1, ground := Ground.data }], guard := none }) (v := ?tkv3003) rfl (by kernel_rfl) (by kernel_rfl) (by kernel_rfl) (fun _ _ _ h => h) (Or.inl ⟨by rfl, ?tky3003⟩) hH0 ?tkr3003
  case tky3003 => (intro w' hSw; have z0 := HL.out _ hSw; clear hSw; go_simp; try with_reducible rfl)
  try simp only [Act.put, List.setIfInBounds_toArray, List.set_cons_zero, List.set_cons_succ]
  refine wpAnyH_take (i := 3) (oi := { dst := some 11, op := Op.convert 5 3 (Operand.tmp 10), type := 3, pos := "elim.go:136", after := #[{ on := 2, ground := Ground.data }], guard := none }) (v := ?tkv3004) rfl (by kernel_rfl) (by kernel_rfl) (by kernel_rfl) (fun _ _ _ h => h) (Or.inl ⟨by rfl, ?tky3004⟩) hH0 ?tkr3004
  case tky3004 => (intro w' hSw; have z0 := HL.out _ hSw; clear hSw; go_simp; try with_reducible rfl)
  try simp only [Act.put, List.setIfInBounds_toArray, List.set_cons_zero, List.set_cons_succ]
  refine wpAnyH_take (i := 4) (oi := { dst := some 12, op := Op.binOp BinOp.add 3 (Operand.tmp 11) (Operand.const (Value.int IntKind.i64 1)) 3, type := 3, pos := "elim.go:136", after := #[{ on := 3, ground := Ground.data }], guard := none }) (v := ?tkv3005) rfl (by kernel_rfl) (by kernel_rfl) (by kernel_rfl) (fun _ _ _ h => h) (Or.inl ⟨by rfl, ?tky3005⟩) hH0 ?tkr3005
  case tky3005 => (intro w' hSw; clear hSw; go_simp; try with_reducible rfl)
  try simp only [Act.put, List.setIfInBounds_toArray, List.set_cons_zero, List.set_cons_succ]
  refine wpAnyH_take (i := 5) (oi := { dst := some 13, op := Op.move (Operand.tmp 0), type := 30, pos := "elim.go:136", after := #[], guard := none }) (v := ?tkv3006) rfl (by kernel_rfl) (by kernel_rfl) (by kernel_rfl) (fun _ _ _ h => h) (Or.inl ⟨by rfl, ?tky3006⟩) hH0 ?tkr3006
  case tky3006 => (intro w' hSw; clear hSw; go_simp; try with_reducible rfl)
  try simp only [Act.put, List.setIfInBounds_toArray, List.set_cons_zero, List.set_cons_succ]
  refine wpAnyH_take (i := 6) (oi := { dst := some 14, op := Op.indexAddr 30 (Operand.tmp 13) (Operand.const (Value.int IntKind.i64 1)), type := 0, pos := "elim.go:136", after := #[{ on := 5, ground := Ground.data }], guard := none }) (v := ?tkv3007) rfl (by kernel_rfl) (by kernel_rfl) (by kernel_rfl) (fun _ _ _ h => h) (Or.inl ⟨by rfl, ?tky3007⟩) hH0 ?tkr3007
  case tky3007 => (intro w' hSw; clear hSw; go_simp; try with_reducible rfl)
  try simp only [Act.put, List.setIfInBounds_toArray, List.set_cons_zero, List.set_cons_succ]
  refine wpAnyH_take (i := 7) (oi := { dst := some 15, op := Op.load 5 (Operand.tmp 14), type := 5, pos := "elim.go:136", after := #[{ on := 6, ground := Ground.data }], guard := none }) (v := ?tkv3008) rfl (by kernel_rfl) (by kernel_rfl) (by kernel_rfl) (fun _ _ _ h => h) (Or.inl ⟨by rfl, ?tky3008⟩) hH0 ?tkr3008
  case tky3008 => (intro w' hSw; have z0 := HL.out _ hSw; clear hSw; go_simp; try with_reducible rfl)
  try simp only [Act.put, List.setIfInBounds_toArray, List.set_cons_zero, List.set_cons_succ]
  refine wpAnyH_take (i := 8) (oi := { dst := some 16, op := Op.convert 5 3 (Operand.tmp 15), type := 3, pos := "elim.go:136", after := #[{ on := 7, ground := Ground.data }], guard := none }) (v := ?tkv3009) rfl (by kernel_rfl) (by kernel_rfl) (by kernel_rfl) (fun _ _ _ h => h) (Or.inl ⟨by rfl, ?tky3009⟩) hH0 ?tkr3009
  case tky3009 => (intro w' hSw; have z0 := HL.out _ hSw; clear hSw; go_simp; try with_reducible rfl)
  try simp only [Act.put, List.setIfInBounds_toArray, List.set_cons_zero, List.set_cons_succ]
  refine wpAnyH_ready (rs := [9]) (by kernel_rfl) (by simp) ?_
  refine AllReadyH.cons (o := { dst := some 17, op := Op.call { callee := Callee.value (Operand.func 8), args := #[Operand.tmp 12, Operand.tmp 16], argTypes := #[3, 3] }, type := 25, pos := "elim.go:136", after := #[{ on := 4, ground := Ground.data }, { on := 8, ground := Ground.data }], guard := none }) rfl (fun K hK => ?_) AllReadyH.nil
  go_simp
  rw [HNI.out, HZI.out]
  refine (newM_bad (n : Int) (z : Int) wd3000 (by omega)).mono ?_
  rintro e' wn3010 ⟨rfl, rfl⟩
  go_simp
  have hS3010 : Below (w.heap.size) w wd3000 := hH0
  refine hK.out _ _ hS3010 (fun hH3010 => ?_)
  have hH3010 : Below (w.heap.size) w wd3000 := hH3010
  clear hK K hS3010
  try simp only [Act.put, List.setIfInBounds_toArray, List.set_cons_zero, List.set_cons_succ]
  refine wpAnyH_take (i := 10) (oi := { dst := some 4, op := Op.assign (Operand.tmp 17), type := 25, pos := "elim.go:136", after := #[{ on := 9, ground := Ground.data }, { on := 9, ground := Ground.chain }, { on := 0, ground := Ground.phase }, { on := 1, ground := Ground.phase }, { on := 2, ground := Ground.phase }, { on := 3, ground := Ground.phase }, { on := 4, ground := Ground.phase }, { on := 5, ground := Ground.phase }, { on := 6, ground := Ground.phase }, { on := 7, ground := Ground.phase }, { on := 8, ground := Ground.phase }, { on := 9, ground := Ground.phase }], guard := none }) (v := ?tkv3011) rfl (by kernel_rfl) (by kernel_rfl) (by kernel_rfl) (fun _ _ _ h => h) (Or.inl ⟨by rfl, ?tky3011⟩) hH3010 ?tkr3011
  case tky3011 => (intro w' hSw; clear hSw; go_simp; try with_reducible rfl)
  try simp only [Act.put, List.setIfInBounds_toArray, List.set_cons_zero, List.set_cons_succ]
  refine wpAnyH_done (by kernel_rfl) ?_ _
  refine NoPanic.normal ?_
  have HBF := Lib.hid (hH3010)
  go_wp2_with fail
  go_ret2
  exact ⟨rfl, HBF⟩
set_option maxRecDepth 100000 in
set_option maxHeartbeats 3200000 in
theorem fromI (n z : Nat)
    (A : Option Addr) (m c0 : Nat) (l : List UInt8) (w : World) (hr : Row w w.heap.size A m (bv l)) (hc : m ≤ c0 ∧ c0 ≤ 9223372036854775807) (h4 : 4 ≤ m) (hn : (l.getD 0 0).toNat + 1 = n) (hz : (l.getD 1 0).toNat = z) (hz1 : 1 ≤ z) (hz2 : z ≤ 16) (ht : DTab w) :
    Calls Tryd.prog 20 #[.slice A m c0] w (FromIOk n z (fromM n z l) w) := by
  have HT := Lib.hid ht
  obtain ⟨RES, hRES⟩ : ∃ R, fromM n z l = R := ⟨_, rfl⟩
  rw [hRES]
  have HRES := Lib.hid hRES
  have HR := Lib.hid hr
  have hlm : l.length = m := hr.blen
  obtain ⟨b, o, hA, _, hl0, hc0⟩ := hr.byteAt (k := 0) (by omega)
  subst hA
  obtain ⟨b', o', hA, _, hl1, hc1⟩ := hr.byteAt (k := 1) (by omega)
  injection hA with hA
  injection hA with hA1 hA2
  subst hA1 hA2
  have e0 : l[0] = l.getD 0 0 := by rw [List.getD_eq_getElem?_getD, List.getElem?_eq_getElem hl0]; rfl
  have e1 : l[1] = l.getD 1 0 := by rw [List.getD_eq_getElem?_getD, List.getElem?_eq_getElem hl1]; rfl
  obtain ⟨x0, hx0⟩ : ∃ x0, (l.getD 0 0).toNat = x0 := ⟨_, rfl⟩
  rw [e0, Nat.add_zero, hx0] at hc0
  rw [hx0] at hn
  rw [e1, hz] at hc1
  have hb0 : x0 < 256 := hx0 ▸ UInt8.toNat_lt (l.getD 0 0)
  have hb1 : z < 256 := hz ▸ UInt8.toNat_lt (l.getD 1 0)
  have HNI : Hid (IntKind.i64.wrap (IntKind.i64.wrap (x0 : Int) + 1) = (n : Int)) := Lib.hid (by
    have e1 : IntKind.i64.wrap (x0 : Int) = (x0 : Int) := IntWalk.i64_in _ (by omega)
    rw [e1, show (x0 : Int) + 1 = (n : Int) by omega]
    exact IntWalk.i64_in _ (by omega))
  have HZI : Hid (IntKind.i64.wrap (z : Int) = (z : Int)) := Lib.hid (IntWalk.i64_in _ (by omega))
  have hn2 : n ≤ 256 := by omega
  have hn1 : 1 ≤ n := by omega
  have hm4 : ¬ (m : Int) < 4 := by omega
  have hm0 : 0 < m := by omega
  have hm1 : 1 < m := by omega
  have hm1i : (1 : Int) < (m : Int) := by omega
  have HL : Hid (∀ W, Below w.heap.size w W → W.cell? ⟨b, o, none⟩ = some (.int .u8 (x0 : Int)) ∧ W.cell? ⟨b, o + 1, none⟩ = some (.int .u8 (z : Int))) := Lib.hid fun W hW => ⟨(hW.cell (p := ⟨b, o, none⟩) (block_lt_of_cell hc0)).trans hc0, (hW.cell (p := ⟨b, o + 1, none⟩) (block_lt_of_cell hc1)).trans hc1⟩
  clear e0 e1 hl0 hl1 hr ht hRES
  go_enter Tryd.func20, Tryd.ntmps20
  go_upto_region 3 with fail
  refine wp_region_noPanic ?_
  refine wp_region_held_drew (S := (fun W => Below (w.heap.size) w W)) (by kernel_rfl) (Below.refl _ _).drew (fun hH0 => ?_)
  have hH0 : Below (w.heap.size) w w.drew := hH0
  generalize w.drew = wd4000 at *
  refine wpAnyH_take (i := 0) (oi := { dst := some 8, op := Op.move (Operand.tmp 0), type := 30, pos := "elim.go:136", after := #[], guard := none }) (v := ?tkv4001) rfl (by kernel_rfl) (by kernel_rfl) (by kernel_rfl) (fun _ _ _ h => h) (Or.inl ⟨by rfl, ?tky4001⟩) hH0 ?tkr4001
  case tky4001 => (intro w' hSw; clear hSw; go_simp; try with_reducible rfl)
  try simp only [Act.put, List.setIfInBounds_toArray, List.set_cons_zero, List.set_cons_succ]
  refine wpAnyH_take (i := 1) (oi := { dst := some 9, op := Op.indexAddr 30 (Operand.tmp 8) (Operand.const (Value.int IntKind.i64 0)), type := 0, pos := "elim.go:136", after := #[{ on := 0, ground := Ground.data }], guard := none }) (v := ?tkv4002) rfl (by kernel_rfl) (by kernel_rfl) (by kernel_rfl) (fun _ _ _ h => h) (Or.inl ⟨by rfl, ?tky4002⟩) hH0 ?tkr4002
  case tky4002 => (intro w' hSw; clear hSw; go_simp; try with_reducible rfl)
  try simp only [Act.put, List.setIfInBounds_toArray, List.set_cons_zero, List.set_cons_succ]
  refine wpAnyH_take (i := 2) (oi := { dst := some 10, op := Op.load 5 (Operand.tmp 9), type := 5, pos := "elim.go:136", after := #[{ on := 1, ground := Ground.data }], guard := none }) (v := ?tkv4003) rfl (by kernel_rfl) (by kernel_rfl) (by kernel_rfl) (fun _ _ _ h => h) (Or.inl ⟨by rfl, ?tky4003⟩) hH0 ?tkr4003
  case tky4003 => (intro w' hSw; have z0 := HL.out _ hSw; clear hSw; go_simp; try with_reducible rfl)
  try simp only [Act.put, List.setIfInBounds_toArray, List.set_cons_zero, List.set_cons_succ]
  refine wpAnyH_take (i := 3) (oi := { dst := some 11, op := Op.convert 5 3 (Operand.tmp 10), type := 3, pos := "elim.go:136", after := #[{ on := 2, ground := Ground.data }], guard := none }) (v := ?tkv4004) rfl (by kernel_rfl) (by kernel_rfl) (by kernel_rfl) (fun _ _ _ h => h) (Or.inl ⟨by rfl, ?tky4004⟩) hH0 ?tkr4004
  case tky4004 => (intro w' hSw; have z0 := HL.out _ hSw; clear hSw; go_simp; try with_reducible rfl)
  try simp only [Act.put, List.setIfInBounds_toArray, List.set_cons_zero, List.set_cons_succ]
  refine wpAnyH_take (i := 4) (oi := { dst := some 12, op := Op.binOp BinOp.add 3 (Operand.tmp 11) (Operand.const (Value.int IntKind.i64 1)) 3, type := 3, pos := "elim.go:136", after := #[{ on := 3, ground := Ground.data }], guard := none }) (v := ?tkv4005) rfl (by kernel_rfl) (by kernel_rfl) (by kernel_rfl) (fun _ _ _ h => h) (Or.inl ⟨by rfl, ?tky4005⟩) hH0 ?tkr4005
  case tky4005 => (intro w' hSw; clear hSw; go_simp; try with_reducible rfl)
  try simp only [Act.put, List.setIfInBounds_toArray, List.set_cons_zero, List.set_cons_succ]
  refine wpAnyH_take (i := 5) (oi := { dst := some 13, op := Op.move (Operand.tmp 0), type := 30, pos := "elim.go:136", after := #[], guard := none }) (v := ?tkv4006) rfl (by kernel_rfl) (by kernel_rfl) (by kernel_rfl) (fun _ _ _ h => h) (Or.inl ⟨by rfl, ?tky4006⟩) hH0 ?tkr4006
  case tky4006 => (intro w' hSw; clear hSw; go_simp; try with_reducible rfl)
  try simp only [Act.put, List.setIfInBounds_toArray, List.set_cons_zero, List.set_cons_succ]
  refine wpAnyH_take (i := 6) (oi := { dst := some 14, op := Op.indexAddr 30 (Operand.tmp 13) (Operand.const (Value.int IntKind.i64 1)), type := 0, pos := "elim.go:136", after := #[{ on := 5, ground := Ground.data }], guard := none }) (v := ?tkv4007) rfl (by kernel_rfl) (by kernel_rfl) (by kernel_rfl) (fun _ _ _ h => h) (Or.inl ⟨by rfl, ?tky4007⟩) hH0 ?tkr4007
  case tky4007 => (intro w' hSw; clear hSw; go_simp; try with_reducible rfl)
  try simp only [Act.put, List.setIfInBounds_toArray, List.set_cons_zero, List.set_cons_succ]
  refine wpAnyH_take (i := 7) (oi := { dst := some 15, op := Op.load 5 (Operand.tmp 14), type := 5, pos := "elim.go:136", after := #[{ on := 6, ground := Ground.data }], guard := none }) (v := ?tkv4008) rfl (by kernel_rfl) (by kernel_rfl) (by kernel_rfl) (fun _ _ _ h => h) (Or.inl ⟨by rfl, ?tky4008⟩) hH0 ?tkr4008
  case tky4008 => (intro w' hSw; have z0 := HL.out _ hSw; clear hSw; go_simp; try with_reducible rfl)
  try simp only [Act.put, List.setIfInBounds_toArray, List.set_cons_zero, List.set_cons_succ]
  refine wpAnyH_take (i := 8) (oi := { dst := some 16, op := Op.convert 5 3 (Operand.tmp 15), type := 3, pos := "elim.go:136", after := #[{ on := 7, ground := Ground.data }], guard := none }) (v := ?tkv4009) rfl (by kernel_rfl) (by kernel_rfl) (by kernel_rfl) (fun _ _ _ h => h) (Or.inl ⟨by rfl, ?tky4009⟩) hH0 ?tkr4009
  case tky4009 => (intro w' hSw; have z0 := HL.out _ hSw; clear hSw; go_simp; try with_reducible rfl)
  try simp only [Act.put, List.setIfInBounds_toArray, List.set_cons_zero, List.set_cons_succ]
  refine wpAnyH_ready (rs := [9]) (by kernel_rfl) (by simp) ?_
  refine AllReadyH.cons (o := { dst := some 17, op := Op.call { callee := Callee.value (Operand.func 8), args := #[Operand.tmp 12, Operand.tmp 16], argTypes := #[3, 3] }, type := 25, pos := "elim.go:136", after := #[{ on := 4, ground := Ground.data }, { on := 8, ground := Ground.data }], guard := none }) rfl (fun K hK => ?_) AllReadyH.nil
  go_simp
  rw [HNI.out, HZI.out]
  refine (newI n z wd4000 (by omega) (by omega)).mono ?_
  rintro e' wn4010 ⟨g4010, rfl, hm4010, hb4010'⟩
  have hb4010 := hb4010'.out
  have MM4010_ := Lib.hid (hm4010.out.more fun b hb => Nat.le_trans (hH0).size hb.1 : IsMat wn4010 (fun b => w.heap.size ≤ b) g4010 n z (List.replicate n none))
  clear hm4010 hb4010'
  go_simp
  have hS4010 : Below (w.heap.size) w wn4010 := (hH0).trans (hb4010.mono (hH0).size)
  refine hK.out _ _ hS4010 (fun hH4010 => ?_)
  have hH4010 : Below (w.heap.size) w wn4010 := hH4010
  clear hK K hS4010
  try simp only [Act.put, List.setIfInBounds_toArray, List.set_cons_zero, List.set_cons_succ]
  refine wpAnyH_take (i := 10) (oi := { dst := some 4, op := Op.assign (Operand.tmp 17), type := 25, pos := "elim.go:136", after := #[{ on := 9, ground := Ground.data }, { on := 9, ground := Ground.chain }, { on := 0, ground := Ground.phase }, { on := 1, ground := Ground.phase }, { on := 2, ground := Ground.phase }, { on := 3, ground := Ground.phase }, { on := 4, ground := Ground.phase }, { on := 5, ground := Ground.phase }, { on := 6, ground := Ground.phase }, { on := 7, ground := Ground.phase }, { on := 8, ground := Ground.phase }, { on := 9, ground := Ground.phase }], guard := none }) (v := ?tkv4011) rfl (by kernel_rfl) (by kernel_rfl) (by kernel_rfl) (fun _ _ _ h => h) (Or.inl ⟨by rfl, ?tky4011⟩) hH4010 ?tkr4011
  case tky4011 => (intro w' hSw; clear hSw; go_simp; try with_reducible rfl)
  try simp only [Act.put, List.setIfInBounds_toArray, List.set_cons_zero, List.set_cons_succ]
  refine wpAnyH_done (by kernel_rfl) ?_ _
  refine NoPanic.normal ?_
  have HBV := Lib.hid (hH4010)
  obtain ⟨wv, rfl⟩ : ∃ x : World, x = wn4010 := ⟨_, rfl⟩
  have HMV := Lib.hid MM4010_.out
  obtain ⟨gm, rfl⟩ : ∃ gv, gv = g4010 := ⟨_, rfl⟩
  obtain ⟨A, hA⟩ : ∃ A : Option Addr, some ⟨b, o, none⟩ = A := ⟨_, rfl⟩
  rw [hA] at HR ⊢
  clear hc0 hc1 HL hA
  --MARK1
  have HRV := Lib.hid (HR.out.below HBV.out)
  have HDV := Lib.hid (HT.out.below HBV.out HT.out.1)
  have hd4 : (bv l).drop 4 = bv (l.drop 4) := bv_drop l 4
  have HAA := Lib.hid (fun (A2 : Option Addr) (c2 : Nat) (h1 : Row wv w.heap.size A2 (m - 4) (bv (l.drop 4))) (h2 : m - 4 ≤ c2 ∧ c2 ≤ 9223372036854775807) => addAll_any w.heap.size gm n z (List.replicate n none) A2 (m - 4) c2 (l.drop 4) wv HMV.out (Inv.start n z) h1 HBV.out.size h2 HDV.out HT.out.1)
  have HFU : Hid (addAllM n z (m - 4) (List.replicate n none) (l.drop 4) = addAllM n z l.length (List.replicate n none) (l.drop 4)) := Lib.hid (addAll_fuel n z hz1 _ _ _ _ (by rw [List.length_drop]; omega) (by rw [List.length_drop]; omega))
  rw [HFU.out] at HAA
  obtain ⟨R, hR⟩ : ∃ R, addAllM n z l.length (List.replicate n none) (l.drop 4) = R := ⟨_, rfl⟩
  rw [hR] at HAA
  have HRR := Lib.hid hR
  have HFN : Hid (R = none → RES = none) := Lib.hid fun h => by rw [← HRES.out]; unfold fromM; rw [hR, h]
  have HFS : Hid (∀ M, R = some M → RES = if bytesM n z M = l then some M else none) := Lib.hid fun M h => by rw [← HRES.out]; unfold fromM; rw [hR, h]
  clear HFU hR
  --MARK2
  go_wp2_with fail
  · refine (HAA.out _ _ (by have h4m : m - 4 = 0 := by omega
                            rw [h4m, List.drop_eq_nil_of_le (by omega)]; exact Row.nil _ _ _) (by omega)).mono ?_
    rintro e wa ⟨rfl, hba, hma⟩
    cases R with
    | none =>
      have hres := HFN.out rfl
      subst hres
      go_wp2_with fail
      go_ret2
      exact ⟨rfl, Lib.hid (HBV.out.trans hba.out)⟩
    | some M =>
      obtain ⟨hi, hm⟩ := hma.out M rfl
      have HI := Lib.hid hi
      have HMA := Lib.hid hm
      have HBA := Lib.hid (HBV.out.trans hba.out)
      have HRA := Lib.hid (HR.out.below HBA.out)
      clear hi hm hma hba HAA
      go_wp2_with fail
      refine (bytesI HMA.out).mono ?_
      rintro e wb ⟨A2, c2, rfl, ho, hb⟩
      have HB2 := Lib.hid (HBA.out.trans (hb.out.mono HBA.out.size))
      have HEQ := Lib.hid (equalE_any wb.heap.size (bytesM n z M).length c2 m 4 A2 A (bytesM n z M) l wb (Row.of_own ho.out) ((HR.out.below HB2.out).more HB2.out.size))
      have HMB := Lib.hid (HMA.out.below hb.out)
      have HRES2 := Lib.hid (HFS.out M rfl)
      clear hb ho
      by_cases he : bytesM n z M = l
      · have hres : RES = some M := HRES2.out.trans (if_pos he)
        subst hres
        have hbb : (bytesM n z M == l) = true := by rw [he]; exact beq_self_eq_true l
        rw [hbb] at HEQ
        clear he hbb
        go_wp2_with fail
        refine HEQ.out.mono ?_
        rintro e wx ⟨rfl, rfl⟩
        go_wp2_with fail
        go_ret2
        exact ⟨gm, rfl, HI, Lib.hid (HMB.out.tight), HB2⟩
      · have hres : RES = none := HRES2.out.trans (if_neg he)
        subst hres
        have hbb : (bytesM n z M == l) = false := by simpa using he
        rw [hbb] at HEQ
        clear he hbb
        go_wp2_with fail
        refine HEQ.out.mono ?_
        rintro e wx ⟨rfl, rfl⟩
        go_wp2_with fail
        go_ret2
        exact ⟨rfl, HB2⟩
  · refine (HAA.out _ _ (by rw [← hd4]; have h := HRV.out.sub (k := 4) (m := m - 4) (A' := A.map fun x => { block := x.block, off := x.off + 4 }) (by omega) (fun b o e _ => by rw [e]; rfl); rwa [List.take_of_length_le (by rw [List.length_drop, bv_length]; omega)] at h) (by omega)).mono ?_
    rintro e wa ⟨rfl, hba, hma⟩
    cases R with
    | none =>
      have hres := HFN.out rfl
      subst hres
      go_wp2_with fail
      go_ret2
      exact ⟨rfl, Lib.hid (HBV.out.trans hba.out)⟩
    | some M =>
      obtain ⟨hi, hm⟩ := hma.out M rfl
      have HI := Lib.hid hi
      have HMA := Lib.hid hm
      have HBA := Lib.hid (HBV.out.trans hba.out)
      have HRA := Lib.hid (HR.out.below HBA.out)
      clear hi hm hma hba HAA
      go_wp2_with fail
      refine (bytesI HMA.out).mono ?_
      rintro e wb ⟨A2, c2, rfl, ho, hb⟩
      have HB2 := Lib.hid (HBA.out.trans (hb.out.mono HBA.out.size))
      have HEQ := Lib.hid (equalE_any wb.heap.size (bytesM n z M).length c2 m c0 A2 A (bytesM n z M) l wb (Row.of_own ho.out) ((HR.out.below HB2.out).more HB2.out.size))
      have HMB := Lib.hid (HMA.out.below hb.out)
      have HRES2 := Lib.hid (HFS.out M rfl)
      clear hb ho
      by_cases he : bytesM n z M = l
      · have hres : RES = some M := HRES2.out.trans (if_pos he)
        subst hres
        have hbb : (bytesM n z M == l) = true := by rw [he]; exact beq_self_eq_true l
        rw [hbb] at HEQ
        clear he hbb
        go_wp2_with fail
        refine HEQ.out.mono ?_
        rintro e wx ⟨rfl, rfl⟩
        go_wp2_with fail
        go_ret2
        exact ⟨gm, rfl, HI, Lib.hid (HMB.out.tight), HB2⟩
      · have hres : RES = none := HRES2.out.trans (if_neg he)
        subst hres
        have hbb : (bytesM n z M == l) = false := by simpa using he
        rw [hbb] at HEQ
        clear he hbb
        go_wp2_with fail
        refine HEQ.out.mono ?_
        rintro e wx ⟨rfl, rfl⟩
        go_wp2_with fail
        go_ret2
        exact ⟨rfl, HB2⟩
  
end Go.Proofs.YtgeodhffgbhmaaaDoor.El
