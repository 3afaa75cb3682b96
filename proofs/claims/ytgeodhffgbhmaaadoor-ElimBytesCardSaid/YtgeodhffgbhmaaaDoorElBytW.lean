/- ElimBytes' walk. -/
import Derived.Test.YtgeodhffgbhmaaaDoorElFrB
import Derived.Test.YtgeodhffgbhmaaaDoorElAwake
import Derived.Test.YtgeodhffgbhmaaaDoorLawNumss
namespace Go.Proofs.YtgeodhffgbhmaaaDoor.El
open Go.RowKit
open VecM Vc
theorem convE {w : World} {base n : Nat} {A : Option Addr} {l : List UInt8} (c : Nat) (h : w.ownsRow base 5 1 (.slice A n c) n (bv l)) : ∀ W, Below w.heap.size w W → (convert 30 9 (.slice A n c)).run Tryd.prog W = .ok (.string ⟨l.toArray⟩) W := fun _W hW =>
  run_string_row ((Row.of_own h).below hW) c 30 9 5 Tryd.underlying30 Tryd.underlying5 Tryd.underlying9
/-- the matrix of the first rows that came in -/
def matB (n : Nat) (R : Nat → NRow) : Nat → Mx
  | 0 => List.replicate n none
  | k + 1 => (addMx n (matB n R k) (ofL n (R k).zs) [UInt8.ofNat k, 7]).1
theorem matB_inv (n : Nat) (R : Nat → NRow) (hn : n ≤ 256) : ∀ k, Inv n 2 (matB n R k)
  | 0 => Inv.start n 2
  | k + 1 => addMx_inv (matB_inv n R hn k) hn (ofL_lt _) rfl
theorem bytesM_n (n z : Nat) (M : Mx) (h1 : 1 ≤ n) (h2 : n ≤ 256) : ((bytesM n z M).getD 0 0).toNat + 1 = n := by
  have e : (bytesM n z M).getD 0 0 = UInt8.ofNat (n - 1) := rfl
  rw [e, UInt8.toNat_ofNat']; omega
theorem bytesM_z (n z : Nat) (M : Mx) (h2 : z < 256) : ((bytesM n z M).getD 1 0).toNat = z := by
  have e : (bytesM n z M).getD 1 0 = UInt8.ofNat z := rfl
  rw [e, UInt8.toNat_ofNat']; omega
set_option maxRecDepth 100000 in
set_option maxHeartbeats 12800000 in
theorem elbytes_walk (x : Int) (U B : Option Addr) (m cu mm cb : Nat) (R : Nat → NRow) (zs : List Int) (w : World) (ht : DTab w) (hr : Numss w U m R) (hcap : m ≤ cu ∧ cu ≤ 9223372036854775807) (hrm : Row w w.heap.size B mm (nv zs)) (hcm : mm ≤ cb ∧ cb ≤ 9223372036854775807) :
    Calls Tryd.prog 5 #[.int .i64 x, .slice U m cu, .slice B mm cb] w fun e w' => e = .returned (.bool true) ∧ Below w.heap.size w w' := by
  obtain ⟨k0, hk0, hpick⟩ := pick_in x 100 (by omega) (by omega)
  obtain ⟨n, hN⟩ : ∃ n : Nat, k0 + 1 = n := ⟨_, rfl⟩
  have HPK := Lib.hid hpick
  have hn1 : 1 ≤ n := by omega
  have hn100 : n ≤ 100 := by omega
  have hn256 : n ≤ 256 := by omega
  have hk99 : (k0 : Int) ≤ 99 := by omega
  have e1k : (1 : Int) + (k0 : Int) = (n : Int) := by omega
  have HT := Lib.hid ht
  have HR := Lib.hid hr
  have HRM := Lib.hid hrm
  clear hpick hN ht hr hrm
  go_enter Tryd.func5, Tryd.ntmps5
  go_upto_region 2 with (rw [HPK.out])
  clear e1k HPK hk99 hk0
  by_cases h40 : 40 < m
  · have h40i : (40 : Int) < (m : Int) := by omega
    go_wp2_with fail
    refine (awake6_any _ (HT.out)).mono ?_
    rintro e w9 ⟨rfl, hb9⟩
    have HB9 := Lib.hid (((Below.refl w.heap.size w)).trans (hb9.out.mono ((Below.refl w.heap.size w)).size))
    clear hb9
    go_wp2_with fail
    go_ret
    exact ⟨rfl, HB9.out⟩
  · have h40i : ¬ ((40 : Int) < (m : Int)) := by omega
    by_cases hx : 100 < mm
    · have hxi : (100 : Int) < (mm : Int) := by omega
      go_wp2_with fail
      refine (awake6_any _ (HT.out)).mono ?_
      rintro e w9 ⟨rfl, hb9⟩
      have HB9 := Lib.hid (((Below.refl w.heap.size w)).trans (hb9.out.mono ((Below.refl w.heap.size w)).size))
      clear hb9
      go_wp2_with fail
      go_ret
      exact ⟨rfl, HB9.out⟩
    · have hxi : ¬ ((100 : Int) < (mm : Int)) := by omega
      have hm40 : (m : Int) ≤ 40 := by omega
      have hni : (n : Int) ≤ 100 := by omega
      have hni1 : (1 : Int) ≤ (n : Int) := by omega
      clear h40 hx
      go_wp2_with fail
      refine (newI n 2 w (by omega) (by omega)).mono ?_
      rintro e wa ⟨gm, rfl, hma, hba⟩
      have HM0 : Hid (IsMat wa (fun b => w.heap.size ≤ b ∧ b < wa.heap.size) gm n 2 (matB n R 0)) := Lib.hid hma.out
      have HBA := Lib.hid hba.out
      clear hma hba
      go_wp2_with fail
      go_loopw [33] (fun i wr => ∃ k : Nat, k ≤ m ∧ i = .int .i64 k ∧ Hid (IsMat wr (fun b => w.heap.size ≤ b ∧ b < wr.heap.size) gm n 2 (matB n R k)) ∧ Hid (Below w.heap.size w wr)) (fun i _ => m - (intOf i).toNat)
      case atStart => exact ⟨0, by omega, rfl, HM0, HBA⟩
      case round =>
        obtain ⟨k, hk, rfl, HM, HBW⟩ := hrel
        clear HM0 HBA
        by_cases hlt : k < m
        · have hki : (k : Int) < (m : Int) := by omega
          have hk39 : (k : Int) ≤ 39 := by omega
          obtain ⟨bu, ou, rfl, _, cj, hrow, hncj, hcmj⟩ := Numss.keep HR.out HBW.out k hlt
          by_cases h100 : 100 < (R k).n
          · have h100i : (100 : Int) < ((R k).n : Int) := by omega
            go_wp2_with fail
            refine (awake6_any _ (HT.out.grow HBW.out)).mono ?_
            rintro e w9 ⟨rfl, hb9⟩
            have HB9 := Lib.hid ((HBW.out).trans (hb9.out.mono (HBW.out).size))
            clear hb9
            go_wp2_with fail
            go_ret
            exact ⟨rfl, HB9.out⟩
          · have h100i : ¬ ((100 : Int) < ((R k).n : Int)) := by omega
            have h100j : ((R k).n : Int) ≤ 100 := by omega
            have HOF := Lib.hid (of_any n (R k).A (R k).n (R k).c _ (R k).zs wr hrow (Nat.le_refl _) (by omega) (by omega))
            obtain ⟨wr0, rfl⟩ : ∃ W : World, W = wr := ⟨_, rfl⟩
            clear hrow
            go_wp2_with fail
            refine HOF.out.mono ?_
            rintro e wv ⟨gv, hv, rfl, hgv1, hgv2, hvec, hbv⟩
            have HGV : Hid (wr0.heap.size ≤ gv ∧ wr0.heap.size ≤ hv) := Lib.hid ⟨hgv1, hgv2⟩
            have bal : Below wv.heap.size wv (wv.alloc (.cells #[.int .u8 (k : Int), .int .u8 7] 5)) := (Below.refl _ _).alloc (Nat.le_refl _) _
            have D : Hid (Row (wv.alloc (.cells #[.int .u8 (k : Int), .int .u8 7] 5)) (wv.alloc (.cells #[.int .u8 (k : Int), .int .u8 7] 5)).heap.size (some ⟨wv.heap.size, 0, none⟩) 2 (bv [UInt8.ofNat k, 7])) := Lib.hid (by
              have h := own_lit (w := wv) (base := 0) (g := wv.heap.size) (n := 2) (e := 5) #[.int .u8 (k : Int), .int .u8 7] rfl (Nat.zero_le _) rfl (by unfold maxLen; omega)
              have e : bv [UInt8.ofNat k, 7] = [.int .u8 (k : Int), .int .u8 7] := by
                unfold bv
                simp only [List.map_cons, List.map_nil]
                rw [u8_of _ (by omega)]
                rfl
              rw [e]
              exact Row.of_own h)
            have HVB := Lib.hid (hbv.out.trans (bal.mono hbv.out.size))
            have HVE := Lib.hid (hvec.out.keep (bal.block _ hvec.out.lt.1) (bal.block _ hvec.out.lt.2))
            have HML := Lib.hid (HM.out.below HVB.out)
            have HTL := Lib.hid (HT.out.grow (HBW.out.trans (HVB.out.mono HBW.out.size)))
            have HAD := Lib.hid (addI (c0 := 2) HML.out (matB_inv n R hn256 k) HVE.out D.out rfl HTL.out)
            have HMN : Hid ((addMx n (matB n R k) (ofL n (R k).zs) [UInt8.ofNat k, 7]).1 = matB n R (k + 1)) := Lib.hid rfl
            clear hgv1 hgv2 hvec hbv bal HOF HML HVE D HTL
            go_wp2_with fail
            refine HAD.out.mono ?_
            rintro e wz ⟨rfl, hmz, hfz⟩
            rw [HMN.out] at hmz
            have HMZ : Hid (IsMat wz (fun b => w.heap.size ≤ b ∧ b < wz.heap.size) gm n 2 (matB n R (k + 1))) := Lib.hid (hmz.out.more fun b hb => by
              have h1 := HBW.out.size
              have h2 := HVB.out.size
              have h3 := hfz.out.size
              rcases hb with hb | hb
              · exact ⟨hb.1, by omega⟩
              · exact ⟨by omega, hb.2⟩)
            have HBZ : Hid (Below w.heap.size w wz) := Lib.hid (HBW.out.trans ((HVB.out.mono HBW.out.size).trans (hfz.out.below (fun _ h => h.1) (Nat.le_trans HBW.out.size HVB.out.size))))
            clear HAD hmz hfz HM HBW
            go_wp2_with fail
            go_roundw
            case rel => exact ⟨k + 1, by omega, by go_num, HMZ, HBZ⟩
            case measure => simp [intOf]; omega
        · obtain rfl : m = k := by omega
          clear hlt
          obtain ⟨wm, rfl⟩ : ∃ W : World, W = wr := ⟨_, rfl⟩
          have hiv := matB_inv n R hn256 m
          obtain ⟨M, hM⟩ : ∃ M, matB n R m = M := ⟨_, rfl⟩
          rw [hM] at HM hiv
          have HIV := Lib.hid hiv
          clear hM hiv
          go_wp2_with fail
          refine (bytesI HM.out).mono ?_
          rintro e wb ⟨A1, c1, rfl, ho1, hb1⟩
          have hcc : (bytesM n 2 M).length ≤ c1 ∧ c1 ≤ 9223372036854775807 := by
            obtain ⟨A', cap, e, h1, h2, _⟩ := own_slice ho1.out
            injection e with _ _ e
            subst e
            exact ⟨h1, by unfold maxLen at h2; omega⟩
          have HBB := Lib.hid (HBW.out.trans (hb1.out.mono HBW.out.size))
          have HFI := Lib.hid (fromI n 2 A1 (bytesM n 2 M).length c1 (bytesM n 2 M) wb (Row.of_own ho1.out) hcc (bytesM_len4 n 2 M) (bytesM_n n 2 M hn1 hn256) (bytesM_z n 2 M (by omega)) (by omega) (by omega) (HT.out.grow HBB.out))
          rw [from_bytes HIV.out hn256 (by omega)] at HFI
          have HMB1 := Lib.hid (HM.out.below hb1.out)
          have HSZ : Hid (wm.heap.size ≤ wb.heap.size) := Lib.hid hb1.out.size
          clear hcc ho1 hb1
          go_wp2_with fail
          refine HFI.out.mono ?_
          rintro e wk ⟨gk, rfl, _, hmk, hbk⟩
          have HBK := Lib.hid (HBB.out.trans (hbk.out.mono HBB.out.size))
          have HMA : Hid (∀ W, Below wk.heap.size wk W → IsMat W (fun b => w.heap.size ≤ b ∧ b < wm.heap.size) gm n 2 M) := Lib.hid fun W hW => (HMB1.out.below hbk.out).below hW
          have HMB : Hid (∀ W, Below wk.heap.size wk W → IsMat W (fun b => wb.heap.size ≤ b ∧ b < wk.heap.size) gk n 2 M) := Lib.hid fun W hW => IsMat.below hmk.out hW
          obtain ⟨lb, hlb⟩ : ∃ lb, bytesM n 2 M = lb := ⟨_, rfl⟩
          have HLB := Lib.hid hlb
          have HKS : Hid (wb.heap.size ≤ wk.heap.size) := Lib.hid hbk.out.size
          rw [hlb]
          clear hlb HFI hmk hbk HMB1
          go_upto_region 13 with fail
          go_cut [78] (fun v wx => v = .bool false ∧ Hid (Below wk.heap.size wk wx))
          case first =>
            refine wp_region_noPanic ?_
            refine wp_region_held_drew (S := (fun W => Below (wk.heap.size) wk W)) (by kernel_rfl) (Below.refl _ _).drew (fun hH0 => ?_)
            have hH0 : Below (wk.heap.size) wk wk.drew := hH0
            generalize wk.drew = wd1000 at *
            refine wpAnyH_take (i := 0) (oi := { dst := some 57, op := Op.move (Operand.tmp 11), type := 4, pos := "more.go:54", after := #[], guard := none }) (v := ?tkv1001) rfl (by kernel_rfl) (by kernel_rfl) (by kernel_rfl) (fun _ _ _ h => h) (Or.inl ⟨by rfl, ?tky1001⟩) hH0 ?tkr1001
            case tky1001 => (intro w' hSw; clear hSw; go_simp; try with_reducible rfl)
            try simp only [Act.put, List.setIfInBounds_toArray, List.set_cons_zero, List.set_cons_succ]
            refine wpAnyH_take (i := 1) (oi := { dst := some 58, op := Op.unOp UnOp.not 4 (Operand.tmp 57), type := 4, pos := "more.go:54", after := #[{ on := 0, ground := Ground.data }], guard := none }) (v := ?tkv1002) rfl (by kernel_rfl) (by kernel_rfl) (by kernel_rfl) (fun _ _ _ h => h) (Or.inl ⟨by rfl, ?tky1002⟩) hH0 ?tkr1002
            case tky1002 => (intro w' hSw; clear hSw; go_simp; try with_reducible rfl)
            try simp only [Act.put, List.setIfInBounds_toArray, List.set_cons_zero, List.set_cons_succ]
            refine wpAnyH_take (i := 2) (oi := { dst := some 59, op := Op.move (Operand.tmp 58), type := 4, pos := "more.go:54", after := #[{ on := 1, ground := Ground.data }], guard := none }) (v := ?tkv1003) rfl (by kernel_rfl) (by kernel_rfl) (by kernel_rfl) (fun _ _ _ h => h) (Or.inl ⟨by rfl, ?tky1003⟩) hH0 ?tkr1003
            case tky1003 => (intro w' hSw; clear hSw; go_simp; try with_reducible rfl)
            try simp only [Act.put, List.setIfInBounds_toArray, List.set_cons_zero, List.set_cons_succ]
            refine wpAnyH_take (i := 3) (oi := { dst := some 60, op := Op.move (Operand.tmp 10), type := 25, pos := "more.go:54", after := #[{ on := 2, ground := Ground.guard }], guard := some (2, false) }) (v := ?tkv1004) rfl (by kernel_rfl) (by kernel_rfl) (by kernel_rfl) (fun _ _ _ h => h) (Or.inl ⟨by rfl, ?tky1004⟩) hH0 ?tkr1004
            case tky1004 => (intro w' hSw; clear hSw; go_simp; try with_reducible rfl)
            try simp only [Act.put, List.setIfInBounds_toArray, List.set_cons_zero, List.set_cons_succ]
            refine wpAnyH_take (i := 4) (oi := { dst := some 61, op := Op.binOp BinOp.eql 25 (Operand.tmp 60) (Operand.const (Value.pointer none)) 25, type := 4, pos := "more.go:54", after := #[{ on := 3, ground := Ground.data }, { on := 2, ground := Ground.guard }], guard := some (2, false) }) (v := ?tkv1005) rfl (by kernel_rfl) (by kernel_rfl) (by kernel_rfl) (fun _ _ _ h => h) (Or.inl ⟨by rfl, ?tky1005⟩) hH0 ?tkr1005
            case tky1005 => (intro w' hSw; clear hSw; go_simp; try with_reducible rfl)
            try simp only [Act.put, List.setIfInBounds_toArray, List.set_cons_zero, List.set_cons_succ]
            refine wpAnyH_take (i := 5) (oi := { dst := some 62, op := Op.pick (Operand.tmp 59) (Operand.const (Value.bool true)) (Operand.tmp 61), type := 4, pos := "more.go:54", after := #[{ on := 2, ground := Ground.data }, { on := 4, ground := Ground.data }], guard := none }) (v := ?tkv1006) rfl (by kernel_rfl) (by kernel_rfl) (by kernel_rfl) (fun _ _ _ h => h) (Or.inl ⟨by rfl, ?tky1006⟩) hH0 ?tkr1006
            case tky1006 => (intro w' hSw; clear hSw; go_simp; try with_reducible rfl)
            try simp only [Act.put, List.setIfInBounds_toArray, List.set_cons_zero, List.set_cons_succ]
            refine wpAnyH_take (i := 6) (oi := { dst := some 63, op := Op.move (Operand.tmp 62), type := 4, pos := "more.go:54", after := #[{ on := 5, ground := Ground.data }, { on := 2, ground := Ground.chain }], guard := none }) (v := ?tkv1007) rfl (by kernel_rfl) (by kernel_rfl) (by kernel_rfl) (fun _ _ _ h => h) (Or.inl ⟨by rfl, ?tky1007⟩) hH0 ?tkr1007
            case tky1007 => (intro w' hSw; clear hSw; go_simp; try with_reducible rfl)
            try simp only [Act.put, List.setIfInBounds_toArray, List.set_cons_zero, List.set_cons_succ]
            refine wpAnyH_take (i := 7) (oi := { dst := some 64, op := Op.move (Operand.tmp 10), type := 25, pos := "more.go:54", after := #[{ on := 6, ground := Ground.guard }], guard := some (6, false) }) (v := ?tkv1008) rfl (by kernel_rfl) (by kernel_rfl) (by kernel_rfl) (fun _ _ _ h => h) (Or.inl ⟨by rfl, ?tky1008⟩) hH0 ?tkr1008
            case tky1008 => (intro w' hSw; clear hSw; go_simp; try with_reducible rfl)
            try simp only [Act.put, List.setIfInBounds_toArray, List.set_cons_zero, List.set_cons_succ]
            refine wpAnyH_take (i := 9) (oi := { dst := some 66, op := Op.move (Operand.tmp 7), type := 25, pos := "more.go:54", after := #[{ on := 6, ground := Ground.guard }], guard := some (6, false) }) (v := ?tkv1009) rfl (by kernel_rfl) (by kernel_rfl) (by kernel_rfl) (fun _ _ _ h => h) (Or.inl ⟨by rfl, ?tky1009⟩) hH0 ?tkr1009
            case tky1009 => (intro w' hSw; clear hSw; go_simp; try with_reducible rfl)
            try simp only [Act.put, List.setIfInBounds_toArray, List.set_cons_zero, List.set_cons_succ]
            refine wpAnyH_ready (rs := [8]) (by kernel_rfl) (by simp) ?_
            refine AllReadyH.cons (o := { dst := some 65, op := Op.call { callee := Callee.value (Operand.func 23), args := #[Operand.tmp 64], argTypes := #[25] }, type := 3, pos := "more.go:54", after := #[{ on := 7, ground := Ground.data }, { on := 6, ground := Ground.chain }, { on := 6, ground := Ground.guard }], guard := some (6, false) }) rfl (fun K hK => ?_) AllReadyH.nil
            go_simp
            refine (rankI (HMB.out wd1000 (hH0))).mono ?_
            rintro e' wx1010 ⟨rfl, rfl⟩
            go_simp
            have hS1010 : Below (wk.heap.size) wk wd1000 := hH0
            refine hK.out _ _ hS1010 (fun hH1010 => ?_)
            have hH1010 : Below (wk.heap.size) wk wd1000 := hH1010
            clear hK K hS1010
            try simp only [Act.put, List.setIfInBounds_toArray, List.set_cons_zero, List.set_cons_succ]
            refine wpAnyH_ready (rs := [10]) (by kernel_rfl) (by simp) ?_
            refine AllReadyH.cons (o := { dst := some 67, op := Op.call { callee := Callee.value (Operand.func 23), args := #[Operand.tmp 66], argTypes := #[25] }, type := 3, pos := "more.go:54", after := #[{ on := 9, ground := Ground.data }, { on := 8, ground := Ground.chain }, { on := 6, ground := Ground.guard }], guard := some (6, false) }) rfl (fun K hK => ?_) AllReadyH.nil
            go_simp
            refine (rankI (HMA.out wd1000 (hH1010))).mono ?_
            rintro e' wx1011 ⟨rfl, rfl⟩
            go_simp
            have hS1011 : Below (wk.heap.size) wk wd1000 := hH1010
            refine hK.out _ _ hS1011 (fun hH1011 => ?_)
            have hH1011 : Below (wk.heap.size) wk wd1000 := hH1011
            clear hK K hS1011
            try simp only [Act.put, List.setIfInBounds_toArray, List.set_cons_zero, List.set_cons_succ]
            refine wpAnyH_take (i := 11) (oi := { dst := some 68, op := Op.binOp BinOp.neq 3 (Operand.tmp 65) (Operand.tmp 67) 3, type := 4, pos := "more.go:54", after := #[{ on := 8, ground := Ground.data }, { on := 10, ground := Ground.data }, { on := 6, ground := Ground.guard }], guard := some (6, false) }) (v := ?tkv1012) rfl (by kernel_rfl) (by kernel_rfl) (by kernel_rfl) (fun _ _ _ h => h) (Or.inl ⟨by rfl, ?tky1012⟩) hH1011 ?tkr1012
            case tky1012 => (intro w' hSw; clear hSw; go_simp; try with_reducible rfl)
            try simp only [Act.put, List.setIfInBounds_toArray, List.set_cons_zero, List.set_cons_succ]
            refine wpAnyH_take (i := 12) (oi := { dst := some 69, op := Op.pick (Operand.tmp 63) (Operand.const (Value.bool true)) (Operand.tmp 68), type := 4, pos := "more.go:54", after := #[{ on := 6, ground := Ground.data }, { on := 11, ground := Ground.data }], guard := none }) (v := ?tkv1013) rfl (by kernel_rfl) (by kernel_rfl) (by kernel_rfl) (fun _ _ _ h => h) (Or.inl ⟨by rfl, ?tky1013⟩) hH1011 ?tkr1013
            case tky1013 => (intro w' hSw; clear hSw; go_simp; try with_reducible rfl)
            try simp only [Act.put, List.setIfInBounds_toArray, List.set_cons_zero, List.set_cons_succ]
            refine wpAnyH_take (i := 13) (oi := { dst := some 70, op := Op.move (Operand.tmp 69), type := 4, pos := "more.go:54", after := #[{ on := 12, ground := Ground.data }, { on := 10, ground := Ground.chain }], guard := none }) (v := ?tkv1014) rfl (by kernel_rfl) (by kernel_rfl) (by kernel_rfl) (fun _ _ _ h => h) (Or.inl ⟨by rfl, ?tky1014⟩) hH1011 ?tkr1014
            case tky1014 => (intro w' hSw; clear hSw; go_simp; try with_reducible rfl)
            try simp only [Act.put, List.setIfInBounds_toArray, List.set_cons_zero, List.set_cons_succ]
            refine wpAnyH_take (i := 14) (oi := { dst := some 71, op := Op.move (Operand.tmp 10), type := 25, pos := "more.go:54", after := #[{ on := 13, ground := Ground.guard }], guard := some (13, false) }) (v := ?tkv1015) rfl (by kernel_rfl) (by kernel_rfl) (by kernel_rfl) (fun _ _ _ h => h) (Or.inl ⟨by rfl, ?tky1015⟩) hH1011 ?tkr1015
            case tky1015 => (intro w' hSw; clear hSw; go_simp; try with_reducible rfl)
            try simp only [Act.put, List.setIfInBounds_toArray, List.set_cons_zero, List.set_cons_succ]
            refine wpAnyH_take (i := 17) (oi := { dst := some 74, op := Op.move (Operand.tmp 7), type := 25, pos := "more.go:54", after := #[{ on := 13, ground := Ground.guard }], guard := some (13, false) }) (v := ?tkv1016) rfl (by kernel_rfl) (by kernel_rfl) (by kernel_rfl) (fun _ _ _ h => h) (Or.inl ⟨by rfl, ?tky1016⟩) hH1011 ?tkr1016
            case tky1016 => (intro w' hSw; clear hSw; go_simp; try with_reducible rfl)
            try simp only [Act.put, List.setIfInBounds_toArray, List.set_cons_zero, List.set_cons_succ]
            refine wpAnyH_ready (rs := [15]) (by kernel_rfl) (by simp) ?_
            refine AllReadyH.cons (o := { dst := some 72, op := Op.call { callee := Callee.value (Operand.func 22), args := #[Operand.tmp 71], argTypes := #[25] }, type := 30, pos := "more.go:54", after := #[{ on := 14, ground := Ground.data }, { on := 13, ground := Ground.chain }, { on := 13, ground := Ground.guard }], guard := some (13, false) }) rfl (fun K hK => ?_) AllReadyH.nil
            go_simp
            refine (bytesI (HMB.out wd1000 (hH1011))).mono ?_
            rw [HLB.out]
            rintro e' wn1017 ⟨A1017, c1017, rfl, ho1017, hb1017'⟩
            have hb1017 := hb1017'.out
            have CV1017 := Lib.hid (convE c1017 ho1017.out)
            clear hb1017' ho1017
            go_simp
            have hS1017 : Below (wk.heap.size) wk wn1017 := (hH1011).trans (hb1017.mono (hH1011).size)
            refine hK.out _ _ hS1017 (fun hH1017 => ?_)
            have hH1017 : Below (wk.heap.size) wk wn1017 := hH1017
            clear hK K hS1017
            try simp only [Act.put, List.setIfInBounds_toArray, List.set_cons_zero, List.set_cons_succ]
            refine wpAnyH_ready (rs := [16, 18]) (by kernel_rfl) (by simp) ?_
            refine AllReadyH.cons (o := { dst := some 73, op := Op.convert 30 9 (Operand.tmp 72), type := 9, pos := "more.go:54", after := #[{ on := 15, ground := Ground.data }, { on := 13, ground := Ground.guard }], guard := some (13, false) }) rfl (fun K hK => ?_) (AllReadyH.cons (o := { dst := some 75, op := Op.call { callee := Callee.value (Operand.func 22), args := #[Operand.tmp 74], argTypes := #[25] }, type := 30, pos := "more.go:54", after := #[{ on := 17, ground := Ground.data }, { on := 15, ground := Ground.chain }, { on := 13, ground := Ground.guard }], guard := some (13, false) }) rfl (fun K hK => ?_) AllReadyH.nil)
            · have hcv1018 := CV1017.out wn1017 (Below.refl wn1017.heap.size wn1017)
              go_simp
              clear hcv1018
              have hS1018 : Below (wk.heap.size) wk wn1017 := hH1017
              refine hK.out _ _ hS1018 (fun hH1018 => ?_)
              have hH1018 : Below (wk.heap.size) wk wn1017 := hH1018
              clear hK K hS1018
              try simp only [Act.put, List.setIfInBounds_toArray, List.set_cons_zero, List.set_cons_succ]
              refine wpAnyH_ready (rs := [18]) (by kernel_rfl) (by simp) ?_
              refine AllReadyH.cons (o := { dst := some 75, op := Op.call { callee := Callee.value (Operand.func 22), args := #[Operand.tmp 74], argTypes := #[25] }, type := 30, pos := "more.go:54", after := #[{ on := 17, ground := Ground.data }, { on := 15, ground := Ground.chain }, { on := 13, ground := Ground.guard }], guard := some (13, false) }) rfl (fun K hK => ?_) AllReadyH.nil
              go_simp
              refine (bytesI (HMA.out wn1017 (hH1018))).mono ?_
              rw [HLB.out]
              rintro e' wn1019 ⟨A1019, c1019, rfl, ho1019, hb1019'⟩
              have hb1019 := hb1019'.out
              have CV1019 := Lib.hid (convE c1019 ho1019.out)
              clear hb1019' ho1019
              go_simp
              have hS1019 : Below (wk.heap.size) wk wn1019 := (hH1018).trans (hb1019.mono (hH1018).size)
              refine hK.out _ _ hS1019 (fun hH1019 => ?_)
              have hH1019 : Below (wk.heap.size) wk wn1019 := hH1019
              clear hK K hS1019
              try simp only [Act.put, List.setIfInBounds_toArray, List.set_cons_zero, List.set_cons_succ]
              refine wpAnyH_ready (rs := [19]) (by kernel_rfl) (by simp) ?_
              refine AllReadyH.cons (o := { dst := some 76, op := Op.convert 30 9 (Operand.tmp 75), type := 9, pos := "more.go:54", after := #[{ on := 18, ground := Ground.data }, { on := 13, ground := Ground.guard }], guard := some (13, false) }) rfl (fun K hK => ?_) AllReadyH.nil
              have hcv1020 := CV1019.out wn1019 (Below.refl wn1019.heap.size wn1019)
              go_simp
              clear hcv1020
              have hS1020 : Below (wk.heap.size) wk wn1019 := hH1019
              refine hK.out _ _ hS1020 (fun hH1020 => ?_)
              have hH1020 : Below (wk.heap.size) wk wn1019 := hH1020
              clear hK K hS1020
              try simp only [Act.put, List.setIfInBounds_toArray, List.set_cons_zero, List.set_cons_succ]
              refine wpAnyH_take (i := 20) (oi := { dst := some 77, op := Op.binOp BinOp.neq 9 (Operand.tmp 73) (Operand.tmp 76) 9, type := 4, pos := "more.go:54", after := #[{ on := 16, ground := Ground.data }, { on := 19, ground := Ground.data }, { on := 13, ground := Ground.guard }], guard := some (13, false) }) (v := ?tkv1021) rfl (by kernel_rfl) (by kernel_rfl) (by kernel_rfl) (fun _ _ _ h => h) (Or.inl ⟨by rfl, ?tky1021⟩) hH1020 ?tkr1021
              case tky1021 => (intro w' hSw; clear hSw; go_simp; try with_reducible rfl)
              try simp only [Act.put, List.setIfInBounds_toArray, List.set_cons_zero, List.set_cons_succ]
              refine wpAnyH_take (i := 21) (oi := { dst := some 78, op := Op.pick (Operand.tmp 70) (Operand.const (Value.bool true)) (Operand.tmp 77), type := 4, pos := "more.go:54", after := #[{ on := 13, ground := Ground.data }, { on := 20, ground := Ground.data }], guard := none }) (v := ?tkv1022) rfl (by kernel_rfl) (by kernel_rfl) (by kernel_rfl) (fun _ _ _ h => h) (Or.inl ⟨by rfl, ?tky1022⟩) hH1020 ?tkr1022
              case tky1022 => (intro w' hSw; clear hSw; go_simp; try with_reducible rfl)
              try simp only [Act.put, List.setIfInBounds_toArray, List.set_cons_zero, List.set_cons_succ]
              refine wpAnyH_done (by kernel_rfl) ?_ _
              refine NoPanic.normal ?_
              obtain ⟨wy, rfl⟩ : ∃ x : World, x = wn1019 := ⟨_, rfl⟩
              have HB13 : Hid (Below wk.heap.size wk wy) := Lib.hid (hH1020)
              go_wp2_with fail
              go_meet
              exact ⟨rfl, HB13⟩
            · go_simp
              refine (bytesI (HMA.out wn1017 (hH1017))).mono ?_
              rw [HLB.out]
              rintro e' wn1023 ⟨A1023, c1023, rfl, ho1023, hb1023'⟩
              have hb1023 := hb1023'.out
              have CV1023 := Lib.hid (convE c1023 ho1023.out)
              clear hb1023' ho1023
              go_simp
              have hS1023 : Below (wk.heap.size) wk wn1023 := (hH1017).trans (hb1023.mono (hH1017).size)
              refine hK.out _ _ hS1023 (fun hH1023 => ?_)
              have hH1023 : Below (wk.heap.size) wk wn1023 := hH1023
              clear hK K hS1023
              try simp only [Act.put, List.setIfInBounds_toArray, List.set_cons_zero, List.set_cons_succ]
              refine wpAnyH_ready (rs := [16, 19]) (by kernel_rfl) (by simp) ?_
              refine AllReadyH.cons (o := { dst := some 73, op := Op.convert 30 9 (Operand.tmp 72), type := 9, pos := "more.go:54", after := #[{ on := 15, ground := Ground.data }, { on := 13, ground := Ground.guard }], guard := some (13, false) }) rfl (fun K hK => ?_) (AllReadyH.cons (o := { dst := some 76, op := Op.convert 30 9 (Operand.tmp 75), type := 9, pos := "more.go:54", after := #[{ on := 18, ground := Ground.data }, { on := 13, ground := Ground.guard }], guard := some (13, false) }) rfl (fun K hK => ?_) AllReadyH.nil)
              · have hcv1024 := CV1017.out wn1023 (((Below.refl wn1017.heap.size wn1017)).trans (hb1023.mono ((Below.refl wn1017.heap.size wn1017)).size))
                go_simp
                clear hcv1024
                have hS1024 : Below (wk.heap.size) wk wn1023 := hH1023
                refine hK.out _ _ hS1024 (fun hH1024 => ?_)
                have hH1024 : Below (wk.heap.size) wk wn1023 := hH1024
                clear hK K hS1024
                try simp only [Act.put, List.setIfInBounds_toArray, List.set_cons_zero, List.set_cons_succ]
                refine wpAnyH_ready (rs := [19]) (by kernel_rfl) (by simp) ?_
                refine AllReadyH.cons (o := { dst := some 76, op := Op.convert 30 9 (Operand.tmp 75), type := 9, pos := "more.go:54", after := #[{ on := 18, ground := Ground.data }, { on := 13, ground := Ground.guard }], guard := some (13, false) }) rfl (fun K hK => ?_) AllReadyH.nil
                have hcv1025 := CV1023.out wn1023 (Below.refl wn1023.heap.size wn1023)
                go_simp
                clear hcv1025
                have hS1025 : Below (wk.heap.size) wk wn1023 := hH1024
                refine hK.out _ _ hS1025 (fun hH1025 => ?_)
                have hH1025 : Below (wk.heap.size) wk wn1023 := hH1025
                clear hK K hS1025
                try simp only [Act.put, List.setIfInBounds_toArray, List.set_cons_zero, List.set_cons_succ]
                refine wpAnyH_take (i := 20) (oi := { dst := some 77, op := Op.binOp BinOp.neq 9 (Operand.tmp 73) (Operand.tmp 76) 9, type := 4, pos := "more.go:54", after := #[{ on := 16, ground := Ground.data }, { on := 19, ground := Ground.data }, { on := 13, ground := Ground.guard }], guard := some (13, false) }) (v := ?tkv1026) rfl (by kernel_rfl) (by kernel_rfl) (by kernel_rfl) (fun _ _ _ h => h) (Or.inl ⟨by rfl, ?tky1026⟩) hH1025 ?tkr1026
                case tky1026 => (intro w' hSw; clear hSw; go_simp; try with_reducible rfl)
                try simp only [Act.put, List.setIfInBounds_toArray, List.set_cons_zero, List.set_cons_succ]
                refine wpAnyH_take (i := 21) (oi := { dst := some 78, op := Op.pick (Operand.tmp 70) (Operand.const (Value.bool true)) (Operand.tmp 77), type := 4, pos := "more.go:54", after := #[{ on := 13, ground := Ground.data }, { on := 20, ground := Ground.data }], guard := none }) (v := ?tkv1027) rfl (by kernel_rfl) (by kernel_rfl) (by kernel_rfl) (fun _ _ _ h => h) (Or.inl ⟨by rfl, ?tky1027⟩) hH1025 ?tkr1027
                case tky1027 => (intro w' hSw; clear hSw; go_simp; try with_reducible rfl)
                try simp only [Act.put, List.setIfInBounds_toArray, List.set_cons_zero, List.set_cons_succ]
                refine wpAnyH_done (by kernel_rfl) ?_ _
                refine NoPanic.normal ?_
                obtain ⟨wy, rfl⟩ : ∃ x : World, x = wn1023 := ⟨_, rfl⟩
                have HB13 : Hid (Below wk.heap.size wk wy) := Lib.hid (hH1025)
                go_wp2_with fail
                go_meet
                exact ⟨rfl, HB13⟩
              · have hcv1028 := CV1023.out wn1023 (Below.refl wn1023.heap.size wn1023)
                go_simp
                clear hcv1028
                have hS1028 : Below (wk.heap.size) wk wn1023 := hH1023
                refine hK.out _ _ hS1028 (fun hH1028 => ?_)
                have hH1028 : Below (wk.heap.size) wk wn1023 := hH1028
                clear hK K hS1028
                try simp only [Act.put, List.setIfInBounds_toArray, List.set_cons_zero, List.set_cons_succ]
                refine wpAnyH_ready (rs := [16]) (by kernel_rfl) (by simp) ?_
                refine AllReadyH.cons (o := { dst := some 73, op := Op.convert 30 9 (Operand.tmp 72), type := 9, pos := "more.go:54", after := #[{ on := 15, ground := Ground.data }, { on := 13, ground := Ground.guard }], guard := some (13, false) }) rfl (fun K hK => ?_) AllReadyH.nil
                have hcv1029 := CV1017.out wn1023 (((Below.refl wn1017.heap.size wn1017)).trans (hb1023.mono ((Below.refl wn1017.heap.size wn1017)).size))
                go_simp
                clear hcv1029
                have hS1029 : Below (wk.heap.size) wk wn1023 := hH1028
                refine hK.out _ _ hS1029 (fun hH1029 => ?_)
                have hH1029 : Below (wk.heap.size) wk wn1023 := hH1029
                clear hK K hS1029
                try simp only [Act.put, List.setIfInBounds_toArray, List.set_cons_zero, List.set_cons_succ]
                refine wpAnyH_take (i := 20) (oi := { dst := some 77, op := Op.binOp BinOp.neq 9 (Operand.tmp 73) (Operand.tmp 76) 9, type := 4, pos := "more.go:54", after := #[{ on := 16, ground := Ground.data }, { on := 19, ground := Ground.data }, { on := 13, ground := Ground.guard }], guard := some (13, false) }) (v := ?tkv1030) rfl (by kernel_rfl) (by kernel_rfl) (by kernel_rfl) (fun _ _ _ h => h) (Or.inl ⟨by rfl, ?tky1030⟩) hH1029 ?tkr1030
                case tky1030 => (intro w' hSw; clear hSw; go_simp; try with_reducible rfl)
                try simp only [Act.put, List.setIfInBounds_toArray, List.set_cons_zero, List.set_cons_succ]
                refine wpAnyH_take (i := 21) (oi := { dst := some 78, op := Op.pick (Operand.tmp 70) (Operand.const (Value.bool true)) (Operand.tmp 77), type := 4, pos := "more.go:54", after := #[{ on := 13, ground := Ground.data }, { on := 20, ground := Ground.data }], guard := none }) (v := ?tkv1031) rfl (by kernel_rfl) (by kernel_rfl) (by kernel_rfl) (fun _ _ _ h => h) (Or.inl ⟨by rfl, ?tky1031⟩) hH1029 ?tkr1031
                case tky1031 => (intro w' hSw; clear hSw; go_simp; try with_reducible rfl)
                try simp only [Act.put, List.setIfInBounds_toArray, List.set_cons_zero, List.set_cons_succ]
                refine wpAnyH_done (by kernel_rfl) ?_ _
                refine NoPanic.normal ?_
                obtain ⟨wy, rfl⟩ : ∃ x : World, x = wn1023 := ⟨_, rfl⟩
                have HB13 : Hid (Below wk.heap.size wk wy) := Lib.hid (hH1029)
                go_wp2_with fail
                go_meet
                exact ⟨rfl, HB13⟩
          case rest =>
            obtain ⟨rfl, HB13⟩ := hcut
            obtain ⟨wx, rfl⟩ : ∃ x : World, x = wc := ⟨_, rfl⟩
            have HBX := Lib.hid (HBK.out.trans (HB13.out.mono HBK.out.size))
            have HMX := Lib.hid (HMA.out wx HB13.out)
            have HKX := Lib.hid (HMB.out wx HB13.out)
            have HXS : Hid (wk.heap.size ≤ wx.heap.size) := Lib.hid HB13.out.size
            have HOF := Lib.hid (of_any n B mm cb _ zs wx (HRM.out.below HBX.out) HBX.out.size (by omega) (by omega))
            clear HB13 HMA HMB
            go_wp2_with fail
            refine HOF.out.mono ?_
            rintro e wv ⟨gv, hv, rfl, hgv1, hgv2, hvec, hbv⟩
            have HGV : Hid (wx.heap.size ≤ gv ∧ wx.heap.size ≤ hv ∧ gv < wv.heap.size ∧ hv < wv.heap.size) := Lib.hid ⟨hgv1, hgv2, hvec.out.lt.1, hvec.out.lt.2⟩
            obtain ⟨X, hX⟩ : ∃ X, ofL n zs = X := ⟨_, rfl⟩
            rw [hX] at hvec
            have bal : Below wv.heap.size wv (wv.alloc (.cells #[.int .u8 1, .int .u8 2] 5)) := (Below.refl _ _).alloc (Nat.le_refl _) _
            have D : Hid (Row (wv.alloc (.cells #[.int .u8 1, .int .u8 2] 5)) (wv.alloc (.cells #[.int .u8 1, .int .u8 2] 5)).heap.size (some ⟨wv.heap.size, 0, none⟩) 2 (bv [1, 2])) := Lib.hid (Row.of_own (own_lit (w := wv) (base := 0) (g := wv.heap.size) (n := 2) (e := 5) #[.int .u8 1, .int .u8 2] rfl (Nat.zero_le _) rfl (by unfold maxLen; omega)))
            have HVB := Lib.hid (hbv.out.trans (bal.mono hbv.out.size))
            have HVE := Lib.hid (hvec.out.keep (bal.block _ hvec.out.lt.1) (bal.block _ hvec.out.lt.2))
            have HML := Lib.hid (HMX.out.below HVB.out)
            have HKL := Lib.hid (HKX.out.below HVB.out)
            have HBL := Lib.hid (HBX.out.trans (HVB.out.mono HBX.out.size))
            have HTL := Lib.hid (HT.out.grow HBL.out)
            have HAD := Lib.hid (addI (c0 := 2) HML.out HIV.out HVE.out D.out rfl HTL.out)
            obtain ⟨RR, hRR⟩ : ∃ RR, addMx n M X [1, 2] = RR := ⟨_, rfl⟩
            have HRR := Lib.hid hRR
            rw [hRR] at HAD
            have HXL := Lib.hid HVB.out.size
            clear hgv1 hgv2 hvec hbv bal HOF D HVB HMX HKX hRR hX
            go_wp2_with fail
            generalize wv.alloc (.cells #[.int .u8 1, .int .u8 2] 5) = wl at *
            refine HAD.out.mono ?_
            rintro e wz ⟨rfl, hmz, hfz⟩
            have HSS : Hid (w.heap.size ≤ wm.heap.size ∧ wm.heap.size ≤ wb.heap.size ∧ wb.heap.size ≤ wk.heap.size ∧ wk.heap.size ≤ wx.heap.size ∧ wx.heap.size ≤ wl.heap.size ∧ wl.heap.size ≤ wz.heap.size) := Lib.hid ⟨HBW.out.size, HSZ.out, HKS.out, HXS.out, HXL.out, hfz.out.size⟩
            have hss := HSS.out
            have HBZ : Hid (Below w.heap.size w wz) := Lib.hid (HBL.out.trans (hfz.out.below (fun _ h => h.1) HBL.out.size))
            have HVZ := Lib.hid (HVE.out.keep (hfz.out.block _ HVE.out.lt.1 (fun h => by have := HGV.out; have := h.2; omega)) (hfz.out.block _ HVE.out.lt.2 (fun h => by have := HGV.out; have := h.2; omega)))
            have HKZ := Lib.hid (HKL.out.keep (fun b hb hl => hfz.out.block b hl (fun h => by have := h.2; have := hb.1; omega)))
            have HMZ := Lib.hid hmz.out
            have HTZ := Lib.hid (HT.out.grow HBZ.out)
            have bal : Below wz.heap.size wz (wz.alloc (.cells #[.int .u8 1, .int .u8 2] 5)) := (Below.refl _ _).alloc (Nat.le_refl _) _
            have D : Hid (Row (wz.alloc (.cells #[.int .u8 1, .int .u8 2] 5)) (wz.alloc (.cells #[.int .u8 1, .int .u8 2] 5)).heap.size (some ⟨wz.heap.size, 0, none⟩) 2 (bv [1, 2])) := Lib.hid (Row.of_own (own_lit (w := wz) (base := 0) (g := wz.heap.size) (n := 2) (e := 5) #[.int .u8 1, .int .u8 2] rfl (Nat.zero_le _) rfl (by unfold maxLen; omega)))
            have HVY := Lib.hid (HVZ.out.keep (bal.block _ HVZ.out.lt.1) (bal.block _ HVZ.out.lt.2))
            have HMY := Lib.hid (HMZ.out.below bal)
            have HKY := Lib.hid (HKZ.out.below bal)
            have HBY := Lib.hid (HBZ.out.trans (bal.mono HBZ.out.size))
            have HTY := Lib.hid (HT.out.grow HBY.out)
            have HAD2 := Lib.hid (addI (c0 := 2) HKY.out HIV.out HVY.out D.out rfl HTY.out)
            rw [HRR.out] at HAD2
            clear HAD hmz hfz bal D HVZ HMZ HKZ HTZ HVE HML HKL HBL HTL hss
            go_wp2_with fail
            have HYS : Hid (wz.heap.size ≤ (wz.alloc (.cells #[.int .u8 1, .int .u8 2] 5)).heap.size) := Lib.hid (by simp)
            generalize wz.alloc (.cells #[.int .u8 1, .int .u8 2] 5) = wy at *
            refine HAD2.out.mono ?_
            rintro e wq ⟨rfl, hmq, hfq⟩
            have hss := HSS.out
            have hys := HYS.out
            obtain ⟨M2, b2⟩ := RR
            have HBQ : Hid (Below w.heap.size w wq) := Lib.hid (HBY.out.trans (hfq.out.below (fun _ h => by have := h.1; omega) HBY.out.size))
            have HMA : Hid (∀ W, Below wq.heap.size wq W → IsMat W (fun b => (fun b => w.heap.size ≤ b ∧ b < wm.heap.size) b ∨ wl.heap.size ≤ b ∧ b < wz.heap.size) gm n 2 M2) := Lib.hid fun W hW => (HMY.out.keep (fun b hb hl => hfq.out.block b hl (fun h => by
              have h1 := h.1
              have h2 := h.2
              rcases hb with hb | hb
              · have := hb.2; omega
              · have := hb.1; omega))).below hW
            have HMB : Hid (∀ W, Below wq.heap.size wq W → IsMat W (fun b => (wb.heap.size ≤ b ∧ b < wk.heap.size) ∨ (wy.heap.size ≤ b ∧ b < wq.heap.size)) gk n 2 M2) := Lib.hid fun W hW => IsMat.below hmq.out hW
            have HTQ := Lib.hid (HT.out.grow HBQ.out)
            obtain ⟨lc, hlc⟩ : ∃ lc, bytesM n 2 M2 = lc := ⟨_, rfl⟩
            have HLC := Lib.hid hlc
            clear hlc hmq hfq hss hys HAD2 HKY HMY
            have hbb : (b2 == b2) = true := beq_self_eq_true b2
            go_upto_region 17 with fail
            refine wp_region_noPanic ?_
            refine wp_region_held_drew (S := (fun W => Below (wq.heap.size) wq W)) (by kernel_rfl) (Below.refl _ _).drew (fun hH0 => ?_)
            have hH0 : Below (wq.heap.size) wq wq.drew := hH0
            generalize wq.drew = wd2000 at *
            refine wpAnyH_take (i := 0) (oi := { dst := some 90, op := Op.move (Operand.tmp 13), type := 4, pos := "more.go:59", after := #[], guard := none }) (v := ?tkv2001) rfl (by kernel_rfl) (by kernel_rfl) (by kernel_rfl) (fun _ _ _ h => h) (Or.inl ⟨by rfl, ?tky2001⟩) hH0 ?tkr2001
            case tky2001 => (intro w' hSw; clear hSw; go_simp; try with_reducible rfl)
            try simp only [Act.put, List.setIfInBounds_toArray, List.set_cons_zero, List.set_cons_succ]
            refine wpAnyH_take (i := 1) (oi := { dst := some 91, op := Op.move (Operand.tmp 14), type := 4, pos := "more.go:59", after := #[], guard := none }) (v := ?tkv2002) rfl (by kernel_rfl) (by kernel_rfl) (by kernel_rfl) (fun _ _ _ h => h) (Or.inl ⟨by rfl, ?tky2002⟩) hH0 ?tkr2002
            case tky2002 => (intro w' hSw; clear hSw; go_simp; try with_reducible rfl)
            try simp only [Act.put, List.setIfInBounds_toArray, List.set_cons_zero, List.set_cons_succ]
            refine wpAnyH_take (i := 2) (oi := { dst := some 92, op := Op.binOp BinOp.eql 4 (Operand.tmp 90) (Operand.tmp 91) 4, type := 4, pos := "more.go:59", after := #[{ on := 0, ground := Ground.data }, { on := 1, ground := Ground.data }], guard := none }) (v := ?tkv2003) rfl (by kernel_rfl) (by kernel_rfl) (by kernel_rfl) (fun _ _ _ h => h) (Or.inl ⟨by rfl, ?tky2003⟩) hH0 ?tkr2003
            case tky2003 => (intro w' hSw; clear hSw; go_simp; try with_reducible rfl)
            try simp only [Act.put, List.setIfInBounds_toArray, List.set_cons_zero, List.set_cons_succ]
            refine wpAnyH_take (i := 3) (oi := { dst := some 93, op := Op.move (Operand.tmp 92), type := 4, pos := "more.go:59", after := #[{ on := 2, ground := Ground.data }], guard := none }) (v := ?tkv2004) rfl (by kernel_rfl) (by kernel_rfl) (by kernel_rfl) (fun _ _ _ h => h) (Or.inl ⟨by rfl, ?tky2004⟩) hH0 ?tkr2004
            case tky2004 => (intro w' hSw; clear hSw; go_simp; try with_reducible rfl)
            try simp only [Act.put, List.setIfInBounds_toArray, List.set_cons_zero, List.set_cons_succ]
            refine wpAnyH_take (i := 4) (oi := { dst := some 94, op := Op.move (Operand.tmp 10), type := 25, pos := "more.go:59", after := #[{ on := 3, ground := Ground.guard }], guard := some (3, true) }) (v := ?tkv2005) rfl (by kernel_rfl) (by kernel_rfl) (by kernel_rfl) (fun _ _ _ h => h) (Or.inl ⟨by rfl, ?tky2005⟩) hH0 ?tkr2005
            case tky2005 => (intro w' hSw; clear hSw; go_simp; try with_reducible rfl)
            try simp only [Act.put, List.setIfInBounds_toArray, List.set_cons_zero, List.set_cons_succ]
            refine wpAnyH_take (i := 7) (oi := { dst := some 97, op := Op.move (Operand.tmp 7), type := 25, pos := "more.go:59", after := #[{ on := 3, ground := Ground.guard }], guard := some (3, true) }) (v := ?tkv2006) rfl (by kernel_rfl) (by kernel_rfl) (by kernel_rfl) (fun _ _ _ h => h) (Or.inl ⟨by rfl, ?tky2006⟩) hH0 ?tkr2006
            case tky2006 => (intro w' hSw; clear hSw; go_simp; try with_reducible rfl)
            try simp only [Act.put, List.setIfInBounds_toArray, List.set_cons_zero, List.set_cons_succ]
            refine wpAnyH_ready (rs := [5]) (by kernel_rfl) (by simp) ?_
            refine AllReadyH.cons (o := { dst := some 95, op := Op.call { callee := Callee.value (Operand.func 22), args := #[Operand.tmp 94], argTypes := #[25] }, type := 30, pos := "more.go:59", after := #[{ on := 4, ground := Ground.data }, { on := 3, ground := Ground.chain }, { on := 3, ground := Ground.guard }], guard := some (3, true) }) rfl (fun K hK => ?_) AllReadyH.nil
            go_simp
            refine (bytesI (HMB.out wd2000 (hH0))).mono ?_
            rw [HLC.out]
            rintro e' wn2007 ⟨A2007, c2007, rfl, ho2007, hb2007'⟩
            have hb2007 := hb2007'.out
            have CV2007 := Lib.hid (convE c2007 ho2007.out)
            clear hb2007' ho2007
            go_simp
            have hS2007 : Below (wq.heap.size) wq wn2007 := (hH0).trans (hb2007.mono (hH0).size)
            refine hK.out _ _ hS2007 (fun hH2007 => ?_)
            have hH2007 : Below (wq.heap.size) wq wn2007 := hH2007
            clear hK K hS2007
            try simp only [Act.put, List.setIfInBounds_toArray, List.set_cons_zero, List.set_cons_succ]
            refine wpAnyH_ready (rs := [6, 8]) (by kernel_rfl) (by simp) ?_
            refine AllReadyH.cons (o := { dst := some 96, op := Op.convert 30 9 (Operand.tmp 95), type := 9, pos := "more.go:59", after := #[{ on := 5, ground := Ground.data }, { on := 3, ground := Ground.guard }], guard := some (3, true) }) rfl (fun K hK => ?_) (AllReadyH.cons (o := { dst := some 98, op := Op.call { callee := Callee.value (Operand.func 22), args := #[Operand.tmp 97], argTypes := #[25] }, type := 30, pos := "more.go:59", after := #[{ on := 7, ground := Ground.data }, { on := 5, ground := Ground.chain }, { on := 3, ground := Ground.guard }], guard := some (3, true) }) rfl (fun K hK => ?_) AllReadyH.nil)
            · have hcv2008 := CV2007.out wn2007 (Below.refl wn2007.heap.size wn2007)
              go_simp
              clear hcv2008
              have hS2008 : Below (wq.heap.size) wq wn2007 := hH2007
              refine hK.out _ _ hS2008 (fun hH2008 => ?_)
              have hH2008 : Below (wq.heap.size) wq wn2007 := hH2008
              clear hK K hS2008
              try simp only [Act.put, List.setIfInBounds_toArray, List.set_cons_zero, List.set_cons_succ]
              refine wpAnyH_ready (rs := [8]) (by kernel_rfl) (by simp) ?_
              refine AllReadyH.cons (o := { dst := some 98, op := Op.call { callee := Callee.value (Operand.func 22), args := #[Operand.tmp 97], argTypes := #[25] }, type := 30, pos := "more.go:59", after := #[{ on := 7, ground := Ground.data }, { on := 5, ground := Ground.chain }, { on := 3, ground := Ground.guard }], guard := some (3, true) }) rfl (fun K hK => ?_) AllReadyH.nil
              go_simp
              refine (bytesI (HMA.out wn2007 (hH2008))).mono ?_
              rw [HLC.out]
              rintro e' wn2009 ⟨A2009, c2009, rfl, ho2009, hb2009'⟩
              have hb2009 := hb2009'.out
              have CV2009 := Lib.hid (convE c2009 ho2009.out)
              clear hb2009' ho2009
              go_simp
              have hS2009 : Below (wq.heap.size) wq wn2009 := (hH2008).trans (hb2009.mono (hH2008).size)
              refine hK.out _ _ hS2009 (fun hH2009 => ?_)
              have hH2009 : Below (wq.heap.size) wq wn2009 := hH2009
              clear hK K hS2009
              try simp only [Act.put, List.setIfInBounds_toArray, List.set_cons_zero, List.set_cons_succ]
              refine wpAnyH_ready (rs := [9]) (by kernel_rfl) (by simp) ?_
              refine AllReadyH.cons (o := { dst := some 99, op := Op.convert 30 9 (Operand.tmp 98), type := 9, pos := "more.go:59", after := #[{ on := 8, ground := Ground.data }, { on := 3, ground := Ground.guard }], guard := some (3, true) }) rfl (fun K hK => ?_) AllReadyH.nil
              have hcv2010 := CV2009.out wn2009 (Below.refl wn2009.heap.size wn2009)
              go_simp
              clear hcv2010
              have hS2010 : Below (wq.heap.size) wq wn2009 := hH2009
              refine hK.out _ _ hS2010 (fun hH2010 => ?_)
              have hH2010 : Below (wq.heap.size) wq wn2009 := hH2010
              clear hK K hS2010
              try simp only [Act.put, List.setIfInBounds_toArray, List.set_cons_zero, List.set_cons_succ]
              refine wpAnyH_take (i := 10) (oi := { dst := some 100, op := Op.binOp BinOp.eql 9 (Operand.tmp 96) (Operand.tmp 99) 9, type := 4, pos := "more.go:59", after := #[{ on := 6, ground := Ground.data }, { on := 9, ground := Ground.data }, { on := 3, ground := Ground.guard }], guard := some (3, true) }) (v := ?tkv2011) rfl (by kernel_rfl) (by kernel_rfl) (by kernel_rfl) (fun _ _ _ h => h) (Or.inl ⟨by rfl, ?tky2011⟩) hH2010 ?tkr2011
              case tky2011 => (intro w' hSw; clear hSw; go_simp; try with_reducible rfl)
              try simp only [Act.put, List.setIfInBounds_toArray, List.set_cons_zero, List.set_cons_succ]
              refine wpAnyH_take (i := 11) (oi := { dst := some 101, op := Op.pick (Operand.tmp 93) (Operand.tmp 100) (Operand.const (Value.bool false)), type := 4, pos := "more.go:59", after := #[{ on := 3, ground := Ground.data }, { on := 10, ground := Ground.data }], guard := none }) (v := ?tkv2012) rfl (by kernel_rfl) (by kernel_rfl) (by kernel_rfl) (fun _ _ _ h => h) (Or.inl ⟨by rfl, ?tky2012⟩) hH2010 ?tkr2012
              case tky2012 => (intro w' hSw; clear hSw; go_simp; try with_reducible rfl)
              try simp only [Act.put, List.setIfInBounds_toArray, List.set_cons_zero, List.set_cons_succ]
              refine wpAnyH_take (i := 12) (oi := { dst := some 102, op := Op.move (Operand.tmp 101), type := 4, pos := "more.go:59", after := #[{ on := 11, ground := Ground.data }, { on := 8, ground := Ground.chain }], guard := none }) (v := ?tkv2013) rfl (by kernel_rfl) (by kernel_rfl) (by kernel_rfl) (fun _ _ _ h => h) (Or.inl ⟨by rfl, ?tky2013⟩) hH2010 ?tkr2013
              case tky2013 => (intro w' hSw; clear hSw; go_simp; try with_reducible rfl)
              try simp only [Act.put, List.setIfInBounds_toArray, List.set_cons_zero, List.set_cons_succ]
              refine wpAnyH_ready (rs := [13]) (by kernel_rfl) (by simp) ?_
              refine AllReadyH.cons (o := { dst := some 103, op := Op.call { callee := Callee.value (Operand.func 7), args := #[], argTypes := #[] }, type := 4, pos := "more.go:59", after := #[{ on := 12, ground := Ground.chain }, { on := 12, ground := Ground.guard }], guard := some (12, true) }) rfl (fun K hK => ?_) AllReadyH.nil
              go_simp
              refine (awake6_any wn2009 (HTQ.out.grow (hH2010))).mono ?_
              rintro e' wn2014 ⟨rfl, hb2014'⟩
              have hb2014 := hb2014'.out
              clear hb2014'
              go_simp
              have hS2014 : Below (wq.heap.size) wq wn2014 := (hH2010).trans (hb2014.mono (hH2010).size)
              refine hK.out _ _ hS2014 (fun hH2014 => ?_)
              have hH2014 : Below (wq.heap.size) wq wn2014 := hH2014
              clear hK K hS2014
              try simp only [Act.put, List.setIfInBounds_toArray, List.set_cons_zero, List.set_cons_succ]
              refine wpAnyH_take (i := 14) (oi := { dst := some 104, op := Op.pick (Operand.tmp 102) (Operand.tmp 103) (Operand.const (Value.bool false)), type := 4, pos := "more.go:59", after := #[{ on := 12, ground := Ground.data }, { on := 13, ground := Ground.data }], guard := none }) (v := ?tkv2015) rfl (by kernel_rfl) (by kernel_rfl) (by kernel_rfl) (fun _ _ _ h => h) (Or.inl ⟨by rfl, ?tky2015⟩) hH2014 ?tkr2015
              case tky2015 => (intro w' hSw; clear hSw; go_simp; try with_reducible rfl)
              try simp only [Act.put, List.setIfInBounds_toArray, List.set_cons_zero, List.set_cons_succ]
              refine wpAnyH_take (i := 15) (oi := { dst := some 6, op := Op.assign (Operand.tmp 104), type := 4, pos := "more.go:59", after := #[{ on := 14, ground := Ground.data }, { on := 13, ground := Ground.chain }, { on := 0, ground := Ground.phase }, { on := 1, ground := Ground.phase }, { on := 2, ground := Ground.phase }, { on := 3, ground := Ground.phase }, { on := 4, ground := Ground.phase }, { on := 5, ground := Ground.phase }, { on := 6, ground := Ground.phase }, { on := 7, ground := Ground.phase }, { on := 8, ground := Ground.phase }, { on := 9, ground := Ground.phase }, { on := 10, ground := Ground.phase }, { on := 11, ground := Ground.phase }, { on := 12, ground := Ground.phase }, { on := 13, ground := Ground.phase }, { on := 14, ground := Ground.phase }], guard := none }) (v := ?tkv2016) rfl (by kernel_rfl) (by kernel_rfl) (by kernel_rfl) (fun _ _ _ h => h) (Or.inl ⟨by rfl, ?tky2016⟩) hH2014 ?tkr2016
              case tky2016 => (intro w' hSw; clear hSw; go_simp; try with_reducible rfl)
              try simp only [Act.put, List.setIfInBounds_toArray, List.set_cons_zero, List.set_cons_succ]
              refine wpAnyH_done (by kernel_rfl) ?_ _
              refine NoPanic.normal ?_
              have HB17 := Lib.hid (HBQ.out.trans ((hH2014).mono HBQ.out.size))
              go_wp2_with fail
              go_ret
              exact ⟨rfl, HB17.out⟩
            · go_simp
              refine (bytesI (HMA.out wn2007 (hH2007))).mono ?_
              rw [HLC.out]
              rintro e' wn2017 ⟨A2017, c2017, rfl, ho2017, hb2017'⟩
              have hb2017 := hb2017'.out
              have CV2017 := Lib.hid (convE c2017 ho2017.out)
              clear hb2017' ho2017
              go_simp
              have hS2017 : Below (wq.heap.size) wq wn2017 := (hH2007).trans (hb2017.mono (hH2007).size)
              refine hK.out _ _ hS2017 (fun hH2017 => ?_)
              have hH2017 : Below (wq.heap.size) wq wn2017 := hH2017
              clear hK K hS2017
              try simp only [Act.put, List.setIfInBounds_toArray, List.set_cons_zero, List.set_cons_succ]
              refine wpAnyH_ready (rs := [6, 9]) (by kernel_rfl) (by simp) ?_
              refine AllReadyH.cons (o := { dst := some 96, op := Op.convert 30 9 (Operand.tmp 95), type := 9, pos := "more.go:59", after := #[{ on := 5, ground := Ground.data }, { on := 3, ground := Ground.guard }], guard := some (3, true) }) rfl (fun K hK => ?_) (AllReadyH.cons (o := { dst := some 99, op := Op.convert 30 9 (Operand.tmp 98), type := 9, pos := "more.go:59", after := #[{ on := 8, ground := Ground.data }, { on := 3, ground := Ground.guard }], guard := some (3, true) }) rfl (fun K hK => ?_) AllReadyH.nil)
              · have hcv2018 := CV2007.out wn2017 (((Below.refl wn2007.heap.size wn2007)).trans (hb2017.mono ((Below.refl wn2007.heap.size wn2007)).size))
                go_simp
                clear hcv2018
                have hS2018 : Below (wq.heap.size) wq wn2017 := hH2017
                refine hK.out _ _ hS2018 (fun hH2018 => ?_)
                have hH2018 : Below (wq.heap.size) wq wn2017 := hH2018
                clear hK K hS2018
                try simp only [Act.put, List.setIfInBounds_toArray, List.set_cons_zero, List.set_cons_succ]
                refine wpAnyH_ready (rs := [9]) (by kernel_rfl) (by simp) ?_
                refine AllReadyH.cons (o := { dst := some 99, op := Op.convert 30 9 (Operand.tmp 98), type := 9, pos := "more.go:59", after := #[{ on := 8, ground := Ground.data }, { on := 3, ground := Ground.guard }], guard := some (3, true) }) rfl (fun K hK => ?_) AllReadyH.nil
                have hcv2019 := CV2017.out wn2017 (Below.refl wn2017.heap.size wn2017)
                go_simp
                clear hcv2019
                have hS2019 : Below (wq.heap.size) wq wn2017 := hH2018
                refine hK.out _ _ hS2019 (fun hH2019 => ?_)
                have hH2019 : Below (wq.heap.size) wq wn2017 := hH2019
                clear hK K hS2019
                try simp only [Act.put, List.setIfInBounds_toArray, List.set_cons_zero, List.set_cons_succ]
                refine wpAnyH_take (i := 10) (oi := { dst := some 100, op := Op.binOp BinOp.eql 9 (Operand.tmp 96) (Operand.tmp 99) 9, type := 4, pos := "more.go:59", after := #[{ on := 6, ground := Ground.data }, { on := 9, ground := Ground.data }, { on := 3, ground := Ground.guard }], guard := some (3, true) }) (v := ?tkv2020) rfl (by kernel_rfl) (by kernel_rfl) (by kernel_rfl) (fun _ _ _ h => h) (Or.inl ⟨by rfl, ?tky2020⟩) hH2019 ?tkr2020
                case tky2020 => (intro w' hSw; clear hSw; go_simp; try with_reducible rfl)
                try simp only [Act.put, List.setIfInBounds_toArray, List.set_cons_zero, List.set_cons_succ]
                refine wpAnyH_take (i := 11) (oi := { dst := some 101, op := Op.pick (Operand.tmp 93) (Operand.tmp 100) (Operand.const (Value.bool false)), type := 4, pos := "more.go:59", after := #[{ on := 3, ground := Ground.data }, { on := 10, ground := Ground.data }], guard := none }) (v := ?tkv2021) rfl (by kernel_rfl) (by kernel_rfl) (by kernel_rfl) (fun _ _ _ h => h) (Or.inl ⟨by rfl, ?tky2021⟩) hH2019 ?tkr2021
                case tky2021 => (intro w' hSw; clear hSw; go_simp; try with_reducible rfl)
                try simp only [Act.put, List.setIfInBounds_toArray, List.set_cons_zero, List.set_cons_succ]
                refine wpAnyH_take (i := 12) (oi := { dst := some 102, op := Op.move (Operand.tmp 101), type := 4, pos := "more.go:59", after := #[{ on := 11, ground := Ground.data }, { on := 8, ground := Ground.chain }], guard := none }) (v := ?tkv2022) rfl (by kernel_rfl) (by kernel_rfl) (by kernel_rfl) (fun _ _ _ h => h) (Or.inl ⟨by rfl, ?tky2022⟩) hH2019 ?tkr2022
                case tky2022 => (intro w' hSw; clear hSw; go_simp; try with_reducible rfl)
                try simp only [Act.put, List.setIfInBounds_toArray, List.set_cons_zero, List.set_cons_succ]
                refine wpAnyH_ready (rs := [13]) (by kernel_rfl) (by simp) ?_
                refine AllReadyH.cons (o := { dst := some 103, op := Op.call { callee := Callee.value (Operand.func 7), args := #[], argTypes := #[] }, type := 4, pos := "more.go:59", after := #[{ on := 12, ground := Ground.chain }, { on := 12, ground := Ground.guard }], guard := some (12, true) }) rfl (fun K hK => ?_) AllReadyH.nil
                go_simp
                refine (awake6_any wn2017 (HTQ.out.grow (hH2019))).mono ?_
                rintro e' wn2023 ⟨rfl, hb2023'⟩
                have hb2023 := hb2023'.out
                clear hb2023'
                go_simp
                have hS2023 : Below (wq.heap.size) wq wn2023 := (hH2019).trans (hb2023.mono (hH2019).size)
                refine hK.out _ _ hS2023 (fun hH2023 => ?_)
                have hH2023 : Below (wq.heap.size) wq wn2023 := hH2023
                clear hK K hS2023
                try simp only [Act.put, List.setIfInBounds_toArray, List.set_cons_zero, List.set_cons_succ]
                refine wpAnyH_take (i := 14) (oi := { dst := some 104, op := Op.pick (Operand.tmp 102) (Operand.tmp 103) (Operand.const (Value.bool false)), type := 4, pos := "more.go:59", after := #[{ on := 12, ground := Ground.data }, { on := 13, ground := Ground.data }], guard := none }) (v := ?tkv2024) rfl (by kernel_rfl) (by kernel_rfl) (by kernel_rfl) (fun _ _ _ h => h) (Or.inl ⟨by rfl, ?tky2024⟩) hH2023 ?tkr2024
                case tky2024 => (intro w' hSw; clear hSw; go_simp; try with_reducible rfl)
                try simp only [Act.put, List.setIfInBounds_toArray, List.set_cons_zero, List.set_cons_succ]
                refine wpAnyH_take (i := 15) (oi := { dst := some 6, op := Op.assign (Operand.tmp 104), type := 4, pos := "more.go:59", after := #[{ on := 14, ground := Ground.data }, { on := 13, ground := Ground.chain }, { on := 0, ground := Ground.phase }, { on := 1, ground := Ground.phase }, { on := 2, ground := Ground.phase }, { on := 3, ground := Ground.phase }, { on := 4, ground := Ground.phase }, { on := 5, ground := Ground.phase }, { on := 6, ground := Ground.phase }, { on := 7, ground := Ground.phase }, { on := 8, ground := Ground.phase }, { on := 9, ground := Ground.phase }, { on := 10, ground := Ground.phase }, { on := 11, ground := Ground.phase }, { on := 12, ground := Ground.phase }, { on := 13, ground := Ground.phase }, { on := 14, ground := Ground.phase }], guard := none }) (v := ?tkv2025) rfl (by kernel_rfl) (by kernel_rfl) (by kernel_rfl) (fun _ _ _ h => h) (Or.inl ⟨by rfl, ?tky2025⟩) hH2023 ?tkr2025
                case tky2025 => (intro w' hSw; clear hSw; go_simp; try with_reducible rfl)
                try simp only [Act.put, List.setIfInBounds_toArray, List.set_cons_zero, List.set_cons_succ]
                refine wpAnyH_done (by kernel_rfl) ?_ _
                refine NoPanic.normal ?_
                have HB17 := Lib.hid (HBQ.out.trans ((hH2023).mono HBQ.out.size))
                go_wp2_with fail
                go_ret
                exact ⟨rfl, HB17.out⟩
              · have hcv2026 := CV2017.out wn2017 (Below.refl wn2017.heap.size wn2017)
                go_simp
                clear hcv2026
                have hS2026 : Below (wq.heap.size) wq wn2017 := hH2017
                refine hK.out _ _ hS2026 (fun hH2026 => ?_)
                have hH2026 : Below (wq.heap.size) wq wn2017 := hH2026
                clear hK K hS2026
                try simp only [Act.put, List.setIfInBounds_toArray, List.set_cons_zero, List.set_cons_succ]
                refine wpAnyH_ready (rs := [6]) (by kernel_rfl) (by simp) ?_
                refine AllReadyH.cons (o := { dst := some 96, op := Op.convert 30 9 (Operand.tmp 95), type := 9, pos := "more.go:59", after := #[{ on := 5, ground := Ground.data }, { on := 3, ground := Ground.guard }], guard := some (3, true) }) rfl (fun K hK => ?_) AllReadyH.nil
                have hcv2027 := CV2007.out wn2017 (((Below.refl wn2007.heap.size wn2007)).trans (hb2017.mono ((Below.refl wn2007.heap.size wn2007)).size))
                go_simp
                clear hcv2027
                have hS2027 : Below (wq.heap.size) wq wn2017 := hH2026
                refine hK.out _ _ hS2027 (fun hH2027 => ?_)
                have hH2027 : Below (wq.heap.size) wq wn2017 := hH2027
                clear hK K hS2027
                try simp only [Act.put, List.setIfInBounds_toArray, List.set_cons_zero, List.set_cons_succ]
                refine wpAnyH_take (i := 10) (oi := { dst := some 100, op := Op.binOp BinOp.eql 9 (Operand.tmp 96) (Operand.tmp 99) 9, type := 4, pos := "more.go:59", after := #[{ on := 6, ground := Ground.data }, { on := 9, ground := Ground.data }, { on := 3, ground := Ground.guard }], guard := some (3, true) }) (v := ?tkv2028) rfl (by kernel_rfl) (by kernel_rfl) (by kernel_rfl) (fun _ _ _ h => h) (Or.inl ⟨by rfl, ?tky2028⟩) hH2027 ?tkr2028
                case tky2028 => (intro w' hSw; clear hSw; go_simp; try with_reducible rfl)
                try simp only [Act.put, List.setIfInBounds_toArray, List.set_cons_zero, List.set_cons_succ]
                refine wpAnyH_take (i := 11) (oi := { dst := some 101, op := Op.pick (Operand.tmp 93) (Operand.tmp 100) (Operand.const (Value.bool false)), type := 4, pos := "more.go:59", after := #[{ on := 3, ground := Ground.data }, { on := 10, ground := Ground.data }], guard := none }) (v := ?tkv2029) rfl (by kernel_rfl) (by kernel_rfl) (by kernel_rfl) (fun _ _ _ h => h) (Or.inl ⟨by rfl, ?tky2029⟩) hH2027 ?tkr2029
                case tky2029 => (intro w' hSw; clear hSw; go_simp; try with_reducible rfl)
                try simp only [Act.put, List.setIfInBounds_toArray, List.set_cons_zero, List.set_cons_succ]
                refine wpAnyH_take (i := 12) (oi := { dst := some 102, op := Op.move (Operand.tmp 101), type := 4, pos := "more.go:59", after := #[{ on := 11, ground := Ground.data }, { on := 8, ground := Ground.chain }], guard := none }) (v := ?tkv2030) rfl (by kernel_rfl) (by kernel_rfl) (by kernel_rfl) (fun _ _ _ h => h) (Or.inl ⟨by rfl, ?tky2030⟩) hH2027 ?tkr2030
                case tky2030 => (intro w' hSw; clear hSw; go_simp; try with_reducible rfl)
                try simp only [Act.put, List.setIfInBounds_toArray, List.set_cons_zero, List.set_cons_succ]
                refine wpAnyH_ready (rs := [13]) (by kernel_rfl) (by simp) ?_
                refine AllReadyH.cons (o := { dst := some 103, op := Op.call { callee := Callee.value (Operand.func 7), args := #[], argTypes := #[] }, type := 4, pos := "more.go:59", after := #[{ on := 12, ground := Ground.chain }, { on := 12, ground := Ground.guard }], guard := some (12, true) }) rfl (fun K hK => ?_) AllReadyH.nil
                go_simp
                refine (awake6_any wn2017 (HTQ.out.grow (hH2027))).mono ?_
                rintro e' wn2031 ⟨rfl, hb2031'⟩
                have hb2031 := hb2031'.out
                clear hb2031'
                go_simp
                have hS2031 : Below (wq.heap.size) wq wn2031 := (hH2027).trans (hb2031.mono (hH2027).size)
                refine hK.out _ _ hS2031 (fun hH2031 => ?_)
                have hH2031 : Below (wq.heap.size) wq wn2031 := hH2031
                clear hK K hS2031
                try simp only [Act.put, List.setIfInBounds_toArray, List.set_cons_zero, List.set_cons_succ]
                refine wpAnyH_take (i := 14) (oi := { dst := some 104, op := Op.pick (Operand.tmp 102) (Operand.tmp 103) (Operand.const (Value.bool false)), type := 4, pos := "more.go:59", after := #[{ on := 12, ground := Ground.data }, { on := 13, ground := Ground.data }], guard := none }) (v := ?tkv2032) rfl (by kernel_rfl) (by kernel_rfl) (by kernel_rfl) (fun _ _ _ h => h) (Or.inl ⟨by rfl, ?tky2032⟩) hH2031 ?tkr2032
                case tky2032 => (intro w' hSw; clear hSw; go_simp; try with_reducible rfl)
                try simp only [Act.put, List.setIfInBounds_toArray, List.set_cons_zero, List.set_cons_succ]
                refine wpAnyH_take (i := 15) (oi := { dst := some 6, op := Op.assign (Operand.tmp 104), type := 4, pos := "more.go:59", after := #[{ on := 14, ground := Ground.data }, { on := 13, ground := Ground.chain }, { on := 0, ground := Ground.phase }, { on := 1, ground := Ground.phase }, { on := 2, ground := Ground.phase }, { on := 3, ground := Ground.phase }, { on := 4, ground := Ground.phase }, { on := 5, ground := Ground.phase }, { on := 6, ground := Ground.phase }, { on := 7, ground := Ground.phase }, { on := 8, ground := Ground.phase }, { on := 9, ground := Ground.phase }, { on := 10, ground := Ground.phase }, { on := 11, ground := Ground.phase }, { on := 12, ground := Ground.phase }, { on := 13, ground := Ground.phase }, { on := 14, ground := Ground.phase }], guard := none }) (v := ?tkv2033) rfl (by kernel_rfl) (by kernel_rfl) (by kernel_rfl) (fun _ _ _ h => h) (Or.inl ⟨by rfl, ?tky2033⟩) hH2031 ?tkr2033
                case tky2033 => (intro w' hSw; clear hSw; go_simp; try with_reducible rfl)
                try simp only [Act.put, List.setIfInBounds_toArray, List.set_cons_zero, List.set_cons_succ]
                refine wpAnyH_done (by kernel_rfl) ?_ _
                refine NoPanic.normal ?_
                have HB17 := Lib.hid (HBQ.out.trans ((hH2031).mono HBQ.out.size))
                go_wp2_with fail
                go_ret
                exact ⟨rfl, HB17.out⟩
end Go.Proofs.YtgeodhffgbhmaaaDoor.El
