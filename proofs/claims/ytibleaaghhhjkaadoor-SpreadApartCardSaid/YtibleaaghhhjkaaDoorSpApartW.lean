/- SpreadApart's walk. -/
import Derived.Test.YtibleaaghhhjkaaDoorSpSomeW
import Derived.Test.YtibleaaghhhjkaaDoorR7Row
import Derived.Test.YtibleaaghhhjkaaDoorR1Bits
namespace Go.Proofs.YtibleaaghhhjkaaDoor.Sp
open Go.RowKit
open VecM RdM SoM Vc
set_option maxRecDepth 100000 in
set_option maxHeartbeats 6400000 in
theorem apart_walk (s : Nat) (K0 P0 Z0 : Int) (id : Nat) (hid : id < 2 ^ 32) (y : Int) (w : World) (ht : DTab w) (hs : s < 4294967296) :
    Calls Tryd.prog 3 #[.agg #[.int .u32 (s : Int), .int .i64 K0, .int .i64 P0, .int .i64 Z0], .int .u32 (id : Int), .int .i64 y] w fun e w' => e = .returned (.bool true) ∧ Below w.heap.size w w' := by
  have hx := heap_alloc_new w (.cells #[.int .u32 (s : Int), .int .i64 K0, .int .i64 P0, .int .i64 Z0] 24)
  have hb0 : Below w.heap.size w (w.alloc (.cells #[.int .u32 (s : Int), .int .i64 K0, .int .i64 P0, .int .i64 Z0] 24)) := (Below.refl _ _).alloc (Nat.le_refl _) _
  have hz : (w.alloc (.cells #[.int .u32 (s : Int), .int .i64 K0, .int .i64 P0, .int .i64 Z0] 24)).heap.size = w.heap.size + 1 := by simp
  have HX := Lib.hid hx
  have HB0 := Lib.hid hb0
  have HZ := Lib.hid hz
  have HT := Lib.hid ht
  have HSO := Lib.hid (fun W => sound_any s K0 P0 Z0 W)
  unfold parV at HSO
  have HS := Lib.hid hs
  have HID := Lib.hid hid
  have hid32 : (id : Int) ≤ 4294967295 := by omega
  clear hx hb0 hz ht hs hid
  go_enter Tryd.func3, Tryd.ntmps3
  go_wp2_with fail
  refine (HSO.out _).mono ?_
  rintro e w1 ⟨K, P, Z, rfl, hF, hb1⟩
  have hbx := (hb1.out.block w.heap.size (by have := HZ.out; omega)).trans HX.out
  have HB1 := Lib.hid (HB0.out.trans (hb1.out.mono HB0.out.size))
  have hlt1 : w.heap.size < w1.heap.size := by have := hb1.out.size; have := HZ.out; omega
  obtain ⟨c0, c1, c2, c3⟩ := box4 hbx
  obtain ⟨f0, f1, f2, f3⟩ := frozen4 hbx
  have HBX := Lib.hid hbx
  unfold parV
  clear hb1 hbx
  go_upto_region 2 with fail
  have hst := set4 HBX.out (.int .u32 (s : Int)) (.int .i64 (K : Int)) (.int .i64 (P : Int)) (.int .i64 (Z : Int))
  have hbs : Below w.heap.size w ((((w1.setCell ⟨w.heap.size, 0, none⟩ (.int .u32 (s : Int))).setCell ⟨w.heap.size, 1, none⟩ (.int .i64 (K : Int))).setCell ⟨w.heap.size, 2, none⟩ (.int .i64 (P : Int))).setCell ⟨w.heap.size, 3, none⟩ (.int .i64 (Z : Int))) := (((HB1.out.setCell (Nat.le_refl _) _).setCell (Nat.le_refl _) _).setCell (Nat.le_refl _) _).setCell (Nat.le_refl _) _
  generalize ((((w1.setCell ⟨w.heap.size, 0, none⟩ (.int .u32 (s : Int))).setCell ⟨w.heap.size, 1, none⟩ (.int .i64 (K : Int))).setCell ⟨w.heap.size, 2, none⟩ (.int .i64 (P : Int))).setCell ⟨w.heap.size, 3, none⟩ (.int .i64 (Z : Int))) = W1 at *
  have HST := Lib.hid hst
  have HBS := Lib.hid hbs
  clear hst hbs hlt1 c0 c1 c2 c3 f0 f1 f2 f3 HBX HB1 HX HB0 HZ HSO
  have HBX := Lib.hid (fun W (hW : Below W1.heap.size W1 W) => box4 ((hW.block _ (Array.getElem?_eq_some_iff.1 HST.out).1).trans HST.out))
  obtain ⟨n, hn⟩ : ∃ n, K + P = n := ⟨_, rfl⟩
  have HNN := Lib.hid hn
  have hn80 : n ≤ 80 := by have := hF.out; omega
  obtain ⟨X, hX⟩ : ∃ X, spX s K P id = X := ⟨_, rfl⟩
  have HXX := Lib.hid hX
  have HROW := Lib.hid (fun W => row_any s id K P Z W HS.out HID.out hF.out.1 hF.out.2.1 hF.out.2.2)
  rw [hn, hX] at HROW
  unfold parV at HROW
  have hXlt : X < 2 ^ n := by rw [← hX, ← hn]; exact spX_lt
  have HLL : Hid (L X n = Ls X) := Lib.hid (ls_n hXlt (by omega))
  obtain ⟨ml, hml⟩ : ∃ ml, (Ls X).length = ml := ⟨_, rfl⟩
  have HLS := Lib.hid hml
  have hml256 : ml ≤ 256 := by rw [← hml]; exact ls_lt X
  have hmli : (ml : Int) ≤ 256 := by omega
  clear hn hX hXlt hml
  go_cut [7, 8] (fun v7 v8 wx => ∃ g1 h1 g2 h2, v7 = .pointer (some ⟨g1, 0, none⟩) ∧ v8 = .pointer (some ⟨g2, 0, none⟩) ∧ Hid (VecAt wx g1 h1 n X) ∧ Hid (VecAt wx g2 h2 n X) ∧ Hid (h1 ≠ g2 ∧ h1 ≠ h2 ∧ W1.heap.size ≤ h1) ∧ Hid (Below W1.heap.size W1 wx))
  case first =>
    refine wp_region_noPanic ?_
    refine wp_region_held_drew (S := (fun W => Below (W1.heap.size) W1 W)) (by kernel_rfl) (Below.refl _ _).drew (fun hH0 => ?_)
    have hH0 : Below (W1.heap.size) W1 W1.drew := hH0
    generalize W1.drew = wd1000 at *
    refine wpAnyH_take (i := 0) (oi := { dst := some 12, op := Op.load 24 (Operand.tmp 3), type := 24, pos := "law.go:52", after := #[], guard := none }) (v := ?tkv1001) rfl (by kernel_rfl) (by kernel_rfl) (by kernel_rfl) (fun _ _ _ h => h) (Or.inl ⟨by rfl, ?tky1001⟩) hH0 ?tkr1001
    case tky1001 => (intro w' hSw; have z0 := HBX.out _ hSw; clear hSw; go_simp; try with_reducible rfl)
    try simp only [Act.put, List.setIfInBounds_toArray, List.set_cons_zero, List.set_cons_succ]
    refine wpAnyH_take (i := 1) (oi := { dst := some 13, op := Op.move (Operand.tmp 1), type := 22, pos := "law.go:52", after := #[], guard := none }) (v := ?tkv1002) rfl (by kernel_rfl) (by kernel_rfl) (by kernel_rfl) (fun _ _ _ h => h) (Or.inl ⟨by rfl, ?tky1002⟩) hH0 ?tkr1002
    case tky1002 => (intro w' hSw; clear hSw; go_simp; try with_reducible rfl)
    try simp only [Act.put, List.setIfInBounds_toArray, List.set_cons_zero, List.set_cons_succ]
    refine wpAnyH_take (i := 3) (oi := { dst := some 15, op := Op.load 24 (Operand.tmp 3), type := 24, pos := "law.go:52", after := #[], guard := none }) (v := ?tkv1003) rfl (by kernel_rfl) (by kernel_rfl) (by kernel_rfl) (fun _ _ _ h => h) (Or.inl ⟨by rfl, ?tky1003⟩) hH0 ?tkr1003
    case tky1003 => (intro w' hSw; have z0 := HBX.out _ hSw; clear hSw; go_simp; try with_reducible rfl)
    try simp only [Act.put, List.setIfInBounds_toArray, List.set_cons_zero, List.set_cons_succ]
    refine wpAnyH_take (i := 4) (oi := { dst := some 16, op := Op.move (Operand.tmp 1), type := 22, pos := "law.go:52", after := #[], guard := none }) (v := ?tkv1004) rfl (by kernel_rfl) (by kernel_rfl) (by kernel_rfl) (fun _ _ _ h => h) (Or.inl ⟨by rfl, ?tky1004⟩) hH0 ?tkr1004
    case tky1004 => (intro w' hSw; clear hSw; go_simp; try with_reducible rfl)
    try simp only [Act.put, List.setIfInBounds_toArray, List.set_cons_zero, List.set_cons_succ]
    refine wpAnyH_ready (rs := [2]) (by kernel_rfl) (by simp) ?_
    refine AllReadyH.cons (o := { dst := some 14, op := Op.call { callee := Callee.value (Operand.func 6), args := #[Operand.tmp 12, Operand.tmp 13], argTypes := #[24, 22] }, type := 26, pos := "law.go:52", after := #[{ on := 0, ground := Ground.data }, { on := 1, ground := Ground.data }], guard := none }) rfl (fun K hK => ?_) AllReadyH.nil
    go_simp
    refine (HROW.out wd1000).mono ?_
    rintro e' wn1005 ⟨g1005, h1005, rfl, hg1005, hh1005, hv1005, hb1005'⟩
    have hb1005 := hb1005'.out
    have VE1005_ := Lib.hid hv1005.out
    have LT1005 := Lib.hid (And.intro hg1005 (And.intro hh1005 (And.intro hv1005.out.lt.1 (And.intro hv1005.out.lt.2 (hH0).size))))
    clear hb1005' hv1005 hg1005 hh1005
    go_simp
    have hS1005 : Below (W1.heap.size) W1 wn1005 := (hH0).trans (hb1005.mono (hH0).size)
    refine hK.out _ _ hS1005 (fun hH1005 => ?_)
    have hH1005 : Below (W1.heap.size) W1 wn1005 := hH1005
    clear hK K hS1005
    try simp only [Act.put, List.setIfInBounds_toArray, List.set_cons_zero, List.set_cons_succ]
    refine wpAnyH_ready (rs := [5]) (by kernel_rfl) (by simp) ?_
    refine AllReadyH.cons (o := { dst := some 17, op := Op.call { callee := Callee.value (Operand.func 6), args := #[Operand.tmp 15, Operand.tmp 16], argTypes := #[24, 22] }, type := 26, pos := "law.go:52", after := #[{ on := 3, ground := Ground.data }, { on := 4, ground := Ground.data }, { on := 2, ground := Ground.chain }], guard := none }) rfl (fun K hK => ?_) AllReadyH.nil
    go_simp
    refine (HROW.out wn1005).mono ?_
    rintro e' wn1006 ⟨g1006, h1006, rfl, hg1006, hh1006, hv1006, hb1006'⟩
    have hb1006 := hb1006'.out
    have VE1006_ := Lib.hid hv1006.out
    have LT1006 := Lib.hid (And.intro hg1006 (And.intro hh1006 (And.intro hv1006.out.lt.1 (And.intro hv1006.out.lt.2 (hH1005).size))))
    clear hb1006' hv1006 hg1006 hh1006
    go_simp
    have VE1005_1006 := Lib.hid (VE1005_.out.below hb1006)
    have hS1006 : Below (W1.heap.size) W1 wn1006 := (hH1005).trans (hb1006.mono (hH1005).size)
    refine hK.out _ _ hS1006 (fun hH1006 => ?_)
    have hH1006 : Below (W1.heap.size) W1 wn1006 := hH1006
    clear hK K hS1006
    try simp only [Act.put, List.setIfInBounds_toArray, List.set_cons_zero, List.set_cons_succ]
    refine wpAnyH_take (i := 6) (oi := { dst := some 7, op := Op.assign (Operand.tmp 14), type := 26, pos := "law.go:52", after := #[{ on := 2, ground := Ground.data }, { on := 5, ground := Ground.chain }, { on := 0, ground := Ground.phase }, { on := 1, ground := Ground.phase }, { on := 2, ground := Ground.phase }, { on := 3, ground := Ground.textOnly Departure.lateStores }, { on := 4, ground := Ground.textOnly Departure.lateStores }, { on := 5, ground := Ground.textOnly Departure.lateStoresUnsure }], guard := none }) (v := ?tkv1007) rfl (by kernel_rfl) (by kernel_rfl) (by kernel_rfl) (fun _ _ _ h => h) (Or.inl ⟨by rfl, ?tky1007⟩) hH1006 ?tkr1007
    case tky1007 => (intro w' hSw; clear hSw; go_simp; try with_reducible rfl)
    try simp only [Act.put, List.setIfInBounds_toArray, List.set_cons_zero, List.set_cons_succ]
    refine wpAnyH_take (i := 7) (oi := { dst := some 8, op := Op.assign (Operand.tmp 17), type := 26, pos := "law.go:52", after := #[{ on := 5, ground := Ground.data }, { on := 6, ground := Ground.chain }, { on := 0, ground := Ground.phase }, { on := 1, ground := Ground.phase }, { on := 2, ground := Ground.phase }, { on := 3, ground := Ground.phase }, { on := 4, ground := Ground.phase }, { on := 5, ground := Ground.phase }, { on := 6, ground := Ground.phase }], guard := none }) (v := ?tkv1008) rfl (by kernel_rfl) (by kernel_rfl) (by kernel_rfl) (fun _ _ _ h => h) (Or.inl ⟨by rfl, ?tky1008⟩) hH1006 ?tkr1008
    case tky1008 => (intro w' hSw; clear hSw; go_simp; try with_reducible rfl)
    try simp only [Act.put, List.setIfInBounds_toArray, List.set_cons_zero, List.set_cons_succ]
    refine wpAnyH_done (by kernel_rfl) ?_ _
    refine NoPanic.normal ?_
    have l1 := LT1005.out
    have l2 := LT1006.out
    have HAP : Hid (h1005 ≠ g1006 ∧ h1005 ≠ h1006 ∧ W1.heap.size ≤ h1005) := Lib.hid (by omega)
    have HBE : Hid (Below W1.heap.size W1 wn1006) := Lib.hid (hH1006)
    clear l1 l2
    go_wp2_with fail
    go_meet
    exact ⟨_, h1005, _, h1006, rfl, rfl, VE1005_1006, VE1006_, HAP, HBE⟩
  case rest =>
    obtain ⟨g1, h1, g2, h2, rfl, rfl, HV, HU, HAP, HBW⟩ := hcut
    obtain ⟨w4, rfl⟩ : ∃ x : World, x = wc := ⟨_, rfl⟩
    clear HROW
    by_cases hin : 0 ≤ y ∧ y < (n : Int)
    · obtain ⟨j, rfl⟩ : ∃ j : Nat, y = (j : Int) := ⟨y.toNat, by omega⟩
      have hjn : j < n := by omega
      have HHA := Lib.hid (has_in g1 h1 n X j w4 HV.out hjn)
      obtain ⟨bt, hbt⟩ : ∃ bt, X.testBit j = bt := ⟨_, rfl⟩
      rw [hbt] at HHA
      have HSE := Lib.hid (set_in g1 h1 n X j (!bt) w4 HV.out hjn)
      clear hin hbt
      go_wp2_with fail
      refine HHA.out.mono ?_
      rintro e wx ⟨rfl, rfl⟩
      go_wp2_with fail
      refine HSE.out.mono ?_
      rintro e w5 ⟨rfl, hv5, hgr5⟩
      obtain ⟨Y, hY⟩ : ∃ Y, put X j (!bt) = Y := ⟨_, rfl⟩
      rw [hY] at hv5
      have HV5 := Lib.hid hv5.out
      have HU5 := Lib.hid (HU.out.grown hgr5.out HAP.out.1 HAP.out.2.1)
      have HB5 := Lib.hid (HBW.out.grown hgr5.out HBW.out.size (fun k hk => by injection hk with hk; rw [← hk]; exact HAP.out.2.2))
      clear hv5 hgr5 hY HHA HSE HV HU HBW
      have HBX5 := Lib.hid (fun W (hW : Below w5.heap.size w5 W) => HBX.out W (HB5.out.trans (hW.mono HB5.out.size)))
      obtain ⟨c0, c1, c2, c3⟩ := HBX5.out w5 (Below.refl _ _)
      obtain ⟨id2, hid2⟩ : ∃ id2 : Nat, ((id : Int) + 1) % 4294967296 = (id2 : Int) := ⟨((id + 1) % 4294967296), by omega⟩
      have HI2 := Lib.hid hid2
      have HR2 := Lib.hid (row_any s id2 K P Z w5 HS.out (by omega) hF.out.1 hF.out.2.1 hF.out.2.2)
      have HW2 : Hid (IntKind.u32.wrap ((id : Int) + 1) = (id2 : Int)) := Lib.hid (by rw [IntKind.wrap_u32']; exact hid2)
      rw [HNN.out] at HR2
      unfold parV at HR2
      clear hid2
      go_wp2_with (first | rw [HI2.out] | rw [HW2.out])
      refine HR2.out.mono ?_
      rintro e w6 ⟨g3, h3, rfl, hg3, hh3, hv3, hb6⟩
      have h5lt := HV5.out.lt
      have HV6 := Lib.hid (HV5.out.below hb6.out)
      have HU6 := Lib.hid (HU5.out.below hb6.out)
      have HXO := Lib.hid (xor_any g1 h1 n Y g3 h3 (spX s K P id2) w6 HV6.out hv3.out (by omega) (by omega))
      have HB6 := Lib.hid (HB5.out.trans (hb6.out.mono HB5.out.size))
      clear c0 c1 c2 c3 hg3 hh3 hv3 hb6 h5lt HR2
      go_wp2_with fail
      refine HXO.out.mono ?_
      rintro e w7 ⟨rfl, _, hgr7⟩
      have HU7 := Lib.hid (HU6.out.grown hgr7.out HAP.out.1 HAP.out.2.1)
      have HB7 := Lib.hid (HB6.out.grown hgr7.out HB6.out.size (fun k hk => by injection hk with hk; rw [← hk]; exact HAP.out.2.2))
      have HBX7 := Lib.hid (fun W (hW : Below w7.heap.size w7 W) => HBX.out W (HB7.out.trans (hW.mono HB7.out.size)))
      obtain ⟨c0, c1, c2, c3⟩ := HBX7.out w7 (Below.refl _ _)
      have HT7 := Lib.hid (HT.out.grow (HBS.out.trans (HB7.out.mono HBS.out.size)))
      have HRR := Lib.hid (fun W => rrow_any s id K P Z W HS.out HID.out hF.out.1 hF.out.2.1 hF.out.2.2)
      rw [HNN.out, HXX.out] at HRR
      unfold parV at HRR
      clear hgr7 HXO
      go_wp2_with fail
      refine (HRR.out w7).mono ?_
      rintro e w8 ⟨g8, rfl, ho8, hb8⟩
      have HU8 := Lib.hid (HU7.out.below hb8.out)
      have HLK := Lib.hid (like_yes g2 h2 n X w8.heap.size n (some ⟨g8, 0, none⟩) w8 HU8.out (Row.of_own ho8.out) (Nat.le_refl _) (HT7.out.grow hb8.out))
      have HB8 := Lib.hid hb8.out
      clear c0 c1 c2 c3 ho8 hb8
      go_wp2_with fail
      refine HLK.out.mono ?_
      rintro e w9 ⟨rfl, hb9⟩
      have HB9 := Lib.hid (HB8.out.trans (hb9.out.mono HB8.out.size))
      have HU9 := Lib.hid (HU8.out.below hb9.out)
      obtain ⟨c0, c1, c2, c3⟩ := HBX7.out w9 HB9.out
      clear hb9 HLK
      go_wp2_with fail
      refine (HRR.out w9).mono ?_
      rintro e wa ⟨ga, rfl, hoa, hba⟩
      have HLI := Lib.hid (r1list_any wa.heap.size n n X (some ⟨ga, 0, none⟩) wa (Row.of_own hoa.out) (by omega) (Nat.le_refl _))
      rw [HLL.out] at HLI
      have HBA := Lib.hid (HB9.out.trans (hba.out.mono HB9.out.size))
      have HUA := Lib.hid (HU9.out.below hba.out)
      clear c0 c1 c2 c3 hoa hba HRR
      go_wp2_with fail
      refine HLI.out.mono ?_
      rintro e wb ⟨Ab, cb, rfl, _, hbb⟩
      have HBB := Lib.hid (HBA.out.trans (hbb.out.mono HBA.out.size))
      have HUB := Lib.hid (HUA.out.below hbb.out)
      have HCO := Lib.hid (count_any g2 h2 n X wb HUB.out)
      clear hbb HLI
      rw [HLS.out] at HCO ⊢
      go_wp2_with fail
      refine HCO.out.mono ?_
      rintro e wcc ⟨rfl, rfl⟩
      have HBC := Lib.hid (HBS.out.trans ((HB7.out.trans (HBB.out.mono HB7.out.size)).mono HBS.out.size))
      go_wp2_with fail
      refine (awake8_any wb (HT7.out.grow HBB.out)).mono ?_
      rintro e wd ⟨rfl, hbd⟩
      have HBD := Lib.hid (HBC.out.trans (hbd.out.mono HBC.out.size))
      clear hbd
      go_wp2_with fail
      go_ret
      exact ⟨rfl, HBD.out⟩
    · have hout : y < 0 ∨ (n : Int) ≤ y := by omega
      have HHA := Lib.hid (has_no (some ⟨g1, 0, none⟩) y w4 (within_out g1 h1 n X y w4 HV.out hout))
      have HSE := Lib.hid (set_no (some ⟨g1, 0, none⟩) y true w4 (within_out g1 h1 n X y w4 HV.out hout))
      clear hin hout
      go_wp2_with fail
      refine HHA.out.mono ?_
      rintro e wx ⟨rfl, rfl⟩
      go_wp2_with fail
      refine HSE.out.mono ?_
      rintro e w5 ⟨rfl, rfl⟩
      obtain ⟨Y, hY⟩ : ∃ Y, X = Y := ⟨_, rfl⟩
      have HV5 : Hid (VecAt w4 g1 h1 n Y) := Lib.hid (by rw [← hY]; exact HV.out)
      have HU5 := Lib.hid HU.out
      have HB5 := Lib.hid HBW.out
      obtain ⟨w5, rfl⟩ : ∃ x : World, x = w4 := ⟨_, rfl⟩
      clear hY HHA HSE HV HU HBW
      have HBX5 := Lib.hid (fun W (hW : Below w5.heap.size w5 W) => HBX.out W (HB5.out.trans (hW.mono HB5.out.size)))
      obtain ⟨c0, c1, c2, c3⟩ := HBX5.out w5 (Below.refl _ _)
      obtain ⟨id2, hid2⟩ : ∃ id2 : Nat, ((id : Int) + 1) % 4294967296 = (id2 : Int) := ⟨((id + 1) % 4294967296), by omega⟩
      have HI2 := Lib.hid hid2
      have HR2 := Lib.hid (row_any s id2 K P Z w5 HS.out (by omega) hF.out.1 hF.out.2.1 hF.out.2.2)
      have HW2 : Hid (IntKind.u32.wrap ((id : Int) + 1) = (id2 : Int)) := Lib.hid (by rw [IntKind.wrap_u32']; exact hid2)
      rw [HNN.out] at HR2
      unfold parV at HR2
      clear hid2
      go_wp2_with (first | rw [HI2.out] | rw [HW2.out])
      refine HR2.out.mono ?_
      rintro e w6 ⟨g3, h3, rfl, hg3, hh3, hv3, hb6⟩
      have h5lt := HV5.out.lt
      have HV6 := Lib.hid (HV5.out.below hb6.out)
      have HU6 := Lib.hid (HU5.out.below hb6.out)
      have HXO := Lib.hid (xor_any g1 h1 n Y g3 h3 (spX s K P id2) w6 HV6.out hv3.out (by omega) (by omega))
      have HB6 := Lib.hid (HB5.out.trans (hb6.out.mono HB5.out.size))
      clear c0 c1 c2 c3 hg3 hh3 hv3 hb6 h5lt HR2
      go_wp2_with fail
      refine HXO.out.mono ?_
      rintro e w7 ⟨rfl, _, hgr7⟩
      have HU7 := Lib.hid (HU6.out.grown hgr7.out HAP.out.1 HAP.out.2.1)
      have HB7 := Lib.hid (HB6.out.grown hgr7.out HB6.out.size (fun k hk => by injection hk with hk; rw [← hk]; exact HAP.out.2.2))
      have HBX7 := Lib.hid (fun W (hW : Below w7.heap.size w7 W) => HBX.out W (HB7.out.trans (hW.mono HB7.out.size)))
      obtain ⟨c0, c1, c2, c3⟩ := HBX7.out w7 (Below.refl _ _)
      have HT7 := Lib.hid (HT.out.grow (HBS.out.trans (HB7.out.mono HBS.out.size)))
      have HRR := Lib.hid (fun W => rrow_any s id K P Z W HS.out HID.out hF.out.1 hF.out.2.1 hF.out.2.2)
      rw [HNN.out, HXX.out] at HRR
      unfold parV at HRR
      clear hgr7 HXO
      go_wp2_with fail
      refine (HRR.out w7).mono ?_
      rintro e w8 ⟨g8, rfl, ho8, hb8⟩
      have HU8 := Lib.hid (HU7.out.below hb8.out)
      have HLK := Lib.hid (like_yes g2 h2 n X w8.heap.size n (some ⟨g8, 0, none⟩) w8 HU8.out (Row.of_own ho8.out) (Nat.le_refl _) (HT7.out.grow hb8.out))
      have HB8 := Lib.hid hb8.out
      clear c0 c1 c2 c3 ho8 hb8
      go_wp2_with fail
      refine HLK.out.mono ?_
      rintro e w9 ⟨rfl, hb9⟩
      have HB9 := Lib.hid (HB8.out.trans (hb9.out.mono HB8.out.size))
      have HU9 := Lib.hid (HU8.out.below hb9.out)
      obtain ⟨c0, c1, c2, c3⟩ := HBX7.out w9 HB9.out
      clear hb9 HLK
      go_wp2_with fail
      refine (HRR.out w9).mono ?_
      rintro e wa ⟨ga, rfl, hoa, hba⟩
      have HLI := Lib.hid (r1list_any wa.heap.size n n X (some ⟨ga, 0, none⟩) wa (Row.of_own hoa.out) (by omega) (Nat.le_refl _))
      rw [HLL.out] at HLI
      have HBA := Lib.hid (HB9.out.trans (hba.out.mono HB9.out.size))
      have HUA := Lib.hid (HU9.out.below hba.out)
      clear c0 c1 c2 c3 hoa hba HRR
      go_wp2_with fail
      refine HLI.out.mono ?_
      rintro e wb ⟨Ab, cb, rfl, _, hbb⟩
      have HBB := Lib.hid (HBA.out.trans (hbb.out.mono HBA.out.size))
      have HUB := Lib.hid (HUA.out.below hbb.out)
      have HCO := Lib.hid (count_any g2 h2 n X wb HUB.out)
      clear hbb HLI
      rw [HLS.out] at HCO ⊢
      go_wp2_with fail
      refine HCO.out.mono ?_
      rintro e wcc ⟨rfl, rfl⟩
      have HBC := Lib.hid (HBS.out.trans ((HB7.out.trans (HBB.out.mono HB7.out.size)).mono HBS.out.size))
      go_wp2_with fail
      refine (awake8_any wb (HT7.out.grow HBB.out)).mono ?_
      rintro e wd ⟨rfl, hbd⟩
      have HBD := Lib.hid (HBC.out.trans (hbd.out.mono HBC.out.size))
      clear hbd
      go_wp2_with fail
      go_ret
      exact ⟨rfl, HBD.out⟩
end Go.Proofs.YtibleaaghhhjkaaDoor.Sp
