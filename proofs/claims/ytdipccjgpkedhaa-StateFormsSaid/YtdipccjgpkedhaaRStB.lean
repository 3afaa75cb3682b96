/- The reference's StateBytes: by contract. -/
import Derived.Test.YtdipccjgpkedhaaStBytes
import Derived.Test.YtdipccjgpkedhaaRAdm
import Derived.Test.YtdipccjgpkedhaaRPlain
namespace Go.Proofs.Ytdipccjgpkedhaa
open Go.RowKit
set_option maxRecDepth 100000 in
set_option maxHeartbeats 25600000 in
theorem rbytesS_ex (act tr flo gen v0 v1 : Nat) (l0 l1 : Int) (h0 h1 : List UInt8) (on : Bool) (m : LMan) (A0 A1 A : Option Addr) (c0 c1 c : Nat) (w : World) (hm : ((⟨(act : Int), (tr : Int), flo, gen, v0, l0, h0, v1, l1, h1, on, m⟩ : LSt)).may = true) (hw : ((⟨(act : Int), (tr : Int), flo, gen, v0, l0, h0, v1, l1, h1, on, m⟩ : LSt)).w32) (r0 : Row w w.heap.size A0 h0.length (bv h0)) (r1 : Row w w.heap.size A1 h1.length (bv h1)) (r : Row w w.heap.size A m.h.length (bv m.h)) :
    Calls Try.prog 8 #[.agg #[.int .i64 (act : Int), .int .i64 (tr : Int), .int .u32 (flo : Int), .int .u32 (gen : Int), .int .u32 (v0 : Int), .int .i64 l0, .slice A0 h0.length c0, .int .u32 (v1 : Int), .int .i64 l1, .slice A1 h1.length c1, .bool on, .int .u32 (m.s : Int), .int .u32 (m.v : Int), .int .i64 m.l, .int .i64 m.z, .int .i64 m.p, .slice A m.h.length c]] w (BytesOk ((⟨(act : Int), (tr : Int), flo, gen, v0, l0, h0, v1, l1, h1, on, m⟩ : LSt)).bytes w) := by
  obtain ⟨i0, hi, hz0, hz1, hz2⟩ := info_parts Try.info5
  have hst : IsSt w (fun _ => True) #[.int .i64 (act : Int), .int .i64 (tr : Int), .int .u32 (flo : Int), .int .u32 (gen : Int), .int .u32 (v0 : Int), .int .i64 l0, .slice A0 h0.length c0, .int .u32 (v1 : Int), .int .i64 l1, .slice A1 h1.length c1, .bool on, .int .u32 (m.s : Int), .int .u32 (m.v : Int), .int .i64 m.l, .int .i64 m.z, .int .i64 m.p, .slice A m.h.length c] (⟨(act : Int), (tr : Int), flo, gen, v0, l0, h0, v1, l1, h1, on, m⟩ : LSt) := ⟨A0, c0, A1, c1, A, c, rfl, .of_row r0, .of_row r1, .of_row r⟩
  obtain ⟨hok, ha, ht1, ht2⟩ := may_ok hm hw
  simp only at ha ht1 ht2
  have qa : act ≤ 1 := by omega
  have qt : tr ≤ 3 := by omega
  have hb0 : Below w.heap.size w (w.alloc (.cells #[.int .i64 (act : Int), .int .i64 (tr : Int), .int .u32 (flo : Int), .int .u32 (gen : Int), .int .u32 (v0 : Int), .int .i64 l0, .slice A0 h0.length c0, .int .u32 (v1 : Int), .int .i64 l1, .slice A1 h1.length c1, .bool on, .int .u32 (m.s : Int), .int .u32 (m.v : Int), .int .i64 m.l, .int .i64 m.z, .int .i64 m.p, .slice A m.h.length c] 30)) := (Below.refl _ _).alloc (Nat.le_refl _) _
  have H0 := Lib.hid (hst.below hb0)
  have B0 := Lib.hid hb0
  have BX := Lib.hid (heap_alloc_new w (.cells #[.int .i64 (act : Int), .int .i64 (tr : Int), .int .u32 (flo : Int), .int .u32 (gen : Int), .int .u32 (v0 : Int), .int .i64 l0, .slice A0 h0.length c0, .int .u32 (v1 : Int), .int .i64 l1, .slice A1 h1.length c1, .bool on, .int .u32 (m.s : Int), .int .u32 (m.v : Int), .int .i64 m.l, .int .i64 m.z, .int .i64 m.p, .slice A m.h.length c] 30))
  have HM := Lib.hid hm
  have RR0 := Lib.hid ((r0.below hb0).more hb0.size)
  have RR1 := Lib.hid ((r1.below hb0).more hb0.size)
  have RR := Lib.hid ((r.below hb0).more hb0.size)
  have HOK := Lib.hid hok
  have HW := Lib.hid hw
  clear hst hb0 hm r0 r1 r ha ht1 ht2 hok hw
  obtain ⟨BY, hBY⟩ : ∃ BY, ((⟨(act : Int), (tr : Int), flo, gen, v0, l0, h0, v1, l1, h1, on, m⟩ : LSt)).bytes = BY := ⟨_, rfl⟩
  rw [hBY]
  have HBY := Lib.hid hBY
  clear hBY
  go_enter Try.func8, Try.ntmps8
  go_wp2_with ((with_reducible show wpList _ _ _ _ _ _); refine wpList_load_row (o := ⟨some 9, _, _, _, _, _⟩) rfl _ (.tmp 1) rfl w.heap.size rfl _ _ _ _ BX.out Try.underlying30 rfl (by kernel_rfl) ?_)
  refine (rmayS H0.out).mono ?_
  rintro e wb ⟨rfl, hb1⟩
  rw [HM.out]
  have B1 := Lib.hid (B0.out.trans (hb1.mono B0.out.size))
  have BX1 := Lib.hid ((hb1.block w.heap.size (by simp)).trans BX.out)
  have R0 := Lib.hid ((RR0.out.below hb1).more hb1.size)
  have R1 := Lib.hid ((RR1.out.below hb1).more hb1.size)
  have R := Lib.hid ((RR.out.below hb1).more hb1.size)
  have HLT : Hid (w.heap.size < wb.heap.size) := Lib.hid (Array.getElem?_eq_some_iff.1 BX1.out).1
  clear hb1 H0 B0 BX HM RR0 RR1 RR
  have HCL : Hid (∀ W, Below wb.heap.size wb W → W.heap[w.heap.size]? = some (.cells #[.int .i64 (act : Int), .int .i64 (tr : Int), .int .u32 (flo : Int), .int .u32 (gen : Int), .int .u32 (v0 : Int), .int .i64 l0, .slice A0 h0.length c0, .int .u32 (v1 : Int), .int .i64 l1, .slice A1 h1.length c1, .bool on, .int .u32 (m.s : Int), .int .u32 (m.v : Int), .int .i64 m.l, .int .i64 m.z, .int .i64 m.p, .slice A m.h.length c] 30 (0, 0))) := Lib.hid fun W hW => (hW.block _ HLT.out).trans BX1.out
  have HC : Hid (∀ W, Below wb.heap.size wb W → W.cell? ⟨w.heap.size, 0, none⟩ = some (.int .i64 (act : Int)) ∧ W.cell? ⟨w.heap.size, 1, none⟩ = some (.int .i64 (tr : Int)) ∧ W.cell? ⟨w.heap.size, 2, none⟩ = some (.int .u32 (flo : Int)) ∧ W.cell? ⟨w.heap.size, 3, none⟩ = some (.int .u32 (gen : Int))) := Lib.hid fun W hW => by
    have e := HCL.out W hW
    refine ⟨?_, ?_, ?_, ?_⟩
    · rw [cell_of_row _ w.heap.size 0 _ _ (0, 0) e]; rfl
    · rw [cell_of_row _ w.heap.size 1 _ _ (0, 0) e]; rfl
    · rw [cell_of_row _ w.heap.size 2 _ _ (0, 0) e]; rfl
    · rw [cell_of_row _ w.heap.size 3 _ _ (0, 0) e]; rfl
  have HA8 : Hid (IntKind.u8.wrap (act : Int) = (act : Int)) := Lib.hid (by rw [IntKind.wrap_u8]; omega)
  have HT8 : Hid (IntKind.u8.wrap (tr : Int) = (tr : Int)) := Lib.hid (by rw [IntKind.wrap_u8]; omega)
  have HZP : Hid ((#[Value.int .u8 (act : Int), Value.int .u8 (tr : Int)] : Array Value).toList = bv [UInt8.ofNat act, UInt8.ofNat tr]) := Lib.hid (by simp [bv]; omega)
  clear qa qt
  go_upto_region 3 with fail
  go_cut [4] (fun s wx => ∃ A4 c4, s = .slice A4 10 c4 ∧ Hid (World.ownsRow wx wb.heap.size 5 1 (.slice A4 10 c4) 10 (bv ([UInt8.ofNat act, UInt8.ofNat tr] ++ CrcM.four flo ++ CrcM.four gen))) ∧ Hid (Below wb.heap.size wb wx))
  case first =>
    refine wp_region_noPanic ?_
    refine wp_region_held_drew (S := (fun W => Below (wb.heap.size) wb W)) (by kernel_rfl) (Below.refl _ _).drew (fun hH0 => ?_)
    have hH0 : Below (wb.heap.size) wb wb.drew := hH0
    generalize wb.drew = wd3000 at *
    refine wpAnyH_take (i := 0) (oi := { dst := some 12, op := Op.fieldAddr 30 (Operand.tmp 1) 0, type := 0, pos := "ref.go:334", after := #[], guard := none }) (v := ?tkv3001) rfl (by kernel_rfl) (by kernel_rfl) (by kernel_rfl) (fun _ _ _ h => h) (Or.inl ⟨by rfl, ?tky3001⟩) hH0 ?tkr3001
    case tky3001 => (intro w' hSw; clear hSw; go_simp; try with_reducible rfl)
    try simp only [Act.put, List.setIfInBounds_toArray, List.set_cons_zero, List.set_cons_succ]
    refine wpAnyH_take (i := 1) (oi := { dst := some 13, op := Op.load 3 (Operand.tmp 12), type := 3, pos := "ref.go:334", after := #[{ on := 0, ground := Ground.data }], guard := none }) (v := ?tkv3002) rfl (by kernel_rfl) (by kernel_rfl) (by kernel_rfl) (fun _ _ _ h => h) (Or.inl ⟨by rfl, ?tky3002⟩) hH0 ?tkr3002
    case tky3002 => (intro w' hSw; have z0 := HC.out _ hSw; clear hSw; go_simp; try with_reducible rfl)
    try simp only [Act.put, List.setIfInBounds_toArray, List.set_cons_zero, List.set_cons_succ]
    refine wpAnyH_take (i := 2) (oi := { dst := some 14, op := Op.convert 3 5 (Operand.tmp 13), type := 5, pos := "ref.go:334", after := #[{ on := 1, ground := Ground.data }], guard := none }) (v := ?tkv3003) rfl (by kernel_rfl) (by kernel_rfl) (by kernel_rfl) (fun _ _ _ h => h) (Or.inl ⟨by rfl, ?tky3003⟩) hH0 ?tkr3003
    case tky3003 => (intro w' hSw; have z0 := HC.out _ hSw; have q8 := HA8.out; clear hSw; go_simp; try with_reducible rfl)
    try simp only [Act.put, List.setIfInBounds_toArray, List.set_cons_zero, List.set_cons_succ]
    refine wpAnyH_take (i := 3) (oi := { dst := some 15, op := Op.fieldAddr 30 (Operand.tmp 1) 1, type := 0, pos := "ref.go:334", after := #[], guard := none }) (v := ?tkv3004) rfl (by kernel_rfl) (by kernel_rfl) (by kernel_rfl) (fun _ _ _ h => h) (Or.inl ⟨by rfl, ?tky3004⟩) hH0 ?tkr3004
    case tky3004 => (intro w' hSw; clear hSw; go_simp; try with_reducible rfl)
    try simp only [Act.put, List.setIfInBounds_toArray, List.set_cons_zero, List.set_cons_succ]
    refine wpAnyH_take (i := 4) (oi := { dst := some 16, op := Op.load 3 (Operand.tmp 15), type := 3, pos := "ref.go:334", after := #[{ on := 3, ground := Ground.data }], guard := none }) (v := ?tkv3005) rfl (by kernel_rfl) (by kernel_rfl) (by kernel_rfl) (fun _ _ _ h => h) (Or.inl ⟨by rfl, ?tky3005⟩) hH0 ?tkr3005
    case tky3005 => (intro w' hSw; have z0 := HC.out _ hSw; clear hSw; go_simp; try with_reducible rfl)
    try simp only [Act.put, List.setIfInBounds_toArray, List.set_cons_zero, List.set_cons_succ]
    refine wpAnyH_take (i := 5) (oi := { dst := some 17, op := Op.convert 3 5 (Operand.tmp 16), type := 5, pos := "ref.go:334", after := #[{ on := 4, ground := Ground.data }], guard := none }) (v := ?tkv3006) rfl (by kernel_rfl) (by kernel_rfl) (by kernel_rfl) (fun _ _ _ h => h) (Or.inl ⟨by rfl, ?tky3006⟩) hH0 ?tkr3006
    case tky3006 => (intro w' hSw; have z0 := HC.out _ hSw; have q8 := HT8.out; clear hSw; go_simp; try with_reducible rfl)
    try simp only [Act.put, List.setIfInBounds_toArray, List.set_cons_zero, List.set_cons_succ]
    refine wpAnyH_take (i := 7) (oi := { dst := some 19, op := Op.fieldAddr 30 (Operand.tmp 1) 2, type := 0, pos := "ref.go:334", after := #[], guard := none }) (v := ?tkv3007) rfl (by kernel_rfl) (by kernel_rfl) (by kernel_rfl) (fun _ _ _ h => h) (Or.inl ⟨by rfl, ?tky3007⟩) hH0 ?tkr3007
    case tky3007 => (intro w' hSw; clear hSw; go_simp; try with_reducible rfl)
    try simp only [Act.put, List.setIfInBounds_toArray, List.set_cons_zero, List.set_cons_succ]
    refine wpAnyH_take (i := 8) (oi := { dst := some 20, op := Op.load 22 (Operand.tmp 19), type := 22, pos := "ref.go:334", after := #[{ on := 7, ground := Ground.data }], guard := none }) (v := ?tkv3008) rfl (by kernel_rfl) (by kernel_rfl) (by kernel_rfl) (fun _ _ _ h => h) (Or.inl ⟨by rfl, ?tky3008⟩) hH0 ?tkr3008
    case tky3008 => (intro w' hSw; have z0 := HC.out _ hSw; clear hSw; go_simp; try with_reducible rfl)
    try simp only [Act.put, List.setIfInBounds_toArray, List.set_cons_zero, List.set_cons_succ]
    refine wpAnyH_take (i := 10) (oi := { dst := some 22, op := Op.fieldAddr 30 (Operand.tmp 1) 3, type := 0, pos := "ref.go:334", after := #[], guard := none }) (v := ?tkv3009) rfl (by kernel_rfl) (by kernel_rfl) (by kernel_rfl) (fun _ _ _ h => h) (Or.inl ⟨by rfl, ?tky3009⟩) hH0 ?tkr3009
    case tky3009 => (intro w' hSw; clear hSw; go_simp; try with_reducible rfl)
    try simp only [Act.put, List.setIfInBounds_toArray, List.set_cons_zero, List.set_cons_succ]
    refine wpAnyH_take (i := 11) (oi := { dst := some 23, op := Op.load 22 (Operand.tmp 22), type := 22, pos := "ref.go:334", after := #[{ on := 10, ground := Ground.data }], guard := none }) (v := ?tkv3010) rfl (by kernel_rfl) (by kernel_rfl) (by kernel_rfl) (fun _ _ _ h => h) (Or.inl ⟨by rfl, ?tky3010⟩) hH0 ?tkr3010
    case tky3010 => (intro w' hSw; have z0 := HC.out _ hSw; clear hSw; go_simp; try with_reducible rfl)
    try simp only [Act.put, List.setIfInBounds_toArray, List.set_cons_zero, List.set_cons_succ]
    refine wpAnyH_ready (rs := [6, 9]) (by kernel_rfl) (by simp) ?_
    refine AllReadyH.cons (o := { dst := some 18, op := Op.buildSlice 23 2 #[(0, Operand.tmp 14), (1, Operand.tmp 17)], type := 23, pos := "ref.go:334", after := #[{ on := 2, ground := Ground.data }, { on := 5, ground := Ground.data }], guard := none }) rfl (fun K hK => ?_) (AllReadyH.cons (o := { dst := some 21, op := Op.call { callee := Callee.value (Operand.func 25), args := #[Operand.tmp 20], argTypes := #[22] }, type := 23, pos := "ref.go:334", after := #[{ on := 8, ground := Ground.data }], guard := none }) rfl (fun K hK => ?_) AllReadyH.nil)
    · go_simp
      have hb3011 : Below wd3000.heap.size wd3000 (wd3000.alloc (.cells #[.int .u8 (act : Int), .int .u8 (tr : Int)] 5)) := (Below.refl _ _).alloc (Nat.le_refl _) _
      have BX3011 : Hid ((wd3000.alloc (.cells #[.int .u8 (act : Int), .int .u8 (tr : Int)] 5)).heap[wd3000.heap.size]? = some (.cells #[.int .u8 (act : Int), .int .u8 (tr : Int)] 5 (0, 0))) := Lib.hid (heap_alloc_new _ _)
      have LX3011 : Hid (wd3000.heap.size < (wd3000.alloc (.cells #[.int .u8 (act : Int), .int .u8 (tr : Int)] 5)).heap.size) := Lib.hid (by simp)
      generalize (wd3000.alloc (.cells #[.int .u8 (act : Int), .int .u8 (tr : Int)] 5)) = wn3011 at *
      have hS3011 : Below (wb.heap.size) wb wn3011 := (hH0).trans (hb3011.mono (hH0).size)
      refine hK.out _ _ hS3011 (fun hH3011 => ?_)
      have hH3011 : Below (wb.heap.size) wb wn3011 := hH3011
      clear hK K hS3011
      try simp only [Act.put, List.setIfInBounds_toArray, List.set_cons_zero, List.set_cons_succ]
      refine wpAnyH_ready (rs := [9]) (by kernel_rfl) (by simp) ?_
      refine AllReadyH.cons (o := { dst := some 21, op := Op.call { callee := Callee.value (Operand.func 25), args := #[Operand.tmp 20], argTypes := #[22] }, type := 23, pos := "ref.go:334", after := #[{ on := 8, ground := Ground.data }], guard := none }) rfl (fun K hK => ?_) AllReadyH.nil
      go_simp
      refine (four_any flo HW.out.1 wn3011).mono ?_
      rintro e' wn3012 ⟨A3012, n3012, c3012, rfl, hn3012, ho3012, hb3012⟩
      have F3012 := Lib.hid (RowP.of_row (Row.of_own ho3012))
      go_simp
      have BX3011_3012 := Lib.hid ((hb3012.block wd3000.heap.size LX3011.out).trans BX3011.out)
      have LX3011_3012 := Lib.hid (Nat.lt_of_lt_of_le LX3011.out hb3012.size)
      have hS3012 : Below (wb.heap.size) wb wn3012 := (hH3011).trans (hb3012.mono (hH3011).size)
      refine hK.out _ _ hS3012 (fun hH3012 => ?_)
      have hH3012 : Below (wb.heap.size) wb wn3012 := hH3012
      clear hK K hS3012
      try simp only [Act.put, List.setIfInBounds_toArray, List.set_cons_zero, List.set_cons_succ]
      refine wpAnyH_ready (rs := [12]) (by kernel_rfl) (by simp) ?_
      refine AllReadyH.cons (o := { dst := some 24, op := Op.call { callee := Callee.value (Operand.func 25), args := #[Operand.tmp 23], argTypes := #[22] }, type := 23, pos := "ref.go:334", after := #[{ on := 11, ground := Ground.data }, { on := 9, ground := Ground.chain }], guard := none }) rfl (fun K hK => ?_) AllReadyH.nil
      go_simp
      refine (four_any gen HW.out.2.1 wn3012).mono ?_
      rintro e' wn3013 ⟨A3013, n3013, c3013, rfl, hn3013, ho3013, hb3013⟩
      have F3013 := Lib.hid (RowP.of_row (Row.of_own ho3013))
      go_simp
      have BX3011_3013 := Lib.hid ((hb3013.block wd3000.heap.size LX3011_3012.out).trans BX3011_3012.out)
      have LX3011_3013 := Lib.hid (Nat.lt_of_lt_of_le LX3011_3012.out hb3013.size)
      have F3012_3013 := Lib.hid (F3012.out.below hb3013)
      have hS3013 : Below (wb.heap.size) wb wn3013 := (hH3012).trans (hb3013.mono (hH3012).size)
      refine hK.out _ _ hS3013 (fun hH3013 => ?_)
      have hH3013 : Below (wb.heap.size) wb wn3013 := hH3013
      clear hK K hS3013
      try simp only [Act.put, List.setIfInBounds_toArray, List.set_cons_zero, List.set_cons_succ]
      refine wpAnyH_ready (rs := [13]) (by kernel_rfl) (by simp) ?_
      refine AllReadyH.cons (o := { dst := some 25, op := Op.buildSlice 69 3 #[(0, Operand.tmp 18), (1, Operand.tmp 21), (2, Operand.tmp 24)], type := 69, pos := "ref.go:334", after := #[{ on := 6, ground := Ground.data }, { on := 9, ground := Ground.data }, { on := 12, ground := Ground.data }], guard := none }) rfl (fun K hK => ?_) AllReadyH.nil
      go_simp
      have hb3014 : Below wn3013.heap.size wn3013 (wn3013.alloc (.cells #[.slice (some ⟨wd3000.heap.size, 0, none⟩) 2 2, .slice A3012 n3012 c3012, .slice A3013 n3013 c3013] 23)) := (Below.refl _ _).alloc (Nat.le_refl _) _
      have BX3014 : Hid ((wn3013.alloc (.cells #[.slice (some ⟨wd3000.heap.size, 0, none⟩) 2 2, .slice A3012 n3012 c3012, .slice A3013 n3013 c3013] 23)).heap[wn3013.heap.size]? = some (.cells #[.slice (some ⟨wd3000.heap.size, 0, none⟩) 2 2, .slice A3012 n3012 c3012, .slice A3013 n3013 c3013] 23 (0, 0))) := Lib.hid (heap_alloc_new _ _)
      have LX3014 : Hid (wn3013.heap.size < (wn3013.alloc (.cells #[.slice (some ⟨wd3000.heap.size, 0, none⟩) 2 2, .slice A3012 n3012 c3012, .slice A3013 n3013 c3013] 23)).heap.size) := Lib.hid (by simp)
      generalize (wn3013.alloc (.cells #[.slice (some ⟨wd3000.heap.size, 0, none⟩) 2 2, .slice A3012 n3012 c3012, .slice A3013 n3013 c3013] 23)) = wn3014 at *
      have BX3011_3014 := Lib.hid ((hb3014.block wd3000.heap.size LX3011_3013.out).trans BX3011_3013.out)
      have LX3011_3014 := Lib.hid (Nat.lt_of_lt_of_le LX3011_3013.out hb3014.size)
      have F3012_3014 := Lib.hid (F3012_3013.out.below hb3014)
      have F3013_3014 := Lib.hid (F3013.out.below hb3014)
      have hS3014 : Below (wb.heap.size) wb wn3014 := (hH3013).trans (hb3014.mono (hH3013).size)
      refine hK.out _ _ hS3014 (fun hH3014 => ?_)
      have hH3014 : Below (wb.heap.size) wb wn3014 := hH3014
      clear hK K hS3014
      try simp only [Act.put, List.setIfInBounds_toArray, List.set_cons_zero, List.set_cons_succ]
      refine wpAnyH_ready (rs := [14]) (by kernel_rfl) (by simp) ?_
      refine AllReadyH.cons (o := { dst := some 26, op := Op.call { callee := Callee.value (Operand.func 24), args := #[Operand.tmp 25], argTypes := #[69] }, type := 23, pos := "ref.go:334", after := #[{ on := 13, ground := Ground.data }, { on := 12, ground := Ground.chain }], guard := none }) rfl (fun K hK => ?_) AllReadyH.nil
      go_simp
      have zr3015 : RowP wn3014 (fun _ => True) (some ⟨wd3000.heap.size, 0, none⟩) 2 (bv [UInt8.ofNat act, UInt8.ofNat tr]) := by
        rw [← HZP.out]; exact RowP.of_row (row_box BX3011_3014.out)
      refine (join_box [⟨some ⟨wd3000.heap.size, 0, none⟩, 2, 2, [UInt8.ofNat act, UInt8.ofNat tr]⟩, ⟨A3012, n3012, c3012, CrcM.four flo⟩, ⟨A3013, n3013, c3013, CrcM.four gen⟩] 3 rfl rfl BX3014.out (by
        intro r hr
        simp only [List.mem_cons, List.not_mem_nil, or_false] at hr
        rcases hr with rfl | rfl | rfl
        · exact zr3015
        · exact F3012_3014.out
        · exact F3013_3014.out) (by simp) (by simp [flat, CrcM.four]) (l := ([UInt8.ofNat act, UInt8.ofNat tr] ++ CrcM.four flo ++ CrcM.four gen)) (by simp [flat])).mono ?_
      rintro e' wn3015 ⟨A3015, n3015, c3015, rfl, hn3015, ho3015, hb3015⟩
      have hbase3015 : wb.heap.size ≤ wn3014.heap.size := (hH3014).size
      go_simp
      have BX3011_3015 := Lib.hid ((hb3015.block wd3000.heap.size LX3011_3014.out).trans BX3011_3014.out)
      have LX3011_3015 := Lib.hid (Nat.lt_of_lt_of_le LX3011_3014.out hb3015.size)
      have F3012_3015 := Lib.hid (F3012_3014.out.below hb3015)
      have F3013_3015 := Lib.hid (F3013_3014.out.below hb3015)
      have BX3014_3015 := Lib.hid ((hb3015.block wn3013.heap.size LX3014.out).trans BX3014.out)
      have LX3014_3015 := Lib.hid (Nat.lt_of_lt_of_le LX3014.out hb3015.size)
      have hS3015 : Below (wb.heap.size) wb wn3015 := (hH3014).trans (hb3015.mono (hH3014).size)
      refine hK.out _ _ hS3015 (fun hH3015 => ?_)
      have hH3015 : Below (wb.heap.size) wb wn3015 := hH3015
      clear hK K hS3015
      try simp only [Act.put, List.setIfInBounds_toArray, List.set_cons_zero, List.set_cons_succ]
      refine wpAnyH_take (i := 15) (oi := { dst := some 4, op := Op.assign (Operand.tmp 26), type := 23, pos := "ref.go:334", after := #[{ on := 14, ground := Ground.data }, { on := 14, ground := Ground.chain }, { on := 0, ground := Ground.phase }, { on := 1, ground := Ground.phase }, { on := 2, ground := Ground.phase }, { on := 3, ground := Ground.phase }, { on := 4, ground := Ground.phase }, { on := 5, ground := Ground.phase }, { on := 6, ground := Ground.phase }, { on := 7, ground := Ground.phase }, { on := 8, ground := Ground.phase }, { on := 9, ground := Ground.phase }, { on := 10, ground := Ground.phase }, { on := 11, ground := Ground.phase }, { on := 12, ground := Ground.phase }, { on := 13, ground := Ground.phase }, { on := 14, ground := Ground.phase }], guard := none }) (v := ?tkv3016) rfl (by kernel_rfl) (by kernel_rfl) (by kernel_rfl) (fun _ _ _ h => h) (Or.inl ⟨by rfl, ?tky3016⟩) hH3015 ?tkr3016
      case tky3016 => (intro w' hSw; clear hSw; go_simp; try with_reducible rfl)
      try simp only [Act.put, List.setIfInBounds_toArray, List.set_cons_zero, List.set_cons_succ]
      refine wpAnyH_done (by kernel_rfl) ?_ _
      refine NoPanic.normal ?_
      have hend := Lib.hid (hH3015)
      have hown := own_base ho3015 (show wb.heap.size ≤ _ from hbase3015)
      obtain rfl : n3015 = 10 := by rw [hn3015]; rfl
      have HOW := Lib.hid hown
      clear hown
      go_wp2_with fail
      go_meet
      exact ⟨_, _, rfl, HOW, hend⟩
    · go_simp
      refine (four_any flo HW.out.1 wd3000).mono ?_
      rintro e' wn3017 ⟨A3017, n3017, c3017, rfl, hn3017, ho3017, hb3017⟩
      have F3017 := Lib.hid (RowP.of_row (Row.of_own ho3017))
      go_simp
      have hS3017 : Below (wb.heap.size) wb wn3017 := (hH0).trans (hb3017.mono (hH0).size)
      refine hK.out _ _ hS3017 (fun hH3017 => ?_)
      have hH3017 : Below (wb.heap.size) wb wn3017 := hH3017
      clear hK K hS3017
      try simp only [Act.put, List.setIfInBounds_toArray, List.set_cons_zero, List.set_cons_succ]
      refine wpAnyH_ready (rs := [6, 12]) (by kernel_rfl) (by simp) ?_
      refine AllReadyH.cons (o := { dst := some 18, op := Op.buildSlice 23 2 #[(0, Operand.tmp 14), (1, Operand.tmp 17)], type := 23, pos := "ref.go:334", after := #[{ on := 2, ground := Ground.data }, { on := 5, ground := Ground.data }], guard := none }) rfl (fun K hK => ?_) (AllReadyH.cons (o := { dst := some 24, op := Op.call { callee := Callee.value (Operand.func 25), args := #[Operand.tmp 23], argTypes := #[22] }, type := 23, pos := "ref.go:334", after := #[{ on := 11, ground := Ground.data }, { on := 9, ground := Ground.chain }], guard := none }) rfl (fun K hK => ?_) AllReadyH.nil)
      · go_simp
        have hb3018 : Below wn3017.heap.size wn3017 (wn3017.alloc (.cells #[.int .u8 (act : Int), .int .u8 (tr : Int)] 5)) := (Below.refl _ _).alloc (Nat.le_refl _) _
        have BX3018 : Hid ((wn3017.alloc (.cells #[.int .u8 (act : Int), .int .u8 (tr : Int)] 5)).heap[wn3017.heap.size]? = some (.cells #[.int .u8 (act : Int), .int .u8 (tr : Int)] 5 (0, 0))) := Lib.hid (heap_alloc_new _ _)
        have LX3018 : Hid (wn3017.heap.size < (wn3017.alloc (.cells #[.int .u8 (act : Int), .int .u8 (tr : Int)] 5)).heap.size) := Lib.hid (by simp)
        generalize (wn3017.alloc (.cells #[.int .u8 (act : Int), .int .u8 (tr : Int)] 5)) = wn3018 at *
        have F3017_3018 := Lib.hid (F3017.out.below hb3018)
        have hS3018 : Below (wb.heap.size) wb wn3018 := (hH3017).trans (hb3018.mono (hH3017).size)
        refine hK.out _ _ hS3018 (fun hH3018 => ?_)
        have hH3018 : Below (wb.heap.size) wb wn3018 := hH3018
        clear hK K hS3018
        try simp only [Act.put, List.setIfInBounds_toArray, List.set_cons_zero, List.set_cons_succ]
        refine wpAnyH_ready (rs := [12]) (by kernel_rfl) (by simp) ?_
        refine AllReadyH.cons (o := { dst := some 24, op := Op.call { callee := Callee.value (Operand.func 25), args := #[Operand.tmp 23], argTypes := #[22] }, type := 23, pos := "ref.go:334", after := #[{ on := 11, ground := Ground.data }, { on := 9, ground := Ground.chain }], guard := none }) rfl (fun K hK => ?_) AllReadyH.nil
        go_simp
        refine (four_any gen HW.out.2.1 wn3018).mono ?_
        rintro e' wn3019 ⟨A3019, n3019, c3019, rfl, hn3019, ho3019, hb3019⟩
        have F3019 := Lib.hid (RowP.of_row (Row.of_own ho3019))
        go_simp
        have F3017_3019 := Lib.hid (F3017_3018.out.below hb3019)
        have BX3018_3019 := Lib.hid ((hb3019.block wn3017.heap.size LX3018.out).trans BX3018.out)
        have LX3018_3019 := Lib.hid (Nat.lt_of_lt_of_le LX3018.out hb3019.size)
        have hS3019 : Below (wb.heap.size) wb wn3019 := (hH3018).trans (hb3019.mono (hH3018).size)
        refine hK.out _ _ hS3019 (fun hH3019 => ?_)
        have hH3019 : Below (wb.heap.size) wb wn3019 := hH3019
        clear hK K hS3019
        try simp only [Act.put, List.setIfInBounds_toArray, List.set_cons_zero, List.set_cons_succ]
        refine wpAnyH_ready (rs := [13]) (by kernel_rfl) (by simp) ?_
        refine AllReadyH.cons (o := { dst := some 25, op := Op.buildSlice 69 3 #[(0, Operand.tmp 18), (1, Operand.tmp 21), (2, Operand.tmp 24)], type := 69, pos := "ref.go:334", after := #[{ on := 6, ground := Ground.data }, { on := 9, ground := Ground.data }, { on := 12, ground := Ground.data }], guard := none }) rfl (fun K hK => ?_) AllReadyH.nil
        go_simp
        have hb3020 : Below wn3019.heap.size wn3019 (wn3019.alloc (.cells #[.slice (some ⟨wn3017.heap.size, 0, none⟩) 2 2, .slice A3017 n3017 c3017, .slice A3019 n3019 c3019] 23)) := (Below.refl _ _).alloc (Nat.le_refl _) _
        have BX3020 : Hid ((wn3019.alloc (.cells #[.slice (some ⟨wn3017.heap.size, 0, none⟩) 2 2, .slice A3017 n3017 c3017, .slice A3019 n3019 c3019] 23)).heap[wn3019.heap.size]? = some (.cells #[.slice (some ⟨wn3017.heap.size, 0, none⟩) 2 2, .slice A3017 n3017 c3017, .slice A3019 n3019 c3019] 23 (0, 0))) := Lib.hid (heap_alloc_new _ _)
        have LX3020 : Hid (wn3019.heap.size < (wn3019.alloc (.cells #[.slice (some ⟨wn3017.heap.size, 0, none⟩) 2 2, .slice A3017 n3017 c3017, .slice A3019 n3019 c3019] 23)).heap.size) := Lib.hid (by simp)
        generalize (wn3019.alloc (.cells #[.slice (some ⟨wn3017.heap.size, 0, none⟩) 2 2, .slice A3017 n3017 c3017, .slice A3019 n3019 c3019] 23)) = wn3020 at *
        have F3017_3020 := Lib.hid (F3017_3019.out.below hb3020)
        have BX3018_3020 := Lib.hid ((hb3020.block wn3017.heap.size LX3018_3019.out).trans BX3018_3019.out)
        have LX3018_3020 := Lib.hid (Nat.lt_of_lt_of_le LX3018_3019.out hb3020.size)
        have F3019_3020 := Lib.hid (F3019.out.below hb3020)
        have hS3020 : Below (wb.heap.size) wb wn3020 := (hH3019).trans (hb3020.mono (hH3019).size)
        refine hK.out _ _ hS3020 (fun hH3020 => ?_)
        have hH3020 : Below (wb.heap.size) wb wn3020 := hH3020
        clear hK K hS3020
        try simp only [Act.put, List.setIfInBounds_toArray, List.set_cons_zero, List.set_cons_succ]
        refine wpAnyH_ready (rs := [14]) (by kernel_rfl) (by simp) ?_
        refine AllReadyH.cons (o := { dst := some 26, op := Op.call { callee := Callee.value (Operand.func 24), args := #[Operand.tmp 25], argTypes := #[69] }, type := 23, pos := "ref.go:334", after := #[{ on := 13, ground := Ground.data }, { on := 12, ground := Ground.chain }], guard := none }) rfl (fun K hK => ?_) AllReadyH.nil
        go_simp
        have zr3021 : RowP wn3020 (fun _ => True) (some ⟨wn3017.heap.size, 0, none⟩) 2 (bv [UInt8.ofNat act, UInt8.ofNat tr]) := by
          rw [← HZP.out]; exact RowP.of_row (row_box BX3018_3020.out)
        refine (join_box [⟨some ⟨wn3017.heap.size, 0, none⟩, 2, 2, [UInt8.ofNat act, UInt8.ofNat tr]⟩, ⟨A3017, n3017, c3017, CrcM.four flo⟩, ⟨A3019, n3019, c3019, CrcM.four gen⟩] 3 rfl rfl BX3020.out (by
          intro r hr
          simp only [List.mem_cons, List.not_mem_nil, or_false] at hr
          rcases hr with rfl | rfl | rfl
          · exact zr3021
          · exact F3017_3020.out
          · exact F3019_3020.out) (by simp) (by simp [flat, CrcM.four]) (l := ([UInt8.ofNat act, UInt8.ofNat tr] ++ CrcM.four flo ++ CrcM.four gen)) (by simp [flat])).mono ?_
        rintro e' wn3021 ⟨A3021, n3021, c3021, rfl, hn3021, ho3021, hb3021⟩
        have hbase3021 : wb.heap.size ≤ wn3020.heap.size := (hH3020).size
        go_simp
        have F3017_3021 := Lib.hid (F3017_3020.out.below hb3021)
        have BX3018_3021 := Lib.hid ((hb3021.block wn3017.heap.size LX3018_3020.out).trans BX3018_3020.out)
        have LX3018_3021 := Lib.hid (Nat.lt_of_lt_of_le LX3018_3020.out hb3021.size)
        have F3019_3021 := Lib.hid (F3019_3020.out.below hb3021)
        have BX3020_3021 := Lib.hid ((hb3021.block wn3019.heap.size LX3020.out).trans BX3020.out)
        have LX3020_3021 := Lib.hid (Nat.lt_of_lt_of_le LX3020.out hb3021.size)
        have hS3021 : Below (wb.heap.size) wb wn3021 := (hH3020).trans (hb3021.mono (hH3020).size)
        refine hK.out _ _ hS3021 (fun hH3021 => ?_)
        have hH3021 : Below (wb.heap.size) wb wn3021 := hH3021
        clear hK K hS3021
        try simp only [Act.put, List.setIfInBounds_toArray, List.set_cons_zero, List.set_cons_succ]
        refine wpAnyH_take (i := 15) (oi := { dst := some 4, op := Op.assign (Operand.tmp 26), type := 23, pos := "ref.go:334", after := #[{ on := 14, ground := Ground.data }, { on := 14, ground := Ground.chain }, { on := 0, ground := Ground.phase }, { on := 1, ground := Ground.phase }, { on := 2, ground := Ground.phase }, { on := 3, ground := Ground.phase }, { on := 4, ground := Ground.phase }, { on := 5, ground := Ground.phase }, { on := 6, ground := Ground.phase }, { on := 7, ground := Ground.phase }, { on := 8, ground := Ground.phase }, { on := 9, ground := Ground.phase }, { on := 10, ground := Ground.phase }, { on := 11, ground := Ground.phase }, { on := 12, ground := Ground.phase }, { on := 13, ground := Ground.phase }, { on := 14, ground := Ground.phase }], guard := none }) (v := ?tkv3022) rfl (by kernel_rfl) (by kernel_rfl) (by kernel_rfl) (fun _ _ _ h => h) (Or.inl ⟨by rfl, ?tky3022⟩) hH3021 ?tkr3022
        case tky3022 => (intro w' hSw; clear hSw; go_simp; try with_reducible rfl)
        try simp only [Act.put, List.setIfInBounds_toArray, List.set_cons_zero, List.set_cons_succ]
        refine wpAnyH_done (by kernel_rfl) ?_ _
        refine NoPanic.normal ?_
        have hend := Lib.hid (hH3021)
        have hown := own_base ho3021 (show wb.heap.size ≤ _ from hbase3021)
        obtain rfl : n3021 = 10 := by rw [hn3021]; rfl
        have HOW := Lib.hid hown
        clear hown
        go_wp2_with fail
        go_meet
        exact ⟨_, _, rfl, HOW, hend⟩
      · go_simp
        refine (four_any gen HW.out.2.1 wn3017).mono ?_
        rintro e' wn3023 ⟨A3023, n3023, c3023, rfl, hn3023, ho3023, hb3023⟩
        have F3023 := Lib.hid (RowP.of_row (Row.of_own ho3023))
        go_simp
        have F3017_3023 := Lib.hid (F3017.out.below hb3023)
        have hS3023 : Below (wb.heap.size) wb wn3023 := (hH3017).trans (hb3023.mono (hH3017).size)
        refine hK.out _ _ hS3023 (fun hH3023 => ?_)
        have hH3023 : Below (wb.heap.size) wb wn3023 := hH3023
        clear hK K hS3023
        try simp only [Act.put, List.setIfInBounds_toArray, List.set_cons_zero, List.set_cons_succ]
        refine wpAnyH_ready (rs := [6]) (by kernel_rfl) (by simp) ?_
        refine AllReadyH.cons (o := { dst := some 18, op := Op.buildSlice 23 2 #[(0, Operand.tmp 14), (1, Operand.tmp 17)], type := 23, pos := "ref.go:334", after := #[{ on := 2, ground := Ground.data }, { on := 5, ground := Ground.data }], guard := none }) rfl (fun K hK => ?_) AllReadyH.nil
        go_simp
        have hb3024 : Below wn3023.heap.size wn3023 (wn3023.alloc (.cells #[.int .u8 (act : Int), .int .u8 (tr : Int)] 5)) := (Below.refl _ _).alloc (Nat.le_refl _) _
        have BX3024 : Hid ((wn3023.alloc (.cells #[.int .u8 (act : Int), .int .u8 (tr : Int)] 5)).heap[wn3023.heap.size]? = some (.cells #[.int .u8 (act : Int), .int .u8 (tr : Int)] 5 (0, 0))) := Lib.hid (heap_alloc_new _ _)
        have LX3024 : Hid (wn3023.heap.size < (wn3023.alloc (.cells #[.int .u8 (act : Int), .int .u8 (tr : Int)] 5)).heap.size) := Lib.hid (by simp)
        generalize (wn3023.alloc (.cells #[.int .u8 (act : Int), .int .u8 (tr : Int)] 5)) = wn3024 at *
        have F3017_3024 := Lib.hid (F3017_3023.out.below hb3024)
        have F3023_3024 := Lib.hid (F3023.out.below hb3024)
        have hS3024 : Below (wb.heap.size) wb wn3024 := (hH3023).trans (hb3024.mono (hH3023).size)
        refine hK.out _ _ hS3024 (fun hH3024 => ?_)
        have hH3024 : Below (wb.heap.size) wb wn3024 := hH3024
        clear hK K hS3024
        try simp only [Act.put, List.setIfInBounds_toArray, List.set_cons_zero, List.set_cons_succ]
        refine wpAnyH_ready (rs := [13]) (by kernel_rfl) (by simp) ?_
        refine AllReadyH.cons (o := { dst := some 25, op := Op.buildSlice 69 3 #[(0, Operand.tmp 18), (1, Operand.tmp 21), (2, Operand.tmp 24)], type := 69, pos := "ref.go:334", after := #[{ on := 6, ground := Ground.data }, { on := 9, ground := Ground.data }, { on := 12, ground := Ground.data }], guard := none }) rfl (fun K hK => ?_) AllReadyH.nil
        go_simp
        have hb3025 : Below wn3024.heap.size wn3024 (wn3024.alloc (.cells #[.slice (some ⟨wn3023.heap.size, 0, none⟩) 2 2, .slice A3017 n3017 c3017, .slice A3023 n3023 c3023] 23)) := (Below.refl _ _).alloc (Nat.le_refl _) _
        have BX3025 : Hid ((wn3024.alloc (.cells #[.slice (some ⟨wn3023.heap.size, 0, none⟩) 2 2, .slice A3017 n3017 c3017, .slice A3023 n3023 c3023] 23)).heap[wn3024.heap.size]? = some (.cells #[.slice (some ⟨wn3023.heap.size, 0, none⟩) 2 2, .slice A3017 n3017 c3017, .slice A3023 n3023 c3023] 23 (0, 0))) := Lib.hid (heap_alloc_new _ _)
        have LX3025 : Hid (wn3024.heap.size < (wn3024.alloc (.cells #[.slice (some ⟨wn3023.heap.size, 0, none⟩) 2 2, .slice A3017 n3017 c3017, .slice A3023 n3023 c3023] 23)).heap.size) := Lib.hid (by simp)
        generalize (wn3024.alloc (.cells #[.slice (some ⟨wn3023.heap.size, 0, none⟩) 2 2, .slice A3017 n3017 c3017, .slice A3023 n3023 c3023] 23)) = wn3025 at *
        have F3017_3025 := Lib.hid (F3017_3024.out.below hb3025)
        have F3023_3025 := Lib.hid (F3023_3024.out.below hb3025)
        have BX3024_3025 := Lib.hid ((hb3025.block wn3023.heap.size LX3024.out).trans BX3024.out)
        have LX3024_3025 := Lib.hid (Nat.lt_of_lt_of_le LX3024.out hb3025.size)
        have hS3025 : Below (wb.heap.size) wb wn3025 := (hH3024).trans (hb3025.mono (hH3024).size)
        refine hK.out _ _ hS3025 (fun hH3025 => ?_)
        have hH3025 : Below (wb.heap.size) wb wn3025 := hH3025
        clear hK K hS3025
        try simp only [Act.put, List.setIfInBounds_toArray, List.set_cons_zero, List.set_cons_succ]
        refine wpAnyH_ready (rs := [14]) (by kernel_rfl) (by simp) ?_
        refine AllReadyH.cons (o := { dst := some 26, op := Op.call { callee := Callee.value (Operand.func 24), args := #[Operand.tmp 25], argTypes := #[69] }, type := 23, pos := "ref.go:334", after := #[{ on := 13, ground := Ground.data }, { on := 12, ground := Ground.chain }], guard := none }) rfl (fun K hK => ?_) AllReadyH.nil
        go_simp
        have zr3026 : RowP wn3025 (fun _ => True) (some ⟨wn3023.heap.size, 0, none⟩) 2 (bv [UInt8.ofNat act, UInt8.ofNat tr]) := by
          rw [← HZP.out]; exact RowP.of_row (row_box BX3024_3025.out)
        refine (join_box [⟨some ⟨wn3023.heap.size, 0, none⟩, 2, 2, [UInt8.ofNat act, UInt8.ofNat tr]⟩, ⟨A3017, n3017, c3017, CrcM.four flo⟩, ⟨A3023, n3023, c3023, CrcM.four gen⟩] 3 rfl rfl BX3025.out (by
          intro r hr
          simp only [List.mem_cons, List.not_mem_nil, or_false] at hr
          rcases hr with rfl | rfl | rfl
          · exact zr3026
          · exact F3017_3025.out
          · exact F3023_3025.out) (by simp) (by simp [flat, CrcM.four]) (l := ([UInt8.ofNat act, UInt8.ofNat tr] ++ CrcM.four flo ++ CrcM.four gen)) (by simp [flat])).mono ?_
        rintro e' wn3026 ⟨A3026, n3026, c3026, rfl, hn3026, ho3026, hb3026⟩
        have hbase3026 : wb.heap.size ≤ wn3025.heap.size := (hH3025).size
        go_simp
        have F3017_3026 := Lib.hid (F3017_3025.out.below hb3026)
        have F3023_3026 := Lib.hid (F3023_3025.out.below hb3026)
        have BX3024_3026 := Lib.hid ((hb3026.block wn3023.heap.size LX3024_3025.out).trans BX3024_3025.out)
        have LX3024_3026 := Lib.hid (Nat.lt_of_lt_of_le LX3024_3025.out hb3026.size)
        have BX3025_3026 := Lib.hid ((hb3026.block wn3024.heap.size LX3025.out).trans BX3025.out)
        have LX3025_3026 := Lib.hid (Nat.lt_of_lt_of_le LX3025.out hb3026.size)
        have hS3026 : Below (wb.heap.size) wb wn3026 := (hH3025).trans (hb3026.mono (hH3025).size)
        refine hK.out _ _ hS3026 (fun hH3026 => ?_)
        have hH3026 : Below (wb.heap.size) wb wn3026 := hH3026
        clear hK K hS3026
        try simp only [Act.put, List.setIfInBounds_toArray, List.set_cons_zero, List.set_cons_succ]
        refine wpAnyH_take (i := 15) (oi := { dst := some 4, op := Op.assign (Operand.tmp 26), type := 23, pos := "ref.go:334", after := #[{ on := 14, ground := Ground.data }, { on := 14, ground := Ground.chain }, { on := 0, ground := Ground.phase }, { on := 1, ground := Ground.phase }, { on := 2, ground := Ground.phase }, { on := 3, ground := Ground.phase }, { on := 4, ground := Ground.phase }, { on := 5, ground := Ground.phase }, { on := 6, ground := Ground.phase }, { on := 7, ground := Ground.phase }, { on := 8, ground := Ground.phase }, { on := 9, ground := Ground.phase }, { on := 10, ground := Ground.phase }, { on := 11, ground := Ground.phase }, { on := 12, ground := Ground.phase }, { on := 13, ground := Ground.phase }, { on := 14, ground := Ground.phase }], guard := none }) (v := ?tkv3027) rfl (by kernel_rfl) (by kernel_rfl) (by kernel_rfl) (fun _ _ _ h => h) (Or.inl ⟨by rfl, ?tky3027⟩) hH3026 ?tkr3027
        case tky3027 => (intro w' hSw; clear hSw; go_simp; try with_reducible rfl)
        try simp only [Act.put, List.setIfInBounds_toArray, List.set_cons_zero, List.set_cons_succ]
        refine wpAnyH_done (by kernel_rfl) ?_ _
        refine NoPanic.normal ?_
        have hend := Lib.hid (hH3026)
        have hown := own_base ho3026 (show wb.heap.size ≤ _ from hbase3026)
        obtain rfl : n3026 = 10 := by rw [hn3026]; rfl
        have HOW := Lib.hid hown
        clear hown
        go_wp2_with fail
        go_meet
        exact ⟨_, _, rfl, HOW, hend⟩
  case rest =>
  obtain ⟨A4, c4, rfl, O4, B4⟩ := hcut
  clear HC HA8 HT8 HZP
  have HRG : Hid (World.rangeAt wc w.heap.size 4 (#[.int .u32 (v0 : Int), .int .i64 l0, .slice A0 h0.length c0, .int .u32 (v1 : Int), .int .i64 l1, .slice A1 h1.length c1] : Array Value).toList) := Lib.hid fun j v hv => by
    rw [cell_of_row _ w.heap.size (4 + j) _ _ (0, 0) (HCL.out _ B4.out)]
    match j, hv with
    | 0, hv => exact hv
    | 1, hv => exact hv
    | 2, hv => exact hv
    | 3, hv => exact hv
    | 4, hv => exact hv
    | 5, hv => exact hv
    | j + 6, hv => simp at hv
  obtain ⟨lk, hlk⟩ : ∃ lk : Nat → List UInt8, lk = fun k => match k with | 0 => ([UInt8.ofNat act, UInt8.ofNat tr] ++ CrcM.four flo ++ CrcM.four gen) | 1 => ([UInt8.ofNat act, UInt8.ofNat tr] ++ CrcM.four flo ++ CrcM.four gen) ++ ((⟨v0, l0, h0⟩ : LSlot)).bytes | _ => ([UInt8.ofNat act, UInt8.ofNat tr] ++ CrcM.four flo ++ CrcM.four gen) ++ ((⟨v0, l0, h0⟩ : LSlot)).bytes ++ ((⟨v1, l1, h1⟩ : LSlot)).bytes := ⟨_, rfl⟩
  have LKP : Hid (lk 0 = ([UInt8.ofNat act, UInt8.ofNat tr] ++ CrcM.four flo ++ CrcM.four gen)) := Lib.hid (by subst hlk; rfl)
  have LK0 : Hid (lk 1 = lk 0 ++ ((⟨v0, l0, h0⟩ : LSlot)).bytes) := Lib.hid (by subst hlk; rfl)
  have LK1 : Hid (lk 2 = lk 1 ++ ((⟨v1, l1, h1⟩ : LSlot)).bytes) := Lib.hid (by subst hlk; rfl)
  have OK0 : Hid (((⟨v0, l0, h0⟩ : LSlot)).ok) := Lib.hid HOK.out.2.2.2.2.2.2.1
  have OK1 : Hid (((⟨v1, l1, h1⟩ : LSlot)).ok) := Lib.hid HOK.out.2.2.2.2.2.2.2.1
  have O5 : Hid (World.ownsRow wc wb.heap.size 5 1 (.slice A4 10 c4) 10 (bv (lk 0))) := Lib.hid (by rw [LKP.out]; exact O4.out)
  have L5 : Hid ((lk 0).length = 10) := Lib.hid (by rw [LKP.out]; rfl)
  have lkn : Hid (∀ k, k ≤ 2 → (lk k).length ≤ 1000) := Lib.hid (by
    have b0 := slot_bytes_le OK0.out
    have b1 := slot_bytes_le OK1.out
    intro k hk
    rcases (by omega : k = 0 ∨ k = 1 ∨ k = 2) with rfl | rfl | rfl
    · rw [L5.out]; omega
    · rw [LK0.out, List.length_append, L5.out]; omega
    · rw [LK1.out, LK0.out, List.length_append, List.length_append, L5.out]; omega)
  clear hlk O4
  go_wp2_with ((with_reducible show wpList _ _ _ _ _ _); refine wpList_load_mid rfl _ (.tmp 27) rfl w.heap.size 4 rfl _ _ HRG.out Try.underlying26 rfl (by kernel_rfl) ?_)
  clear HRG
  have HSL : Hid (∀ k : Nat, k < 2 → ∃ va la ha Aa ca, ((⟨va, la, ha⟩ : LSlot)).ok ∧ Row wb wb.heap.size Aa ha.length (bv ha) ∧ lk (k + 1) = lk k ++ ((⟨va, la, ha⟩ : LSlot)).bytes ∧
      ∀ W, (Instr.index 26 (.agg #[.int .u32 (v0 : Int), .int .i64 l0, .slice A0 h0.length c0, .int .u32 (v1 : Int), .int .i64 l1, .slice A1 h1.length c1]) (.int .i64 (k : Int))).run Try.prog W = .ok (.agg #[.int .u32 (va : Int), .int .i64 la, .slice Aa ha.length ca]) W) := Lib.hid (by
    intro k hk
    match k, hk with
    | 0, _ => exact ⟨v0, l0, h0, A0, c0, OK0.out, R0.out, LK0.out, fun W => run_index2 W _ 0 0 rfl (by omega)⟩
    | 1, _ => exact ⟨v1, l1, h1, A1, c1, OK1.out, R1.out, LK1.out, fun W => run_index2 W _ 1 1 rfl (by omega)⟩)
  go_loopw [29, 4] (fun x s wr => ∃ (k n4 : Nat) (A4 : Option Addr) (c4 : Nat), k ≤ 2 ∧ x = .int .i64 k ∧ s = .slice A4 n4 c4 ∧ Hid (World.ownsRow wr wb.heap.size 5 1 (.slice A4 n4 c4) n4 (bv (lk k))) ∧ Hid ((lk k).length = n4) ∧ Hid (Below wb.heap.size wb wr)) (fun x _ _ => 2 - (intOf x).toNat)
  case atStart => exact ⟨0, _, _, _, by omega, rfl, rfl, O5, L5, B4⟩
  case round =>
    clear O5 L5 B4
    obtain ⟨k, n4, A4, c4, hk, rfl, rfl, HO, HLN, HB⟩ := hrel
    have HN : Hid (n4 ≤ 1000) := Lib.hid (by rw [← HLN.out]; exact lkn.out k hk)
    by_cases hlt : k < 2
    · obtain ⟨va, la, ha, Aa, ca, hok, hrg, hlk, ix⟩ := HSL.out k hlt
      have OKG := Lib.hid hok
      have RG := Lib.hid hrg
      have LKG := Lib.hid hlk
      clear hok hrg hlk
      have ba : Below wr.heap.size wr (wr.alloc (.cells #[.int .u32 (va : Int), .int .i64 la, .slice Aa ha.length ca] 25)) := (Below.refl _ _).alloc (Nat.le_refl _) _
      have O0 := Lib.hid (own_below HO.out ba)
      have B0 := Lib.hid (HB.out.trans (ba.mono HB.out.size))
      have BX := Lib.hid (heap_alloc_new wr (.cells #[.int .u32 (va : Int), .int .i64 la, .slice Aa ha.length ca] 25))
      have RR := Lib.hid (RG.out.below B0.out)
      have LW6 : Hid (wr.heap.size < (wr.alloc (.cells #[.int .u32 (va : Int), .int .i64 la, .slice Aa ha.length ca] 25)).heap.size) := Lib.hid (by simp)
      clear ba
      go_upto_region 7 with ((with_reducible show wpList _ _ _ _ _ _); refine wpList_store_new rfl rfl _ (.tmp 6) (.tmp 31) rfl _ _ #[.int .u32 (va : Int), .int .i64 la, .slice Aa ha.length ca] _ rfl rfl (by kernel_rfl) (by rfl) (by simp [Value.oneCell']) ?_)
      generalize (wr.alloc (.cells #[.int .u32 (va : Int), .int .i64 la, .slice Aa ha.length ca] 25)) = w6 at *
      generalize wr.heap.size = g6 at *
      clear ix
      have HLT := Lib.hid hlt
      rcases OKG.out with hz | hf
      · have hb : ((⟨va, la, ha⟩ : LSlot)).bytes = [0] := by rw [hz]; rfl
        have hh : ha.length = 0 := by have : ha = [] := congrArg LSlot.h hz; rw [this]; rfl
        have k2 : w6.cell? ⟨g6, 2, none⟩ = some (.slice Aa 0 ca) := by rw [cell_of_row _ g6 2 _ _ (0, 0) BX.out, ← hh]; rfl
        have HB0 := Lib.hid hb
        have hn : n4 ≤ 1000 := HN.out
        clear hz hh hb
        go_wp2_with (at_builtin; go_loud (refine wpList_app rfl (.tmp 36) (.tmp 37) 23 rfl wb.heap.size 5 i0 (.int .u8 0) 1 Try.underlying23 hi hz0 hz1 hz2 rfl _ n4 (bv (lk k)) rfl (O0.out.alloc _) _ _ 1 1 _ rfl (row_new w6 _ _ _) (by intro u hu; simp at hu; subst hu; rfl) (by unfold maxLen; omega) (by omega) (by have := B0.out.size; simp; omega) ?_; intro v6 w7 hown6 hg6 hat6))
        obtain ⟨A6, c6, rfl, _⟩ := own_slice hown6
        have HW6 := Lib.hid (below_app (B0.out.alloc B0.out.size _) (by have := B0.out.size; simp; omega) (O0.out.alloc _) (Nat.le_refl _) hg6)
        have HL7 : Hid ((lk (k + 1)).length = n4 + 1) := Lib.hid (by rw [LKG.out, HB0.out, List.length_append, HLN.out]; rfl)
        have HO7 : Hid (World.ownsRow w7 wb.heap.size 5 1 (.slice A6 (n4 + 1) c6) (n4 + 1) (bv (lk (k + 1)))) := Lib.hid (by rw [LKG.out, HB0.out, bv_append]; exact hown6)
        clear hown6 hg6 hat6 k2 hn
        go_roundw
        case rel => exact ⟨k + 1, _, _, _, by omega, by go_num, rfl, HO7, HL7, HW6⟩
        case measure => simp [intOf]; omega
      · obtain ⟨hv, hl0, hl1, hh⟩ := hf
        simp only at hv hl0 hl1 hh
        have hno : ((⟨va, la, ha⟩ : LSlot)).none = false := LSlot.full_not ⟨hv, hl0, hl1, hh⟩
        obtain ⟨LL, hLL⟩ : ∃ LL : Nat, la = LL := ⟨la.toNat, by omega⟩
        have HLK : Hid (lk (k + 1) = lk k ++ (1 :: (CrcM.four va ++ [UInt8.ofNat (LL / 256), UInt8.ofNat LL] ++ ha))) := Lib.hid (by rw [LKG.out]; unfold LSlot.bytes; rw [hno]; simp [hLL])
        have HCS : Hid (∀ W, Below w6.heap.size w6 W → W.cell? ⟨g6, 0, none⟩ = some (.int .u32 (va : Int)) ∧ W.cell? ⟨g6, 1, none⟩ = some (.int .i64 (LL : Int)) ∧ W.cell? ⟨g6, 2, none⟩ = some (.slice Aa ha.length ca)) := Lib.hid fun W hW => by
          have e := (hW.block g6 LW6.out).trans BX.out
          refine ⟨?_, ?_, ?_⟩
          · rw [cell_of_row _ g6 0 _ _ (0, 0) e]; rfl
          · rw [cell_of_row _ g6 1 _ _ (0, 0) e, ← hLL]; rfl
          · rw [cell_of_row _ g6 2 _ _ (0, 0) e]; rfl
        have HOP : Hid (∀ W, Below w6.heap.size w6 W → RowP W (fun _ => True) A4 n4 (bv (lk k))) := Lib.hid fun W hW => (RowP.of_row (Row.of_own O0.out)).below hW
        have HRH : Hid (∀ W, Below w6.heap.size w6 W → RowP W (fun _ => True) Aa ha.length (bv ha)) := Lib.hid fun W hW => (RowP.of_row (RR.out.more B0.out.size)).below hW
        have HV : Hid (va < 2 ^ 32) := Lib.hid (by omega)
        have HTW : Hid ((#[Value.int .u8 ((LL : Int) / 256), Value.int .u8 ((LL : Int) % 256)] : Array Value).toList = bv [UInt8.ofNat (LL / 256), UInt8.ofNat LL]) := Lib.hid (by simp [bv]; omega)
        have HW8 : Hid (IntKind.u8.wrap ((LL : Int) / 256) = (LL : Int) / 256) := Lib.hid (by rw [IntKind.wrap_u8]; omega)
        have HW9 : Hid (IntKind.u8.wrap (LL : Int) = (LL : Int) % 256) := Lib.hid (by rw [IntKind.wrap_u8])
        have HSH : Hid (IntKind.i64.wrap ((LL : Int) / 256) = (LL : Int) / 256) := Lib.hid (IntWalk.i64_in _ (by omega))
        have hgt : (ha.length : Int) ≠ 0 := by omega
        have hg2 : decide ((ha.length : Int) = 0) = false := decide_eq_false hgt
        have hg3 : (((ha.length : Int)) == 0) = false := by simpa using hgt
        have k2 := (HCS.out w6 (Below.refl _ _)).2.2
        clear hv hl0 hl1 hh hno hLL BX RR LW6
        go_upto_region 9 with fail
        clear k2 hgt hg2 hg3
        refine wp_region_noPanic ?_
        refine wp_region_held_drew (S := (fun W => Below (w6.heap.size) w6 W)) (by kernel_rfl) (Below.refl _ _).drew (fun hH0 => ?_)
        have hH0 : Below (w6.heap.size) w6 w6.drew := hH0
        generalize w6.drew = wd5000 at *
        refine wpAnyH_take (i := 0) (oi := { dst := some 39, op := Op.move (Operand.tmp 4), type := 23, pos := "ref.go:340", after := #[], guard := none }) (v := ?tkv5001) rfl (by kernel_rfl) (by kernel_rfl) (by kernel_rfl) (fun _ _ _ h => h) (Or.inl ⟨by rfl, ?tky5001⟩) hH0 ?tkr5001
        case tky5001 => (intro w' hSw; clear hSw; go_simp; try with_reducible rfl)
        try simp only [Act.put, List.setIfInBounds_toArray, List.set_cons_zero, List.set_cons_succ]
        refine wpAnyH_take (i := 2) (oi := { dst := some 41, op := Op.fieldAddr 25 (Operand.tmp 6) 0, type := 0, pos := "ref.go:340", after := #[], guard := none }) (v := ?tkv5002) rfl (by kernel_rfl) (by kernel_rfl) (by kernel_rfl) (fun _ _ _ h => h) (Or.inl ⟨by rfl, ?tky5002⟩) hH0 ?tkr5002
        case tky5002 => (intro w' hSw; clear hSw; go_simp; try with_reducible rfl)
        try simp only [Act.put, List.setIfInBounds_toArray, List.set_cons_zero, List.set_cons_succ]
        refine wpAnyH_take (i := 3) (oi := { dst := some 42, op := Op.load 22 (Operand.tmp 41), type := 22, pos := "ref.go:340", after := #[{ on := 2, ground := Ground.data }], guard := none }) (v := ?tkv5003) rfl (by kernel_rfl) (by kernel_rfl) (by kernel_rfl) (fun _ _ _ h => h) (Or.inl ⟨by rfl, ?tky5003⟩) hH0 ?tkr5003
        case tky5003 => (intro w' hSw; have z0 := HCS.out _ hSw; clear hSw; go_simp; try with_reducible rfl)
        try simp only [Act.put, List.setIfInBounds_toArray, List.set_cons_zero, List.set_cons_succ]
        refine wpAnyH_take (i := 5) (oi := { dst := some 44, op := Op.fieldAddr 25 (Operand.tmp 6) 1, type := 0, pos := "ref.go:340", after := #[], guard := none }) (v := ?tkv5004) rfl (by kernel_rfl) (by kernel_rfl) (by kernel_rfl) (fun _ _ _ h => h) (Or.inl ⟨by rfl, ?tky5004⟩) hH0 ?tkr5004
        case tky5004 => (intro w' hSw; clear hSw; go_simp; try with_reducible rfl)
        try simp only [Act.put, List.setIfInBounds_toArray, List.set_cons_zero, List.set_cons_succ]
        refine wpAnyH_take (i := 6) (oi := { dst := some 45, op := Op.load 3 (Operand.tmp 44), type := 3, pos := "ref.go:340", after := #[{ on := 5, ground := Ground.data }], guard := none }) (v := ?tkv5005) rfl (by kernel_rfl) (by kernel_rfl) (by kernel_rfl) (fun _ _ _ h => h) (Or.inl ⟨by rfl, ?tky5005⟩) hH0 ?tkr5005
        case tky5005 => (intro w' hSw; have z0 := HCS.out _ hSw; clear hSw; go_simp; try with_reducible rfl)
        try simp only [Act.put, List.setIfInBounds_toArray, List.set_cons_zero, List.set_cons_succ]
        refine wpAnyH_take (i := 7) (oi := { dst := some 46, op := Op.binOp BinOp.shr 3 (Operand.tmp 45) (Operand.const (Value.int IntKind.u64 8)) 52, type := 3, pos := "ref.go:340", after := #[{ on := 6, ground := Ground.data }], guard := none }) (v := ?tkv5006) rfl (by kernel_rfl) (by kernel_rfl) (by kernel_rfl) (fun _ _ _ h => h) (Or.inl ⟨by rfl, ?tky5006⟩) hH0 ?tkr5006
        case tky5006 => (intro w' hSw; have q8 := HSH.out; clear hSw; go_simp; try with_reducible rfl)
        try simp only [Act.put, List.setIfInBounds_toArray, List.set_cons_zero, List.set_cons_succ]
        refine wpAnyH_take (i := 8) (oi := { dst := some 47, op := Op.convert 3 5 (Operand.tmp 46), type := 5, pos := "ref.go:340", after := #[{ on := 7, ground := Ground.data }], guard := none }) (v := ?tkv5007) rfl (by kernel_rfl) (by kernel_rfl) (by kernel_rfl) (fun _ _ _ h => h) (Or.inl ⟨by rfl, ?tky5007⟩) hH0 ?tkr5007
        case tky5007 => (intro w' hSw; have z0 := HCS.out _ hSw; have q8 := HW8.out; clear hSw; go_simp; try with_reducible rfl)
        try simp only [Act.put, List.setIfInBounds_toArray, List.set_cons_zero, List.set_cons_succ]
        refine wpAnyH_take (i := 9) (oi := { dst := some 48, op := Op.fieldAddr 25 (Operand.tmp 6) 1, type := 0, pos := "ref.go:340", after := #[], guard := none }) (v := ?tkv5008) rfl (by kernel_rfl) (by kernel_rfl) (by kernel_rfl) (fun _ _ _ h => h) (Or.inl ⟨by rfl, ?tky5008⟩) hH0 ?tkr5008
        case tky5008 => (intro w' hSw; clear hSw; go_simp; try with_reducible rfl)
        try simp only [Act.put, List.setIfInBounds_toArray, List.set_cons_zero, List.set_cons_succ]
        refine wpAnyH_take (i := 10) (oi := { dst := some 49, op := Op.load 3 (Operand.tmp 48), type := 3, pos := "ref.go:340", after := #[{ on := 9, ground := Ground.data }], guard := none }) (v := ?tkv5009) rfl (by kernel_rfl) (by kernel_rfl) (by kernel_rfl) (fun _ _ _ h => h) (Or.inl ⟨by rfl, ?tky5009⟩) hH0 ?tkr5009
        case tky5009 => (intro w' hSw; have z0 := HCS.out _ hSw; clear hSw; go_simp; try with_reducible rfl)
        try simp only [Act.put, List.setIfInBounds_toArray, List.set_cons_zero, List.set_cons_succ]
        refine wpAnyH_take (i := 11) (oi := { dst := some 50, op := Op.convert 3 5 (Operand.tmp 49), type := 5, pos := "ref.go:340", after := #[{ on := 10, ground := Ground.data }], guard := none }) (v := ?tkv5010) rfl (by kernel_rfl) (by kernel_rfl) (by kernel_rfl) (fun _ _ _ h => h) (Or.inl ⟨by rfl, ?tky5010⟩) hH0 ?tkr5010
        case tky5010 => (intro w' hSw; have z0 := HCS.out _ hSw; have q8 := HW9.out; clear hSw; go_simp; try with_reducible rfl)
        try simp only [Act.put, List.setIfInBounds_toArray, List.set_cons_zero, List.set_cons_succ]
        refine wpAnyH_take (i := 13) (oi := { dst := some 52, op := Op.fieldAddr 25 (Operand.tmp 6) 2, type := 0, pos := "ref.go:340", after := #[], guard := none }) (v := ?tkv5011) rfl (by kernel_rfl) (by kernel_rfl) (by kernel_rfl) (fun _ _ _ h => h) (Or.inl ⟨by rfl, ?tky5011⟩) hH0 ?tkr5011
        case tky5011 => (intro w' hSw; clear hSw; go_simp; try with_reducible rfl)
        try simp only [Act.put, List.setIfInBounds_toArray, List.set_cons_zero, List.set_cons_succ]
        refine wpAnyH_take (i := 14) (oi := { dst := some 53, op := Op.load 23 (Operand.tmp 52), type := 23, pos := "ref.go:340", after := #[{ on := 13, ground := Ground.data }], guard := none }) (v := ?tkv5012) rfl (by kernel_rfl) (by kernel_rfl) (by kernel_rfl) (fun _ _ _ h => h) (Or.inl ⟨by rfl, ?tky5012⟩) hH0 ?tkr5012
        case tky5012 => (intro w' hSw; have z0 := HCS.out _ hSw; clear hSw; go_simp; try with_reducible rfl)
        try simp only [Act.put, List.setIfInBounds_toArray, List.set_cons_zero, List.set_cons_succ]
        refine wpAnyH_ready (rs := [1, 4, 12]) (by kernel_rfl) (by simp) ?_
        refine AllReadyH.cons (o := { dst := some 40, op := Op.buildSlice 23 1 #[(0, Operand.const (Value.int IntKind.u8 1))], type := 23, pos := "ref.go:340", after := #[], guard := none }) rfl (fun K hK => ?_) (AllReadyH.cons (o := { dst := some 43, op := Op.call { callee := Callee.value (Operand.func 25), args := #[Operand.tmp 42], argTypes := #[22] }, type := 23, pos := "ref.go:340", after := #[{ on := 3, ground := Ground.data }], guard := none }) rfl (fun K hK => ?_) (AllReadyH.cons (o := { dst := some 51, op := Op.buildSlice 23 2 #[(0, Operand.tmp 47), (1, Operand.tmp 50)], type := 23, pos := "ref.go:340", after := #[{ on := 8, ground := Ground.data }, { on := 11, ground := Ground.data }], guard := none }) rfl (fun K hK => ?_) AllReadyH.nil))
        · go_simp
          have hb5013 : Below wd5000.heap.size wd5000 (wd5000.alloc (.cells #[.int .u8 1] 5)) := (Below.refl _ _).alloc (Nat.le_refl _) _
          have BX5013 : Hid ((wd5000.alloc (.cells #[.int .u8 1] 5)).heap[wd5000.heap.size]? = some (.cells #[.int .u8 1] 5 (0, 0))) := Lib.hid (heap_alloc_new _ _)
          have LX5013 : Hid (wd5000.heap.size < (wd5000.alloc (.cells #[.int .u8 1] 5)).heap.size) := Lib.hid (by simp)
          generalize (wd5000.alloc (.cells #[.int .u8 1] 5)) = wn5013 at *
          have hS5013 : Below (w6.heap.size) w6 wn5013 := (hH0).trans (hb5013.mono (hH0).size)
          refine hK.out _ _ hS5013 (fun hH5013 => ?_)
          have hH5013 : Below (w6.heap.size) w6 wn5013 := hH5013
          clear hK K hS5013
          try simp only [Act.put, List.setIfInBounds_toArray, List.set_cons_zero, List.set_cons_succ]
          refine wpAnyH_ready (rs := [4, 12]) (by kernel_rfl) (by simp) ?_
          refine AllReadyH.cons (o := { dst := some 43, op := Op.call { callee := Callee.value (Operand.func 25), args := #[Operand.tmp 42], argTypes := #[22] }, type := 23, pos := "ref.go:340", after := #[{ on := 3, ground := Ground.data }], guard := none }) rfl (fun K hK => ?_) (AllReadyH.cons (o := { dst := some 51, op := Op.buildSlice 23 2 #[(0, Operand.tmp 47), (1, Operand.tmp 50)], type := 23, pos := "ref.go:340", after := #[{ on := 8, ground := Ground.data }, { on := 11, ground := Ground.data }], guard := none }) rfl (fun K hK => ?_) AllReadyH.nil)
          · go_simp
            refine (four_any va HV.out wn5013).mono ?_
            rintro e' wn5014 ⟨A5014, n5014, c5014, rfl, hn5014, ho5014, hb5014⟩
            have F5014 := Lib.hid (RowP.of_row (Row.of_own ho5014))
            go_simp
            have BX5013_5014 := Lib.hid ((hb5014.block wd5000.heap.size LX5013.out).trans BX5013.out)
            have LX5013_5014 := Lib.hid (Nat.lt_of_lt_of_le LX5013.out hb5014.size)
            have hS5014 : Below (w6.heap.size) w6 wn5014 := (hH5013).trans (hb5014.mono (hH5013).size)
            refine hK.out _ _ hS5014 (fun hH5014 => ?_)
            have hH5014 : Below (w6.heap.size) w6 wn5014 := hH5014
            clear hK K hS5014
            try simp only [Act.put, List.setIfInBounds_toArray, List.set_cons_zero, List.set_cons_succ]
            refine wpAnyH_ready (rs := [12]) (by kernel_rfl) (by simp) ?_
            refine AllReadyH.cons (o := { dst := some 51, op := Op.buildSlice 23 2 #[(0, Operand.tmp 47), (1, Operand.tmp 50)], type := 23, pos := "ref.go:340", after := #[{ on := 8, ground := Ground.data }, { on := 11, ground := Ground.data }], guard := none }) rfl (fun K hK => ?_) AllReadyH.nil
            go_simp
            have hb5015 : Below wn5014.heap.size wn5014 (wn5014.alloc (.cells #[.int .u8 ((LL : Int) / 256), .int .u8 ((LL : Int) % 256)] 5)) := (Below.refl _ _).alloc (Nat.le_refl _) _
            have BX5015 : Hid ((wn5014.alloc (.cells #[.int .u8 ((LL : Int) / 256), .int .u8 ((LL : Int) % 256)] 5)).heap[wn5014.heap.size]? = some (.cells #[.int .u8 ((LL : Int) / 256), .int .u8 ((LL : Int) % 256)] 5 (0, 0))) := Lib.hid (heap_alloc_new _ _)
            have LX5015 : Hid (wn5014.heap.size < (wn5014.alloc (.cells #[.int .u8 ((LL : Int) / 256), .int .u8 ((LL : Int) % 256)] 5)).heap.size) := Lib.hid (by simp)
            generalize (wn5014.alloc (.cells #[.int .u8 ((LL : Int) / 256), .int .u8 ((LL : Int) % 256)] 5)) = wn5015 at *
            have BX5013_5015 := Lib.hid ((hb5015.block wd5000.heap.size LX5013_5014.out).trans BX5013_5014.out)
            have LX5013_5015 := Lib.hid (Nat.lt_of_lt_of_le LX5013_5014.out hb5015.size)
            have F5014_5015 := Lib.hid (F5014.out.below hb5015)
            have hS5015 : Below (w6.heap.size) w6 wn5015 := (hH5014).trans (hb5015.mono (hH5014).size)
            refine hK.out _ _ hS5015 (fun hH5015 => ?_)
            have hH5015 : Below (w6.heap.size) w6 wn5015 := hH5015
            clear hK K hS5015
            try simp only [Act.put, List.setIfInBounds_toArray, List.set_cons_zero, List.set_cons_succ]
            refine wpAnyH_ready (rs := [15]) (by kernel_rfl) (by simp) ?_
            refine AllReadyH.cons (o := { dst := some 54, op := Op.buildSlice 69 5 #[(0, Operand.tmp 39), (1, Operand.tmp 40), (2, Operand.tmp 43), (3, Operand.tmp 51), (4, Operand.tmp 53)], type := 69, pos := "ref.go:340", after := #[{ on := 0, ground := Ground.data }, { on := 1, ground := Ground.data }, { on := 4, ground := Ground.data }, { on := 12, ground := Ground.data }, { on := 14, ground := Ground.data }], guard := none }) rfl (fun K hK => ?_) AllReadyH.nil
            go_simp
            have hb5016 : Below wn5015.heap.size wn5015 (wn5015.alloc (.cells #[.slice A4 n4 c4, .slice (some ⟨wd5000.heap.size, 0, none⟩) 1 1, .slice A5014 n5014 c5014, .slice (some ⟨wn5014.heap.size, 0, none⟩) 2 2, .slice Aa ha.length ca] 23)) := (Below.refl _ _).alloc (Nat.le_refl _) _
            have BX5016 : Hid ((wn5015.alloc (.cells #[.slice A4 n4 c4, .slice (some ⟨wd5000.heap.size, 0, none⟩) 1 1, .slice A5014 n5014 c5014, .slice (some ⟨wn5014.heap.size, 0, none⟩) 2 2, .slice Aa ha.length ca] 23)).heap[wn5015.heap.size]? = some (.cells #[.slice A4 n4 c4, .slice (some ⟨wd5000.heap.size, 0, none⟩) 1 1, .slice A5014 n5014 c5014, .slice (some ⟨wn5014.heap.size, 0, none⟩) 2 2, .slice Aa ha.length ca] 23 (0, 0))) := Lib.hid (heap_alloc_new _ _)
            have LX5016 : Hid (wn5015.heap.size < (wn5015.alloc (.cells #[.slice A4 n4 c4, .slice (some ⟨wd5000.heap.size, 0, none⟩) 1 1, .slice A5014 n5014 c5014, .slice (some ⟨wn5014.heap.size, 0, none⟩) 2 2, .slice Aa ha.length ca] 23)).heap.size) := Lib.hid (by simp)
            generalize (wn5015.alloc (.cells #[.slice A4 n4 c4, .slice (some ⟨wd5000.heap.size, 0, none⟩) 1 1, .slice A5014 n5014 c5014, .slice (some ⟨wn5014.heap.size, 0, none⟩) 2 2, .slice Aa ha.length ca] 23)) = wn5016 at *
            have BX5013_5016 := Lib.hid ((hb5016.block wd5000.heap.size LX5013_5015.out).trans BX5013_5015.out)
            have LX5013_5016 := Lib.hid (Nat.lt_of_lt_of_le LX5013_5015.out hb5016.size)
            have F5014_5016 := Lib.hid (F5014_5015.out.below hb5016)
            have BX5015_5016 := Lib.hid ((hb5016.block wn5014.heap.size LX5015.out).trans BX5015.out)
            have LX5015_5016 := Lib.hid (Nat.lt_of_lt_of_le LX5015.out hb5016.size)
            have hS5016 : Below (w6.heap.size) w6 wn5016 := (hH5015).trans (hb5016.mono (hH5015).size)
            refine hK.out _ _ hS5016 (fun hH5016 => ?_)
            have hH5016 : Below (w6.heap.size) w6 wn5016 := hH5016
            clear hK K hS5016
            try simp only [Act.put, List.setIfInBounds_toArray, List.set_cons_zero, List.set_cons_succ]
            refine wpAnyH_ready (rs := [16]) (by kernel_rfl) (by simp) ?_
            refine AllReadyH.cons (o := { dst := some 55, op := Op.call { callee := Callee.value (Operand.func 24), args := #[Operand.tmp 54], argTypes := #[69] }, type := 23, pos := "ref.go:340", after := #[{ on := 15, ground := Ground.data }, { on := 4, ground := Ground.chain }], guard := none }) rfl (fun K hK => ?_) AllReadyH.nil
            go_simp
            have zr5017 : RowP wn5016 (fun _ => True) (some ⟨wn5014.heap.size, 0, none⟩) 2 (bv [UInt8.ofNat (LL / 256), UInt8.ofNat LL]) := by
              rw [← HTW.out]; exact RowP.of_row (row_box BX5015_5016.out)
            have FE5017 : flat [⟨A4, n4, c4, lk k⟩, ⟨some ⟨wd5000.heap.size, 0, none⟩, 1, 1, [1]⟩, ⟨A5014, n5014, c5014, CrcM.four va⟩, ⟨some ⟨wn5014.heap.size, 0, none⟩, 2, 2, [UInt8.ofNat (LL / 256), UInt8.ofNat LL]⟩, ⟨Aa, ha.length, ca, ha⟩] = lk (k + 1) := by rw [HLK.out]; simp [flat]
            refine (join_box [⟨A4, n4, c4, lk k⟩, ⟨some ⟨wd5000.heap.size, 0, none⟩, 1, 1, [1]⟩, ⟨A5014, n5014, c5014, CrcM.four va⟩, ⟨some ⟨wn5014.heap.size, 0, none⟩, 2, 2, [UInt8.ofNat (LL / 256), UInt8.ofNat LL]⟩, ⟨Aa, ha.length, ca, ha⟩] 5 rfl rfl BX5016.out (by
              intro r hr
              simp only [List.mem_cons, List.not_mem_nil, or_false] at hr
              rcases hr with rfl | rfl | rfl | rfl | rfl
              · exact HOP.out _ (hH5016)
              · exact RowP.of_row (row_box BX5013_5016.out)
              · exact F5014_5016.out
              · exact zr5017
              · exact HRH.out _ (hH5016)) (by simp) (by rw [FE5017]; have := lkn.out (k + 1) (by omega); omega) (l := lk (k + 1)) FE5017).mono ?_
            rintro e' wn5017 ⟨A5017, n5017, c5017, rfl, hn5017, ho5017, hb5017⟩
            have hbase5017 : w6.heap.size ≤ wn5016.heap.size := (hH5016).size
            clear FE5017 zr5017
            go_simp
            have BX5013_5017 := Lib.hid ((hb5017.block wd5000.heap.size LX5013_5016.out).trans BX5013_5016.out)
            have LX5013_5017 := Lib.hid (Nat.lt_of_lt_of_le LX5013_5016.out hb5017.size)
            have F5014_5017 := Lib.hid (F5014_5016.out.below hb5017)
            have BX5015_5017 := Lib.hid ((hb5017.block wn5014.heap.size LX5015_5016.out).trans BX5015_5016.out)
            have LX5015_5017 := Lib.hid (Nat.lt_of_lt_of_le LX5015_5016.out hb5017.size)
            have BX5016_5017 := Lib.hid ((hb5017.block wn5015.heap.size LX5016.out).trans BX5016.out)
            have LX5016_5017 := Lib.hid (Nat.lt_of_lt_of_le LX5016.out hb5017.size)
            have hS5017 : Below (w6.heap.size) w6 wn5017 := (hH5016).trans (hb5017.mono (hH5016).size)
            refine hK.out _ _ hS5017 (fun hH5017 => ?_)
            have hH5017 : Below (w6.heap.size) w6 wn5017 := hH5017
            clear hK K hS5017
            try simp only [Act.put, List.setIfInBounds_toArray, List.set_cons_zero, List.set_cons_succ]
            refine wpAnyH_take (i := 17) (oi := { dst := some 4, op := Op.assign (Operand.tmp 55), type := 23, pos := "ref.go:340", after := #[{ on := 16, ground := Ground.data }, { on := 16, ground := Ground.chain }, { on := 0, ground := Ground.phase }, { on := 1, ground := Ground.phase }, { on := 2, ground := Ground.phase }, { on := 3, ground := Ground.phase }, { on := 4, ground := Ground.phase }, { on := 5, ground := Ground.phase }, { on := 6, ground := Ground.phase }, { on := 7, ground := Ground.phase }, { on := 8, ground := Ground.phase }, { on := 9, ground := Ground.phase }, { on := 10, ground := Ground.phase }, { on := 11, ground := Ground.phase }, { on := 12, ground := Ground.phase }, { on := 13, ground := Ground.phase }, { on := 14, ground := Ground.phase }, { on := 15, ground := Ground.phase }, { on := 16, ground := Ground.phase }], guard := none }) (v := ?tkv5018) rfl (by kernel_rfl) (by kernel_rfl) (by kernel_rfl) (fun _ _ _ h => h) (Or.inl ⟨by rfl, ?tky5018⟩) hH5017 ?tkr5018
            case tky5018 => (intro w' hSw; clear hSw; go_simp; try with_reducible rfl)
            try simp only [Act.put, List.setIfInBounds_toArray, List.set_cons_zero, List.set_cons_succ]
            refine wpAnyH_done (by kernel_rfl) ?_ _
            refine NoPanic.normal ?_
            have hend := Lib.hid (B0.out.trans ((hH5017).mono B0.out.size))
            have HOW := Lib.hid (own_base ho5017 (show wb.heap.size ≤ _ from Nat.le_trans B0.out.size hbase5017))
            have HLN2 := Lib.hid (hn5017).symm
            go_wp2_with fail
            go_roundw
            case rel => exact ⟨k + 1, _, _, _, by omega, by go_num, rfl, HOW, HLN2, hend⟩
            case measure => simp [intOf]; omega
          · go_simp
            have hb5019 : Below wn5013.heap.size wn5013 (wn5013.alloc (.cells #[.int .u8 ((LL : Int) / 256), .int .u8 ((LL : Int) % 256)] 5)) := (Below.refl _ _).alloc (Nat.le_refl _) _
            have BX5019 : Hid ((wn5013.alloc (.cells #[.int .u8 ((LL : Int) / 256), .int .u8 ((LL : Int) % 256)] 5)).heap[wn5013.heap.size]? = some (.cells #[.int .u8 ((LL : Int) / 256), .int .u8 ((LL : Int) % 256)] 5 (0, 0))) := Lib.hid (heap_alloc_new _ _)
            have LX5019 : Hid (wn5013.heap.size < (wn5013.alloc (.cells #[.int .u8 ((LL : Int) / 256), .int .u8 ((LL : Int) % 256)] 5)).heap.size) := Lib.hid (by simp)
            generalize (wn5013.alloc (.cells #[.int .u8 ((LL : Int) / 256), .int .u8 ((LL : Int) % 256)] 5)) = wn5019 at *
            have BX5013_5019 := Lib.hid ((hb5019.block wd5000.heap.size LX5013.out).trans BX5013.out)
            have LX5013_5019 := Lib.hid (Nat.lt_of_lt_of_le LX5013.out hb5019.size)
            have hS5019 : Below (w6.heap.size) w6 wn5019 := (hH5013).trans (hb5019.mono (hH5013).size)
            refine hK.out _ _ hS5019 (fun hH5019 => ?_)
            have hH5019 : Below (w6.heap.size) w6 wn5019 := hH5019
            clear hK K hS5019
            try simp only [Act.put, List.setIfInBounds_toArray, List.set_cons_zero, List.set_cons_succ]
            refine wpAnyH_ready (rs := [4]) (by kernel_rfl) (by simp) ?_
            refine AllReadyH.cons (o := { dst := some 43, op := Op.call { callee := Callee.value (Operand.func 25), args := #[Operand.tmp 42], argTypes := #[22] }, type := 23, pos := "ref.go:340", after := #[{ on := 3, ground := Ground.data }], guard := none }) rfl (fun K hK => ?_) AllReadyH.nil
            go_simp
            refine (four_any va HV.out wn5019).mono ?_
            rintro e' wn5020 ⟨A5020, n5020, c5020, rfl, hn5020, ho5020, hb5020⟩
            have F5020 := Lib.hid (RowP.of_row (Row.of_own ho5020))
            go_simp
            have BX5013_5020 := Lib.hid ((hb5020.block wd5000.heap.size LX5013_5019.out).trans BX5013_5019.out)
            have LX5013_5020 := Lib.hid (Nat.lt_of_lt_of_le LX5013_5019.out hb5020.size)
            have BX5019_5020 := Lib.hid ((hb5020.block wn5013.heap.size LX5019.out).trans BX5019.out)
            have LX5019_5020 := Lib.hid (Nat.lt_of_lt_of_le LX5019.out hb5020.size)
            have hS5020 : Below (w6.heap.size) w6 wn5020 := (hH5019).trans (hb5020.mono (hH5019).size)
            refine hK.out _ _ hS5020 (fun hH5020 => ?_)
            have hH5020 : Below (w6.heap.size) w6 wn5020 := hH5020
            clear hK K hS5020
            try simp only [Act.put, List.setIfInBounds_toArray, List.set_cons_zero, List.set_cons_succ]
            refine wpAnyH_ready (rs := [15]) (by kernel_rfl) (by simp) ?_
            refine AllReadyH.cons (o := { dst := some 54, op := Op.buildSlice 69 5 #[(0, Operand.tmp 39), (1, Operand.tmp 40), (2, Operand.tmp 43), (3, Operand.tmp 51), (4, Operand.tmp 53)], type := 69, pos := "ref.go:340", after := #[{ on := 0, ground := Ground.data }, { on := 1, ground := Ground.data }, { on := 4, ground := Ground.data }, { on := 12, ground := Ground.data }, { on := 14, ground := Ground.data }], guard := none }) rfl (fun K hK => ?_) AllReadyH.nil
            go_simp
            have hb5021 : Below wn5020.heap.size wn5020 (wn5020.alloc (.cells #[.slice A4 n4 c4, .slice (some ⟨wd5000.heap.size, 0, none⟩) 1 1, .slice A5020 n5020 c5020, .slice (some ⟨wn5013.heap.size, 0, none⟩) 2 2, .slice Aa ha.length ca] 23)) := (Below.refl _ _).alloc (Nat.le_refl _) _
            have BX5021 : Hid ((wn5020.alloc (.cells #[.slice A4 n4 c4, .slice (some ⟨wd5000.heap.size, 0, none⟩) 1 1, .slice A5020 n5020 c5020, .slice (some ⟨wn5013.heap.size, 0, none⟩) 2 2, .slice Aa ha.length ca] 23)).heap[wn5020.heap.size]? = some (.cells #[.slice A4 n4 c4, .slice (some ⟨wd5000.heap.size, 0, none⟩) 1 1, .slice A5020 n5020 c5020, .slice (some ⟨wn5013.heap.size, 0, none⟩) 2 2, .slice Aa ha.length ca] 23 (0, 0))) := Lib.hid (heap_alloc_new _ _)
            have LX5021 : Hid (wn5020.heap.size < (wn5020.alloc (.cells #[.slice A4 n4 c4, .slice (some ⟨wd5000.heap.size, 0, none⟩) 1 1, .slice A5020 n5020 c5020, .slice (some ⟨wn5013.heap.size, 0, none⟩) 2 2, .slice Aa ha.length ca] 23)).heap.size) := Lib.hid (by simp)
            generalize (wn5020.alloc (.cells #[.slice A4 n4 c4, .slice (some ⟨wd5000.heap.size, 0, none⟩) 1 1, .slice A5020 n5020 c5020, .slice (some ⟨wn5013.heap.size, 0, none⟩) 2 2, .slice Aa ha.length ca] 23)) = wn5021 at *
            have BX5013_5021 := Lib.hid ((hb5021.block wd5000.heap.size LX5013_5020.out).trans BX5013_5020.out)
            have LX5013_5021 := Lib.hid (Nat.lt_of_lt_of_le LX5013_5020.out hb5021.size)
            have BX5019_5021 := Lib.hid ((hb5021.block wn5013.heap.size LX5019_5020.out).trans BX5019_5020.out)
            have LX5019_5021 := Lib.hid (Nat.lt_of_lt_of_le LX5019_5020.out hb5021.size)
            have F5020_5021 := Lib.hid (F5020.out.below hb5021)
            have hS5021 : Below (w6.heap.size) w6 wn5021 := (hH5020).trans (hb5021.mono (hH5020).size)
            refine hK.out _ _ hS5021 (fun hH5021 => ?_)
            have hH5021 : Below (w6.heap.size) w6 wn5021 := hH5021
            clear hK K hS5021
            try simp only [Act.put, List.setIfInBounds_toArray, List.set_cons_zero, List.set_cons_succ]
            refine wpAnyH_ready (rs := [16]) (by kernel_rfl) (by simp) ?_
            refine AllReadyH.cons (o := { dst := some 55, op := Op.call { callee := Callee.value (Operand.func 24), args := #[Operand.tmp 54], argTypes := #[69] }, type := 23, pos := "ref.go:340", after := #[{ on := 15, ground := Ground.data }, { on := 4, ground := Ground.chain }], guard := none }) rfl (fun K hK => ?_) AllReadyH.nil
            go_simp
            have zr5022 : RowP wn5021 (fun _ => True) (some ⟨wn5013.heap.size, 0, none⟩) 2 (bv [UInt8.ofNat (LL / 256), UInt8.ofNat LL]) := by
              rw [← HTW.out]; exact RowP.of_row (row_box BX5019_5021.out)
            have FE5022 : flat [⟨A4, n4, c4, lk k⟩, ⟨some ⟨wd5000.heap.size, 0, none⟩, 1, 1, [1]⟩, ⟨A5020, n5020, c5020, CrcM.four va⟩, ⟨some ⟨wn5013.heap.size, 0, none⟩, 2, 2, [UInt8.ofNat (LL / 256), UInt8.ofNat LL]⟩, ⟨Aa, ha.length, ca, ha⟩] = lk (k + 1) := by rw [HLK.out]; simp [flat]
            refine (join_box [⟨A4, n4, c4, lk k⟩, ⟨some ⟨wd5000.heap.size, 0, none⟩, 1, 1, [1]⟩, ⟨A5020, n5020, c5020, CrcM.four va⟩, ⟨some ⟨wn5013.heap.size, 0, none⟩, 2, 2, [UInt8.ofNat (LL / 256), UInt8.ofNat LL]⟩, ⟨Aa, ha.length, ca, ha⟩] 5 rfl rfl BX5021.out (by
              intro r hr
              simp only [List.mem_cons, List.not_mem_nil, or_false] at hr
              rcases hr with rfl | rfl | rfl | rfl | rfl
              · exact HOP.out _ (hH5021)
              · exact RowP.of_row (row_box BX5013_5021.out)
              · exact F5020_5021.out
              · exact zr5022
              · exact HRH.out _ (hH5021)) (by simp) (by rw [FE5022]; have := lkn.out (k + 1) (by omega); omega) (l := lk (k + 1)) FE5022).mono ?_
            rintro e' wn5022 ⟨A5022, n5022, c5022, rfl, hn5022, ho5022, hb5022⟩
            have hbase5022 : w6.heap.size ≤ wn5021.heap.size := (hH5021).size
            clear FE5022 zr5022
            go_simp
            have BX5013_5022 := Lib.hid ((hb5022.block wd5000.heap.size LX5013_5021.out).trans BX5013_5021.out)
            have LX5013_5022 := Lib.hid (Nat.lt_of_lt_of_le LX5013_5021.out hb5022.size)
            have BX5019_5022 := Lib.hid ((hb5022.block wn5013.heap.size LX5019_5021.out).trans BX5019_5021.out)
            have LX5019_5022 := Lib.hid (Nat.lt_of_lt_of_le LX5019_5021.out hb5022.size)
            have F5020_5022 := Lib.hid (F5020_5021.out.below hb5022)
            have BX5021_5022 := Lib.hid ((hb5022.block wn5020.heap.size LX5021.out).trans BX5021.out)
            have LX5021_5022 := Lib.hid (Nat.lt_of_lt_of_le LX5021.out hb5022.size)
            have hS5022 : Below (w6.heap.size) w6 wn5022 := (hH5021).trans (hb5022.mono (hH5021).size)
            refine hK.out _ _ hS5022 (fun hH5022 => ?_)
            have hH5022 : Below (w6.heap.size) w6 wn5022 := hH5022
            clear hK K hS5022
            try simp only [Act.put, List.setIfInBounds_toArray, List.set_cons_zero, List.set_cons_succ]
            refine wpAnyH_take (i := 17) (oi := { dst := some 4, op := Op.assign (Operand.tmp 55), type := 23, pos := "ref.go:340", after := #[{ on := 16, ground := Ground.data }, { on := 16, ground := Ground.chain }, { on := 0, ground := Ground.phase }, { on := 1, ground := Ground.phase }, { on := 2, ground := Ground.phase }, { on := 3, ground := Ground.phase }, { on := 4, ground := Ground.phase }, { on := 5, ground := Ground.phase }, { on := 6, ground := Ground.phase }, { on := 7, ground := Ground.phase }, { on := 8, ground := Ground.phase }, { on := 9, ground := Ground.phase }, { on := 10, ground := Ground.phase }, { on := 11, ground := Ground.phase }, { on := 12, ground := Ground.phase }, { on := 13, ground := Ground.phase }, { on := 14, ground := Ground.phase }, { on := 15, ground := Ground.phase }, { on := 16, ground := Ground.phase }], guard := none }) (v := ?tkv5023) rfl (by kernel_rfl) (by kernel_rfl) (by kernel_rfl) (fun _ _ _ h => h) (Or.inl ⟨by rfl, ?tky5023⟩) hH5022 ?tkr5023
            case tky5023 => (intro w' hSw; clear hSw; go_simp; try with_reducible rfl)
            try simp only [Act.put, List.setIfInBounds_toArray, List.set_cons_zero, List.set_cons_succ]
            refine wpAnyH_done (by kernel_rfl) ?_ _
            refine NoPanic.normal ?_
            have hend := Lib.hid (B0.out.trans ((hH5022).mono B0.out.size))
            have HOW := Lib.hid (own_base ho5022 (show wb.heap.size ≤ _ from Nat.le_trans B0.out.size hbase5022))
            have HLN2 := Lib.hid (hn5022).symm
            go_wp2_with fail
            go_roundw
            case rel => exact ⟨k + 1, _, _, _, by omega, by go_num, rfl, HOW, HLN2, hend⟩
            case measure => simp [intOf]; omega
        · go_simp
          refine (four_any va HV.out wd5000).mono ?_
          rintro e' wn5024 ⟨A5024, n5024, c5024, rfl, hn5024, ho5024, hb5024⟩
          have F5024 := Lib.hid (RowP.of_row (Row.of_own ho5024))
          go_simp
          have hS5024 : Below (w6.heap.size) w6 wn5024 := (hH0).trans (hb5024.mono (hH0).size)
          refine hK.out _ _ hS5024 (fun hH5024 => ?_)
          have hH5024 : Below (w6.heap.size) w6 wn5024 := hH5024
          clear hK K hS5024
          try simp only [Act.put, List.setIfInBounds_toArray, List.set_cons_zero, List.set_cons_succ]
          refine wpAnyH_ready (rs := [1, 12]) (by kernel_rfl) (by simp) ?_
          refine AllReadyH.cons (o := { dst := some 40, op := Op.buildSlice 23 1 #[(0, Operand.const (Value.int IntKind.u8 1))], type := 23, pos := "ref.go:340", after := #[], guard := none }) rfl (fun K hK => ?_) (AllReadyH.cons (o := { dst := some 51, op := Op.buildSlice 23 2 #[(0, Operand.tmp 47), (1, Operand.tmp 50)], type := 23, pos := "ref.go:340", after := #[{ on := 8, ground := Ground.data }, { on := 11, ground := Ground.data }], guard := none }) rfl (fun K hK => ?_) AllReadyH.nil)
          · go_simp
            have hb5025 : Below wn5024.heap.size wn5024 (wn5024.alloc (.cells #[.int .u8 1] 5)) := (Below.refl _ _).alloc (Nat.le_refl _) _
            have BX5025 : Hid ((wn5024.alloc (.cells #[.int .u8 1] 5)).heap[wn5024.heap.size]? = some (.cells #[.int .u8 1] 5 (0, 0))) := Lib.hid (heap_alloc_new _ _)
            have LX5025 : Hid (wn5024.heap.size < (wn5024.alloc (.cells #[.int .u8 1] 5)).heap.size) := Lib.hid (by simp)
            generalize (wn5024.alloc (.cells #[.int .u8 1] 5)) = wn5025 at *
            have F5024_5025 := Lib.hid (F5024.out.below hb5025)
            have hS5025 : Below (w6.heap.size) w6 wn5025 := (hH5024).trans (hb5025.mono (hH5024).size)
            refine hK.out _ _ hS5025 (fun hH5025 => ?_)
            have hH5025 : Below (w6.heap.size) w6 wn5025 := hH5025
            clear hK K hS5025
            try simp only [Act.put, List.setIfInBounds_toArray, List.set_cons_zero, List.set_cons_succ]
            refine wpAnyH_ready (rs := [12]) (by kernel_rfl) (by simp) ?_
            refine AllReadyH.cons (o := { dst := some 51, op := Op.buildSlice 23 2 #[(0, Operand.tmp 47), (1, Operand.tmp 50)], type := 23, pos := "ref.go:340", after := #[{ on := 8, ground := Ground.data }, { on := 11, ground := Ground.data }], guard := none }) rfl (fun K hK => ?_) AllReadyH.nil
            go_simp
            have hb5026 : Below wn5025.heap.size wn5025 (wn5025.alloc (.cells #[.int .u8 ((LL : Int) / 256), .int .u8 ((LL : Int) % 256)] 5)) := (Below.refl _ _).alloc (Nat.le_refl _) _
            have BX5026 : Hid ((wn5025.alloc (.cells #[.int .u8 ((LL : Int) / 256), .int .u8 ((LL : Int) % 256)] 5)).heap[wn5025.heap.size]? = some (.cells #[.int .u8 ((LL : Int) / 256), .int .u8 ((LL : Int) % 256)] 5 (0, 0))) := Lib.hid (heap_alloc_new _ _)
            have LX5026 : Hid (wn5025.heap.size < (wn5025.alloc (.cells #[.int .u8 ((LL : Int) / 256), .int .u8 ((LL : Int) % 256)] 5)).heap.size) := Lib.hid (by simp)
            generalize (wn5025.alloc (.cells #[.int .u8 ((LL : Int) / 256), .int .u8 ((LL : Int) % 256)] 5)) = wn5026 at *
            have F5024_5026 := Lib.hid (F5024_5025.out.below hb5026)
            have BX5025_5026 := Lib.hid ((hb5026.block wn5024.heap.size LX5025.out).trans BX5025.out)
            have LX5025_5026 := Lib.hid (Nat.lt_of_lt_of_le LX5025.out hb5026.size)
            have hS5026 : Below (w6.heap.size) w6 wn5026 := (hH5025).trans (hb5026.mono (hH5025).size)
            refine hK.out _ _ hS5026 (fun hH5026 => ?_)
            have hH5026 : Below (w6.heap.size) w6 wn5026 := hH5026
            clear hK K hS5026
            try simp only [Act.put, List.setIfInBounds_toArray, List.set_cons_zero, List.set_cons_succ]
            refine wpAnyH_ready (rs := [15]) (by kernel_rfl) (by simp) ?_
            refine AllReadyH.cons (o := { dst := some 54, op := Op.buildSlice 69 5 #[(0, Operand.tmp 39), (1, Operand.tmp 40), (2, Operand.tmp 43), (3, Operand.tmp 51), (4, Operand.tmp 53)], type := 69, pos := "ref.go:340", after := #[{ on := 0, ground := Ground.data }, { on := 1, ground := Ground.data }, { on := 4, ground := Ground.data }, { on := 12, ground := Ground.data }, { on := 14, ground := Ground.data }], guard := none }) rfl (fun K hK => ?_) AllReadyH.nil
            go_simp
            have hb5027 : Below wn5026.heap.size wn5026 (wn5026.alloc (.cells #[.slice A4 n4 c4, .slice (some ⟨wn5024.heap.size, 0, none⟩) 1 1, .slice A5024 n5024 c5024, .slice (some ⟨wn5025.heap.size, 0, none⟩) 2 2, .slice Aa ha.length ca] 23)) := (Below.refl _ _).alloc (Nat.le_refl _) _
            have BX5027 : Hid ((wn5026.alloc (.cells #[.slice A4 n4 c4, .slice (some ⟨wn5024.heap.size, 0, none⟩) 1 1, .slice A5024 n5024 c5024, .slice (some ⟨wn5025.heap.size, 0, none⟩) 2 2, .slice Aa ha.length ca] 23)).heap[wn5026.heap.size]? = some (.cells #[.slice A4 n4 c4, .slice (some ⟨wn5024.heap.size, 0, none⟩) 1 1, .slice A5024 n5024 c5024, .slice (some ⟨wn5025.heap.size, 0, none⟩) 2 2, .slice Aa ha.length ca] 23 (0, 0))) := Lib.hid (heap_alloc_new _ _)
            have LX5027 : Hid (wn5026.heap.size < (wn5026.alloc (.cells #[.slice A4 n4 c4, .slice (some ⟨wn5024.heap.size, 0, none⟩) 1 1, .slice A5024 n5024 c5024, .slice (some ⟨wn5025.heap.size, 0, none⟩) 2 2, .slice Aa ha.length ca] 23)).heap.size) := Lib.hid (by simp)
            generalize (wn5026.alloc (.cells #[.slice A4 n4 c4, .slice (some ⟨wn5024.heap.size, 0, none⟩) 1 1, .slice A5024 n5024 c5024, .slice (some ⟨wn5025.heap.size, 0, none⟩) 2 2, .slice Aa ha.length ca] 23)) = wn5027 at *
            have F5024_5027 := Lib.hid (F5024_5026.out.below hb5027)
            have BX5025_5027 := Lib.hid ((hb5027.block wn5024.heap.size LX5025_5026.out).trans BX5025_5026.out)
            have LX5025_5027 := Lib.hid (Nat.lt_of_lt_of_le LX5025_5026.out hb5027.size)
            have BX5026_5027 := Lib.hid ((hb5027.block wn5025.heap.size LX5026.out).trans BX5026.out)
            have LX5026_5027 := Lib.hid (Nat.lt_of_lt_of_le LX5026.out hb5027.size)
            have hS5027 : Below (w6.heap.size) w6 wn5027 := (hH5026).trans (hb5027.mono (hH5026).size)
            refine hK.out _ _ hS5027 (fun hH5027 => ?_)
            have hH5027 : Below (w6.heap.size) w6 wn5027 := hH5027
            clear hK K hS5027
            try simp only [Act.put, List.setIfInBounds_toArray, List.set_cons_zero, List.set_cons_succ]
            refine wpAnyH_ready (rs := [16]) (by kernel_rfl) (by simp) ?_
            refine AllReadyH.cons (o := { dst := some 55, op := Op.call { callee := Callee.value (Operand.func 24), args := #[Operand.tmp 54], argTypes := #[69] }, type := 23, pos := "ref.go:340", after := #[{ on := 15, ground := Ground.data }, { on := 4, ground := Ground.chain }], guard := none }) rfl (fun K hK => ?_) AllReadyH.nil
            go_simp
            have zr5028 : RowP wn5027 (fun _ => True) (some ⟨wn5025.heap.size, 0, none⟩) 2 (bv [UInt8.ofNat (LL / 256), UInt8.ofNat LL]) := by
              rw [← HTW.out]; exact RowP.of_row (row_box BX5026_5027.out)
            have FE5028 : flat [⟨A4, n4, c4, lk k⟩, ⟨some ⟨wn5024.heap.size, 0, none⟩, 1, 1, [1]⟩, ⟨A5024, n5024, c5024, CrcM.four va⟩, ⟨some ⟨wn5025.heap.size, 0, none⟩, 2, 2, [UInt8.ofNat (LL / 256), UInt8.ofNat LL]⟩, ⟨Aa, ha.length, ca, ha⟩] = lk (k + 1) := by rw [HLK.out]; simp [flat]
            refine (join_box [⟨A4, n4, c4, lk k⟩, ⟨some ⟨wn5024.heap.size, 0, none⟩, 1, 1, [1]⟩, ⟨A5024, n5024, c5024, CrcM.four va⟩, ⟨some ⟨wn5025.heap.size, 0, none⟩, 2, 2, [UInt8.ofNat (LL / 256), UInt8.ofNat LL]⟩, ⟨Aa, ha.length, ca, ha⟩] 5 rfl rfl BX5027.out (by
              intro r hr
              simp only [List.mem_cons, List.not_mem_nil, or_false] at hr
              rcases hr with rfl | rfl | rfl | rfl | rfl
              · exact HOP.out _ (hH5027)
              · exact RowP.of_row (row_box BX5025_5027.out)
              · exact F5024_5027.out
              · exact zr5028
              · exact HRH.out _ (hH5027)) (by simp) (by rw [FE5028]; have := lkn.out (k + 1) (by omega); omega) (l := lk (k + 1)) FE5028).mono ?_
            rintro e' wn5028 ⟨A5028, n5028, c5028, rfl, hn5028, ho5028, hb5028⟩
            have hbase5028 : w6.heap.size ≤ wn5027.heap.size := (hH5027).size
            clear FE5028 zr5028
            go_simp
            have F5024_5028 := Lib.hid (F5024_5027.out.below hb5028)
            have BX5025_5028 := Lib.hid ((hb5028.block wn5024.heap.size LX5025_5027.out).trans BX5025_5027.out)
            have LX5025_5028 := Lib.hid (Nat.lt_of_lt_of_le LX5025_5027.out hb5028.size)
            have BX5026_5028 := Lib.hid ((hb5028.block wn5025.heap.size LX5026_5027.out).trans BX5026_5027.out)
            have LX5026_5028 := Lib.hid (Nat.lt_of_lt_of_le LX5026_5027.out hb5028.size)
            have BX5027_5028 := Lib.hid ((hb5028.block wn5026.heap.size LX5027.out).trans BX5027.out)
            have LX5027_5028 := Lib.hid (Nat.lt_of_lt_of_le LX5027.out hb5028.size)
            have hS5028 : Below (w6.heap.size) w6 wn5028 := (hH5027).trans (hb5028.mono (hH5027).size)
            refine hK.out _ _ hS5028 (fun hH5028 => ?_)
            have hH5028 : Below (w6.heap.size) w6 wn5028 := hH5028
            clear hK K hS5028
            try simp only [Act.put, List.setIfInBounds_toArray, List.set_cons_zero, List.set_cons_succ]
            refine wpAnyH_take (i := 17) (oi := { dst := some 4, op := Op.assign (Operand.tmp 55), type := 23, pos := "ref.go:340", after := #[{ on := 16, ground := Ground.data }, { on := 16, ground := Ground.chain }, { on := 0, ground := Ground.phase }, { on := 1, ground := Ground.phase }, { on := 2, ground := Ground.phase }, { on := 3, ground := Ground.phase }, { on := 4, ground := Ground.phase }, { on := 5, ground := Ground.phase }, { on := 6, ground := Ground.phase }, { on := 7, ground := Ground.phase }, { on := 8, ground := Ground.phase }, { on := 9, ground := Ground.phase }, { on := 10, ground := Ground.phase }, { on := 11, ground := Ground.phase }, { on := 12, ground := Ground.phase }, { on := 13, ground := Ground.phase }, { on := 14, ground := Ground.phase }, { on := 15, ground := Ground.phase }, { on := 16, ground := Ground.phase }], guard := none }) (v := ?tkv5029) rfl (by kernel_rfl) (by kernel_rfl) (by kernel_rfl) (fun _ _ _ h => h) (Or.inl ⟨by rfl, ?tky5029⟩) hH5028 ?tkr5029
            case tky5029 => (intro w' hSw; clear hSw; go_simp; try with_reducible rfl)
            try simp only [Act.put, List.setIfInBounds_toArray, List.set_cons_zero, List.set_cons_succ]
            refine wpAnyH_done (by kernel_rfl) ?_ _
            refine NoPanic.normal ?_
            have hend := Lib.hid (B0.out.trans ((hH5028).mono B0.out.size))
            have HOW := Lib.hid (own_base ho5028 (show wb.heap.size ≤ _ from Nat.le_trans B0.out.size hbase5028))
            have HLN2 := Lib.hid (hn5028).symm
            go_wp2_with fail
            go_roundw
            case rel => exact ⟨k + 1, _, _, _, by omega, by go_num, rfl, HOW, HLN2, hend⟩
            case measure => simp [intOf]; omega
          · go_simp
            have hb5030 : Below wn5024.heap.size wn5024 (wn5024.alloc (.cells #[.int .u8 ((LL : Int) / 256), .int .u8 ((LL : Int) % 256)] 5)) := (Below.refl _ _).alloc (Nat.le_refl _) _
            have BX5030 : Hid ((wn5024.alloc (.cells #[.int .u8 ((LL : Int) / 256), .int .u8 ((LL : Int) % 256)] 5)).heap[wn5024.heap.size]? = some (.cells #[.int .u8 ((LL : Int) / 256), .int .u8 ((LL : Int) % 256)] 5 (0, 0))) := Lib.hid (heap_alloc_new _ _)
            have LX5030 : Hid (wn5024.heap.size < (wn5024.alloc (.cells #[.int .u8 ((LL : Int) / 256), .int .u8 ((LL : Int) % 256)] 5)).heap.size) := Lib.hid (by simp)
            generalize (wn5024.alloc (.cells #[.int .u8 ((LL : Int) / 256), .int .u8 ((LL : Int) % 256)] 5)) = wn5030 at *
            have F5024_5030 := Lib.hid (F5024.out.below hb5030)
            have hS5030 : Below (w6.heap.size) w6 wn5030 := (hH5024).trans (hb5030.mono (hH5024).size)
            refine hK.out _ _ hS5030 (fun hH5030 => ?_)
            have hH5030 : Below (w6.heap.size) w6 wn5030 := hH5030
            clear hK K hS5030
            try simp only [Act.put, List.setIfInBounds_toArray, List.set_cons_zero, List.set_cons_succ]
            refine wpAnyH_ready (rs := [1]) (by kernel_rfl) (by simp) ?_
            refine AllReadyH.cons (o := { dst := some 40, op := Op.buildSlice 23 1 #[(0, Operand.const (Value.int IntKind.u8 1))], type := 23, pos := "ref.go:340", after := #[], guard := none }) rfl (fun K hK => ?_) AllReadyH.nil
            go_simp
            have hb5031 : Below wn5030.heap.size wn5030 (wn5030.alloc (.cells #[.int .u8 1] 5)) := (Below.refl _ _).alloc (Nat.le_refl _) _
            have BX5031 : Hid ((wn5030.alloc (.cells #[.int .u8 1] 5)).heap[wn5030.heap.size]? = some (.cells #[.int .u8 1] 5 (0, 0))) := Lib.hid (heap_alloc_new _ _)
            have LX5031 : Hid (wn5030.heap.size < (wn5030.alloc (.cells #[.int .u8 1] 5)).heap.size) := Lib.hid (by simp)
            generalize (wn5030.alloc (.cells #[.int .u8 1] 5)) = wn5031 at *
            have F5024_5031 := Lib.hid (F5024_5030.out.below hb5031)
            have BX5030_5031 := Lib.hid ((hb5031.block wn5024.heap.size LX5030.out).trans BX5030.out)
            have LX5030_5031 := Lib.hid (Nat.lt_of_lt_of_le LX5030.out hb5031.size)
            have hS5031 : Below (w6.heap.size) w6 wn5031 := (hH5030).trans (hb5031.mono (hH5030).size)
            refine hK.out _ _ hS5031 (fun hH5031 => ?_)
            have hH5031 : Below (w6.heap.size) w6 wn5031 := hH5031
            clear hK K hS5031
            try simp only [Act.put, List.setIfInBounds_toArray, List.set_cons_zero, List.set_cons_succ]
            refine wpAnyH_ready (rs := [15]) (by kernel_rfl) (by simp) ?_
            refine AllReadyH.cons (o := { dst := some 54, op := Op.buildSlice 69 5 #[(0, Operand.tmp 39), (1, Operand.tmp 40), (2, Operand.tmp 43), (3, Operand.tmp 51), (4, Operand.tmp 53)], type := 69, pos := "ref.go:340", after := #[{ on := 0, ground := Ground.data }, { on := 1, ground := Ground.data }, { on := 4, ground := Ground.data }, { on := 12, ground := Ground.data }, { on := 14, ground := Ground.data }], guard := none }) rfl (fun K hK => ?_) AllReadyH.nil
            go_simp
            have hb5032 : Below wn5031.heap.size wn5031 (wn5031.alloc (.cells #[.slice A4 n4 c4, .slice (some ⟨wn5030.heap.size, 0, none⟩) 1 1, .slice A5024 n5024 c5024, .slice (some ⟨wn5024.heap.size, 0, none⟩) 2 2, .slice Aa ha.length ca] 23)) := (Below.refl _ _).alloc (Nat.le_refl _) _
            have BX5032 : Hid ((wn5031.alloc (.cells #[.slice A4 n4 c4, .slice (some ⟨wn5030.heap.size, 0, none⟩) 1 1, .slice A5024 n5024 c5024, .slice (some ⟨wn5024.heap.size, 0, none⟩) 2 2, .slice Aa ha.length ca] 23)).heap[wn5031.heap.size]? = some (.cells #[.slice A4 n4 c4, .slice (some ⟨wn5030.heap.size, 0, none⟩) 1 1, .slice A5024 n5024 c5024, .slice (some ⟨wn5024.heap.size, 0, none⟩) 2 2, .slice Aa ha.length ca] 23 (0, 0))) := Lib.hid (heap_alloc_new _ _)
            have LX5032 : Hid (wn5031.heap.size < (wn5031.alloc (.cells #[.slice A4 n4 c4, .slice (some ⟨wn5030.heap.size, 0, none⟩) 1 1, .slice A5024 n5024 c5024, .slice (some ⟨wn5024.heap.size, 0, none⟩) 2 2, .slice Aa ha.length ca] 23)).heap.size) := Lib.hid (by simp)
            generalize (wn5031.alloc (.cells #[.slice A4 n4 c4, .slice (some ⟨wn5030.heap.size, 0, none⟩) 1 1, .slice A5024 n5024 c5024, .slice (some ⟨wn5024.heap.size, 0, none⟩) 2 2, .slice Aa ha.length ca] 23)) = wn5032 at *
            have F5024_5032 := Lib.hid (F5024_5031.out.below hb5032)
            have BX5030_5032 := Lib.hid ((hb5032.block wn5024.heap.size LX5030_5031.out).trans BX5030_5031.out)
            have LX5030_5032 := Lib.hid (Nat.lt_of_lt_of_le LX5030_5031.out hb5032.size)
            have BX5031_5032 := Lib.hid ((hb5032.block wn5030.heap.size LX5031.out).trans BX5031.out)
            have LX5031_5032 := Lib.hid (Nat.lt_of_lt_of_le LX5031.out hb5032.size)
            have hS5032 : Below (w6.heap.size) w6 wn5032 := (hH5031).trans (hb5032.mono (hH5031).size)
            refine hK.out _ _ hS5032 (fun hH5032 => ?_)
            have hH5032 : Below (w6.heap.size) w6 wn5032 := hH5032
            clear hK K hS5032
            try simp only [Act.put, List.setIfInBounds_toArray, List.set_cons_zero, List.set_cons_succ]
            refine wpAnyH_ready (rs := [16]) (by kernel_rfl) (by simp) ?_
            refine AllReadyH.cons (o := { dst := some 55, op := Op.call { callee := Callee.value (Operand.func 24), args := #[Operand.tmp 54], argTypes := #[69] }, type := 23, pos := "ref.go:340", after := #[{ on := 15, ground := Ground.data }, { on := 4, ground := Ground.chain }], guard := none }) rfl (fun K hK => ?_) AllReadyH.nil
            go_simp
            have zr5033 : RowP wn5032 (fun _ => True) (some ⟨wn5024.heap.size, 0, none⟩) 2 (bv [UInt8.ofNat (LL / 256), UInt8.ofNat LL]) := by
              rw [← HTW.out]; exact RowP.of_row (row_box BX5030_5032.out)
            have FE5033 : flat [⟨A4, n4, c4, lk k⟩, ⟨some ⟨wn5030.heap.size, 0, none⟩, 1, 1, [1]⟩, ⟨A5024, n5024, c5024, CrcM.four va⟩, ⟨some ⟨wn5024.heap.size, 0, none⟩, 2, 2, [UInt8.ofNat (LL / 256), UInt8.ofNat LL]⟩, ⟨Aa, ha.length, ca, ha⟩] = lk (k + 1) := by rw [HLK.out]; simp [flat]
            refine (join_box [⟨A4, n4, c4, lk k⟩, ⟨some ⟨wn5030.heap.size, 0, none⟩, 1, 1, [1]⟩, ⟨A5024, n5024, c5024, CrcM.four va⟩, ⟨some ⟨wn5024.heap.size, 0, none⟩, 2, 2, [UInt8.ofNat (LL / 256), UInt8.ofNat LL]⟩, ⟨Aa, ha.length, ca, ha⟩] 5 rfl rfl BX5032.out (by
              intro r hr
              simp only [List.mem_cons, List.not_mem_nil, or_false] at hr
              rcases hr with rfl | rfl | rfl | rfl | rfl
              · exact HOP.out _ (hH5032)
              · exact RowP.of_row (row_box BX5031_5032.out)
              · exact F5024_5032.out
              · exact zr5033
              · exact HRH.out _ (hH5032)) (by simp) (by rw [FE5033]; have := lkn.out (k + 1) (by omega); omega) (l := lk (k + 1)) FE5033).mono ?_
            rintro e' wn5033 ⟨A5033, n5033, c5033, rfl, hn5033, ho5033, hb5033⟩
            have hbase5033 : w6.heap.size ≤ wn5032.heap.size := (hH5032).size
            clear FE5033 zr5033
            go_simp
            have F5024_5033 := Lib.hid (F5024_5032.out.below hb5033)
            have BX5030_5033 := Lib.hid ((hb5033.block wn5024.heap.size LX5030_5032.out).trans BX5030_5032.out)
            have LX5030_5033 := Lib.hid (Nat.lt_of_lt_of_le LX5030_5032.out hb5033.size)
            have BX5031_5033 := Lib.hid ((hb5033.block wn5030.heap.size LX5031_5032.out).trans BX5031_5032.out)
            have LX5031_5033 := Lib.hid (Nat.lt_of_lt_of_le LX5031_5032.out hb5033.size)
            have BX5032_5033 := Lib.hid ((hb5033.block wn5031.heap.size LX5032.out).trans BX5032.out)
            have LX5032_5033 := Lib.hid (Nat.lt_of_lt_of_le LX5032.out hb5033.size)
            have hS5033 : Below (w6.heap.size) w6 wn5033 := (hH5032).trans (hb5033.mono (hH5032).size)
            refine hK.out _ _ hS5033 (fun hH5033 => ?_)
            have hH5033 : Below (w6.heap.size) w6 wn5033 := hH5033
            clear hK K hS5033
            try simp only [Act.put, List.setIfInBounds_toArray, List.set_cons_zero, List.set_cons_succ]
            refine wpAnyH_take (i := 17) (oi := { dst := some 4, op := Op.assign (Operand.tmp 55), type := 23, pos := "ref.go:340", after := #[{ on := 16, ground := Ground.data }, { on := 16, ground := Ground.chain }, { on := 0, ground := Ground.phase }, { on := 1, ground := Ground.phase }, { on := 2, ground := Ground.phase }, { on := 3, ground := Ground.phase }, { on := 4, ground := Ground.phase }, { on := 5, ground := Ground.phase }, { on := 6, ground := Ground.phase }, { on := 7, ground := Ground.phase }, { on := 8, ground := Ground.phase }, { on := 9, ground := Ground.phase }, { on := 10, ground := Ground.phase }, { on := 11, ground := Ground.phase }, { on := 12, ground := Ground.phase }, { on := 13, ground := Ground.phase }, { on := 14, ground := Ground.phase }, { on := 15, ground := Ground.phase }, { on := 16, ground := Ground.phase }], guard := none }) (v := ?tkv5034) rfl (by kernel_rfl) (by kernel_rfl) (by kernel_rfl) (fun _ _ _ h => h) (Or.inl ⟨by rfl, ?tky5034⟩) hH5033 ?tkr5034
            case tky5034 => (intro w' hSw; clear hSw; go_simp; try with_reducible rfl)
            try simp only [Act.put, List.setIfInBounds_toArray, List.set_cons_zero, List.set_cons_succ]
            refine wpAnyH_done (by kernel_rfl) ?_ _
            refine NoPanic.normal ?_
            have hend := Lib.hid (B0.out.trans ((hH5033).mono B0.out.size))
            have HOW := Lib.hid (own_base ho5033 (show wb.heap.size ≤ _ from Nat.le_trans B0.out.size hbase5033))
            have HLN2 := Lib.hid (hn5033).symm
            go_wp2_with fail
            go_roundw
            case rel => exact ⟨k + 1, _, _, _, by omega, by go_num, rfl, HOW, HLN2, hend⟩
            case measure => simp [intOf]; omega
        · go_simp
          have hb5035 : Below wd5000.heap.size wd5000 (wd5000.alloc (.cells #[.int .u8 ((LL : Int) / 256), .int .u8 ((LL : Int) % 256)] 5)) := (Below.refl _ _).alloc (Nat.le_refl _) _
          have BX5035 : Hid ((wd5000.alloc (.cells #[.int .u8 ((LL : Int) / 256), .int .u8 ((LL : Int) % 256)] 5)).heap[wd5000.heap.size]? = some (.cells #[.int .u8 ((LL : Int) / 256), .int .u8 ((LL : Int) % 256)] 5 (0, 0))) := Lib.hid (heap_alloc_new _ _)
          have LX5035 : Hid (wd5000.heap.size < (wd5000.alloc (.cells #[.int .u8 ((LL : Int) / 256), .int .u8 ((LL : Int) % 256)] 5)).heap.size) := Lib.hid (by simp)
          generalize (wd5000.alloc (.cells #[.int .u8 ((LL : Int) / 256), .int .u8 ((LL : Int) % 256)] 5)) = wn5035 at *
          have hS5035 : Below (w6.heap.size) w6 wn5035 := (hH0).trans (hb5035.mono (hH0).size)
          refine hK.out _ _ hS5035 (fun hH5035 => ?_)
          have hH5035 : Below (w6.heap.size) w6 wn5035 := hH5035
          clear hK K hS5035
          try simp only [Act.put, List.setIfInBounds_toArray, List.set_cons_zero, List.set_cons_succ]
          refine wpAnyH_ready (rs := [1, 4]) (by kernel_rfl) (by simp) ?_
          refine AllReadyH.cons (o := { dst := some 40, op := Op.buildSlice 23 1 #[(0, Operand.const (Value.int IntKind.u8 1))], type := 23, pos := "ref.go:340", after := #[], guard := none }) rfl (fun K hK => ?_) (AllReadyH.cons (o := { dst := some 43, op := Op.call { callee := Callee.value (Operand.func 25), args := #[Operand.tmp 42], argTypes := #[22] }, type := 23, pos := "ref.go:340", after := #[{ on := 3, ground := Ground.data }], guard := none }) rfl (fun K hK => ?_) AllReadyH.nil)
          · go_simp
            have hb5036 : Below wn5035.heap.size wn5035 (wn5035.alloc (.cells #[.int .u8 1] 5)) := (Below.refl _ _).alloc (Nat.le_refl _) _
            have BX5036 : Hid ((wn5035.alloc (.cells #[.int .u8 1] 5)).heap[wn5035.heap.size]? = some (.cells #[.int .u8 1] 5 (0, 0))) := Lib.hid (heap_alloc_new _ _)
            have LX5036 : Hid (wn5035.heap.size < (wn5035.alloc (.cells #[.int .u8 1] 5)).heap.size) := Lib.hid (by simp)
            generalize (wn5035.alloc (.cells #[.int .u8 1] 5)) = wn5036 at *
            have BX5035_5036 := Lib.hid ((hb5036.block wd5000.heap.size LX5035.out).trans BX5035.out)
            have LX5035_5036 := Lib.hid (Nat.lt_of_lt_of_le LX5035.out hb5036.size)
            have hS5036 : Below (w6.heap.size) w6 wn5036 := (hH5035).trans (hb5036.mono (hH5035).size)
            refine hK.out _ _ hS5036 (fun hH5036 => ?_)
            have hH5036 : Below (w6.heap.size) w6 wn5036 := hH5036
            clear hK K hS5036
            try simp only [Act.put, List.setIfInBounds_toArray, List.set_cons_zero, List.set_cons_succ]
            refine wpAnyH_ready (rs := [4]) (by kernel_rfl) (by simp) ?_
            refine AllReadyH.cons (o := { dst := some 43, op := Op.call { callee := Callee.value (Operand.func 25), args := #[Operand.tmp 42], argTypes := #[22] }, type := 23, pos := "ref.go:340", after := #[{ on := 3, ground := Ground.data }], guard := none }) rfl (fun K hK => ?_) AllReadyH.nil
            go_simp
            refine (four_any va HV.out wn5036).mono ?_
            rintro e' wn5037 ⟨A5037, n5037, c5037, rfl, hn5037, ho5037, hb5037⟩
            have F5037 := Lib.hid (RowP.of_row (Row.of_own ho5037))
            go_simp
            have BX5035_5037 := Lib.hid ((hb5037.block wd5000.heap.size LX5035_5036.out).trans BX5035_5036.out)
            have LX5035_5037 := Lib.hid (Nat.lt_of_lt_of_le LX5035_5036.out hb5037.size)
            have BX5036_5037 := Lib.hid ((hb5037.block wn5035.heap.size LX5036.out).trans BX5036.out)
            have LX5036_5037 := Lib.hid (Nat.lt_of_lt_of_le LX5036.out hb5037.size)
            have hS5037 : Below (w6.heap.size) w6 wn5037 := (hH5036).trans (hb5037.mono (hH5036).size)
            refine hK.out _ _ hS5037 (fun hH5037 => ?_)
            have hH5037 : Below (w6.heap.size) w6 wn5037 := hH5037
            clear hK K hS5037
            try simp only [Act.put, List.setIfInBounds_toArray, List.set_cons_zero, List.set_cons_succ]
            refine wpAnyH_ready (rs := [15]) (by kernel_rfl) (by simp) ?_
            refine AllReadyH.cons (o := { dst := some 54, op := Op.buildSlice 69 5 #[(0, Operand.tmp 39), (1, Operand.tmp 40), (2, Operand.tmp 43), (3, Operand.tmp 51), (4, Operand.tmp 53)], type := 69, pos := "ref.go:340", after := #[{ on := 0, ground := Ground.data }, { on := 1, ground := Ground.data }, { on := 4, ground := Ground.data }, { on := 12, ground := Ground.data }, { on := 14, ground := Ground.data }], guard := none }) rfl (fun K hK => ?_) AllReadyH.nil
            go_simp
            have hb5038 : Below wn5037.heap.size wn5037 (wn5037.alloc (.cells #[.slice A4 n4 c4, .slice (some ⟨wn5035.heap.size, 0, none⟩) 1 1, .slice A5037 n5037 c5037, .slice (some ⟨wd5000.heap.size, 0, none⟩) 2 2, .slice Aa ha.length ca] 23)) := (Below.refl _ _).alloc (Nat.le_refl _) _
            have BX5038 : Hid ((wn5037.alloc (.cells #[.slice A4 n4 c4, .slice (some ⟨wn5035.heap.size, 0, none⟩) 1 1, .slice A5037 n5037 c5037, .slice (some ⟨wd5000.heap.size, 0, none⟩) 2 2, .slice Aa ha.length ca] 23)).heap[wn5037.heap.size]? = some (.cells #[.slice A4 n4 c4, .slice (some ⟨wn5035.heap.size, 0, none⟩) 1 1, .slice A5037 n5037 c5037, .slice (some ⟨wd5000.heap.size, 0, none⟩) 2 2, .slice Aa ha.length ca] 23 (0, 0))) := Lib.hid (heap_alloc_new _ _)
            have LX5038 : Hid (wn5037.heap.size < (wn5037.alloc (.cells #[.slice A4 n4 c4, .slice (some ⟨wn5035.heap.size, 0, none⟩) 1 1, .slice A5037 n5037 c5037, .slice (some ⟨wd5000.heap.size, 0, none⟩) 2 2, .slice Aa ha.length ca] 23)).heap.size) := Lib.hid (by simp)
            generalize (wn5037.alloc (.cells #[.slice A4 n4 c4, .slice (some ⟨wn5035.heap.size, 0, none⟩) 1 1, .slice A5037 n5037 c5037, .slice (some ⟨wd5000.heap.size, 0, none⟩) 2 2, .slice Aa ha.length ca] 23)) = wn5038 at *
            have BX5035_5038 := Lib.hid ((hb5038.block wd5000.heap.size LX5035_5037.out).trans BX5035_5037.out)
            have LX5035_5038 := Lib.hid (Nat.lt_of_lt_of_le LX5035_5037.out hb5038.size)
            have BX5036_5038 := Lib.hid ((hb5038.block wn5035.heap.size LX5036_5037.out).trans BX5036_5037.out)
            have LX5036_5038 := Lib.hid (Nat.lt_of_lt_of_le LX5036_5037.out hb5038.size)
            have F5037_5038 := Lib.hid (F5037.out.below hb5038)
            have hS5038 : Below (w6.heap.size) w6 wn5038 := (hH5037).trans (hb5038.mono (hH5037).size)
            refine hK.out _ _ hS5038 (fun hH5038 => ?_)
            have hH5038 : Below (w6.heap.size) w6 wn5038 := hH5038
            clear hK K hS5038
            try simp only [Act.put, List.setIfInBounds_toArray, List.set_cons_zero, List.set_cons_succ]
            refine wpAnyH_ready (rs := [16]) (by kernel_rfl) (by simp) ?_
            refine AllReadyH.cons (o := { dst := some 55, op := Op.call { callee := Callee.value (Operand.func 24), args := #[Operand.tmp 54], argTypes := #[69] }, type := 23, pos := "ref.go:340", after := #[{ on := 15, ground := Ground.data }, { on := 4, ground := Ground.chain }], guard := none }) rfl (fun K hK => ?_) AllReadyH.nil
            go_simp
            have zr5039 : RowP wn5038 (fun _ => True) (some ⟨wd5000.heap.size, 0, none⟩) 2 (bv [UInt8.ofNat (LL / 256), UInt8.ofNat LL]) := by
              rw [← HTW.out]; exact RowP.of_row (row_box BX5035_5038.out)
            have FE5039 : flat [⟨A4, n4, c4, lk k⟩, ⟨some ⟨wn5035.heap.size, 0, none⟩, 1, 1, [1]⟩, ⟨A5037, n5037, c5037, CrcM.four va⟩, ⟨some ⟨wd5000.heap.size, 0, none⟩, 2, 2, [UInt8.ofNat (LL / 256), UInt8.ofNat LL]⟩, ⟨Aa, ha.length, ca, ha⟩] = lk (k + 1) := by rw [HLK.out]; simp [flat]
            refine (join_box [⟨A4, n4, c4, lk k⟩, ⟨some ⟨wn5035.heap.size, 0, none⟩, 1, 1, [1]⟩, ⟨A5037, n5037, c5037, CrcM.four va⟩, ⟨some ⟨wd5000.heap.size, 0, none⟩, 2, 2, [UInt8.ofNat (LL / 256), UInt8.ofNat LL]⟩, ⟨Aa, ha.length, ca, ha⟩] 5 rfl rfl BX5038.out (by
              intro r hr
              simp only [List.mem_cons, List.not_mem_nil, or_false] at hr
              rcases hr with rfl | rfl | rfl | rfl | rfl
              · exact HOP.out _ (hH5038)
              · exact RowP.of_row (row_box BX5036_5038.out)
              · exact F5037_5038.out
              · exact zr5039
              · exact HRH.out _ (hH5038)) (by simp) (by rw [FE5039]; have := lkn.out (k + 1) (by omega); omega) (l := lk (k + 1)) FE5039).mono ?_
            rintro e' wn5039 ⟨A5039, n5039, c5039, rfl, hn5039, ho5039, hb5039⟩
            have hbase5039 : w6.heap.size ≤ wn5038.heap.size := (hH5038).size
            clear FE5039 zr5039
            go_simp
            have BX5035_5039 := Lib.hid ((hb5039.block wd5000.heap.size LX5035_5038.out).trans BX5035_5038.out)
            have LX5035_5039 := Lib.hid (Nat.lt_of_lt_of_le LX5035_5038.out hb5039.size)
            have BX5036_5039 := Lib.hid ((hb5039.block wn5035.heap.size LX5036_5038.out).trans BX5036_5038.out)
            have LX5036_5039 := Lib.hid (Nat.lt_of_lt_of_le LX5036_5038.out hb5039.size)
            have F5037_5039 := Lib.hid (F5037_5038.out.below hb5039)
            have BX5038_5039 := Lib.hid ((hb5039.block wn5037.heap.size LX5038.out).trans BX5038.out)
            have LX5038_5039 := Lib.hid (Nat.lt_of_lt_of_le LX5038.out hb5039.size)
            have hS5039 : Below (w6.heap.size) w6 wn5039 := (hH5038).trans (hb5039.mono (hH5038).size)
            refine hK.out _ _ hS5039 (fun hH5039 => ?_)
            have hH5039 : Below (w6.heap.size) w6 wn5039 := hH5039
            clear hK K hS5039
            try simp only [Act.put, List.setIfInBounds_toArray, List.set_cons_zero, List.set_cons_succ]
            refine wpAnyH_take (i := 17) (oi := { dst := some 4, op := Op.assign (Operand.tmp 55), type := 23, pos := "ref.go:340", after := #[{ on := 16, ground := Ground.data }, { on := 16, ground := Ground.chain }, { on := 0, ground := Ground.phase }, { on := 1, ground := Ground.phase }, { on := 2, ground := Ground.phase }, { on := 3, ground := Ground.phase }, { on := 4, ground := Ground.phase }, { on := 5, ground := Ground.phase }, { on := 6, ground := Ground.phase }, { on := 7, ground := Ground.phase }, { on := 8, ground := Ground.phase }, { on := 9, ground := Ground.phase }, { on := 10, ground := Ground.phase }, { on := 11, ground := Ground.phase }, { on := 12, ground := Ground.phase }, { on := 13, ground := Ground.phase }, { on := 14, ground := Ground.phase }, { on := 15, ground := Ground.phase }, { on := 16, ground := Ground.phase }], guard := none }) (v := ?tkv5040) rfl (by kernel_rfl) (by kernel_rfl) (by kernel_rfl) (fun _ _ _ h => h) (Or.inl ⟨by rfl, ?tky5040⟩) hH5039 ?tkr5040
            case tky5040 => (intro w' hSw; clear hSw; go_simp; try with_reducible rfl)
            try simp only [Act.put, List.setIfInBounds_toArray, List.set_cons_zero, List.set_cons_succ]
            refine wpAnyH_done (by kernel_rfl) ?_ _
            refine NoPanic.normal ?_
            have hend := Lib.hid (B0.out.trans ((hH5039).mono B0.out.size))
            have HOW := Lib.hid (own_base ho5039 (show wb.heap.size ≤ _ from Nat.le_trans B0.out.size hbase5039))
            have HLN2 := Lib.hid (hn5039).symm
            go_wp2_with fail
            go_roundw
            case rel => exact ⟨k + 1, _, _, _, by omega, by go_num, rfl, HOW, HLN2, hend⟩
            case measure => simp [intOf]; omega
          · go_simp
            refine (four_any va HV.out wn5035).mono ?_
            rintro e' wn5041 ⟨A5041, n5041, c5041, rfl, hn5041, ho5041, hb5041⟩
            have F5041 := Lib.hid (RowP.of_row (Row.of_own ho5041))
            go_simp
            have BX5035_5041 := Lib.hid ((hb5041.block wd5000.heap.size LX5035.out).trans BX5035.out)
            have LX5035_5041 := Lib.hid (Nat.lt_of_lt_of_le LX5035.out hb5041.size)
            have hS5041 : Below (w6.heap.size) w6 wn5041 := (hH5035).trans (hb5041.mono (hH5035).size)
            refine hK.out _ _ hS5041 (fun hH5041 => ?_)
            have hH5041 : Below (w6.heap.size) w6 wn5041 := hH5041
            clear hK K hS5041
            try simp only [Act.put, List.setIfInBounds_toArray, List.set_cons_zero, List.set_cons_succ]
            refine wpAnyH_ready (rs := [1]) (by kernel_rfl) (by simp) ?_
            refine AllReadyH.cons (o := { dst := some 40, op := Op.buildSlice 23 1 #[(0, Operand.const (Value.int IntKind.u8 1))], type := 23, pos := "ref.go:340", after := #[], guard := none }) rfl (fun K hK => ?_) AllReadyH.nil
            go_simp
            have hb5042 : Below wn5041.heap.size wn5041 (wn5041.alloc (.cells #[.int .u8 1] 5)) := (Below.refl _ _).alloc (Nat.le_refl _) _
            have BX5042 : Hid ((wn5041.alloc (.cells #[.int .u8 1] 5)).heap[wn5041.heap.size]? = some (.cells #[.int .u8 1] 5 (0, 0))) := Lib.hid (heap_alloc_new _ _)
            have LX5042 : Hid (wn5041.heap.size < (wn5041.alloc (.cells #[.int .u8 1] 5)).heap.size) := Lib.hid (by simp)
            generalize (wn5041.alloc (.cells #[.int .u8 1] 5)) = wn5042 at *
            have BX5035_5042 := Lib.hid ((hb5042.block wd5000.heap.size LX5035_5041.out).trans BX5035_5041.out)
            have LX5035_5042 := Lib.hid (Nat.lt_of_lt_of_le LX5035_5041.out hb5042.size)
            have F5041_5042 := Lib.hid (F5041.out.below hb5042)
            have hS5042 : Below (w6.heap.size) w6 wn5042 := (hH5041).trans (hb5042.mono (hH5041).size)
            refine hK.out _ _ hS5042 (fun hH5042 => ?_)
            have hH5042 : Below (w6.heap.size) w6 wn5042 := hH5042
            clear hK K hS5042
            try simp only [Act.put, List.setIfInBounds_toArray, List.set_cons_zero, List.set_cons_succ]
            refine wpAnyH_ready (rs := [15]) (by kernel_rfl) (by simp) ?_
            refine AllReadyH.cons (o := { dst := some 54, op := Op.buildSlice 69 5 #[(0, Operand.tmp 39), (1, Operand.tmp 40), (2, Operand.tmp 43), (3, Operand.tmp 51), (4, Operand.tmp 53)], type := 69, pos := "ref.go:340", after := #[{ on := 0, ground := Ground.data }, { on := 1, ground := Ground.data }, { on := 4, ground := Ground.data }, { on := 12, ground := Ground.data }, { on := 14, ground := Ground.data }], guard := none }) rfl (fun K hK => ?_) AllReadyH.nil
            go_simp
            have hb5043 : Below wn5042.heap.size wn5042 (wn5042.alloc (.cells #[.slice A4 n4 c4, .slice (some ⟨wn5041.heap.size, 0, none⟩) 1 1, .slice A5041 n5041 c5041, .slice (some ⟨wd5000.heap.size, 0, none⟩) 2 2, .slice Aa ha.length ca] 23)) := (Below.refl _ _).alloc (Nat.le_refl _) _
            have BX5043 : Hid ((wn5042.alloc (.cells #[.slice A4 n4 c4, .slice (some ⟨wn5041.heap.size, 0, none⟩) 1 1, .slice A5041 n5041 c5041, .slice (some ⟨wd5000.heap.size, 0, none⟩) 2 2, .slice Aa ha.length ca] 23)).heap[wn5042.heap.size]? = some (.cells #[.slice A4 n4 c4, .slice (some ⟨wn5041.heap.size, 0, none⟩) 1 1, .slice A5041 n5041 c5041, .slice (some ⟨wd5000.heap.size, 0, none⟩) 2 2, .slice Aa ha.length ca] 23 (0, 0))) := Lib.hid (heap_alloc_new _ _)
            have LX5043 : Hid (wn5042.heap.size < (wn5042.alloc (.cells #[.slice A4 n4 c4, .slice (some ⟨wn5041.heap.size, 0, none⟩) 1 1, .slice A5041 n5041 c5041, .slice (some ⟨wd5000.heap.size, 0, none⟩) 2 2, .slice Aa ha.length ca] 23)).heap.size) := Lib.hid (by simp)
            generalize (wn5042.alloc (.cells #[.slice A4 n4 c4, .slice (some ⟨wn5041.heap.size, 0, none⟩) 1 1, .slice A5041 n5041 c5041, .slice (some ⟨wd5000.heap.size, 0, none⟩) 2 2, .slice Aa ha.length ca] 23)) = wn5043 at *
            have BX5035_5043 := Lib.hid ((hb5043.block wd5000.heap.size LX5035_5042.out).trans BX5035_5042.out)
            have LX5035_5043 := Lib.hid (Nat.lt_of_lt_of_le LX5035_5042.out hb5043.size)
            have F5041_5043 := Lib.hid (F5041_5042.out.below hb5043)
            have BX5042_5043 := Lib.hid ((hb5043.block wn5041.heap.size LX5042.out).trans BX5042.out)
            have LX5042_5043 := Lib.hid (Nat.lt_of_lt_of_le LX5042.out hb5043.size)
            have hS5043 : Below (w6.heap.size) w6 wn5043 := (hH5042).trans (hb5043.mono (hH5042).size)
            refine hK.out _ _ hS5043 (fun hH5043 => ?_)
            have hH5043 : Below (w6.heap.size) w6 wn5043 := hH5043
            clear hK K hS5043
            try simp only [Act.put, List.setIfInBounds_toArray, List.set_cons_zero, List.set_cons_succ]
            refine wpAnyH_ready (rs := [16]) (by kernel_rfl) (by simp) ?_
            refine AllReadyH.cons (o := { dst := some 55, op := Op.call { callee := Callee.value (Operand.func 24), args := #[Operand.tmp 54], argTypes := #[69] }, type := 23, pos := "ref.go:340", after := #[{ on := 15, ground := Ground.data }, { on := 4, ground := Ground.chain }], guard := none }) rfl (fun K hK => ?_) AllReadyH.nil
            go_simp
            have zr5044 : RowP wn5043 (fun _ => True) (some ⟨wd5000.heap.size, 0, none⟩) 2 (bv [UInt8.ofNat (LL / 256), UInt8.ofNat LL]) := by
              rw [← HTW.out]; exact RowP.of_row (row_box BX5035_5043.out)
            have FE5044 : flat [⟨A4, n4, c4, lk k⟩, ⟨some ⟨wn5041.heap.size, 0, none⟩, 1, 1, [1]⟩, ⟨A5041, n5041, c5041, CrcM.four va⟩, ⟨some ⟨wd5000.heap.size, 0, none⟩, 2, 2, [UInt8.ofNat (LL / 256), UInt8.ofNat LL]⟩, ⟨Aa, ha.length, ca, ha⟩] = lk (k + 1) := by rw [HLK.out]; simp [flat]
            refine (join_box [⟨A4, n4, c4, lk k⟩, ⟨some ⟨wn5041.heap.size, 0, none⟩, 1, 1, [1]⟩, ⟨A5041, n5041, c5041, CrcM.four va⟩, ⟨some ⟨wd5000.heap.size, 0, none⟩, 2, 2, [UInt8.ofNat (LL / 256), UInt8.ofNat LL]⟩, ⟨Aa, ha.length, ca, ha⟩] 5 rfl rfl BX5043.out (by
              intro r hr
              simp only [List.mem_cons, List.not_mem_nil, or_false] at hr
              rcases hr with rfl | rfl | rfl | rfl | rfl
              · exact HOP.out _ (hH5043)
              · exact RowP.of_row (row_box BX5042_5043.out)
              · exact F5041_5043.out
              · exact zr5044
              · exact HRH.out _ (hH5043)) (by simp) (by rw [FE5044]; have := lkn.out (k + 1) (by omega); omega) (l := lk (k + 1)) FE5044).mono ?_
            rintro e' wn5044 ⟨A5044, n5044, c5044, rfl, hn5044, ho5044, hb5044⟩
            have hbase5044 : w6.heap.size ≤ wn5043.heap.size := (hH5043).size
            clear FE5044 zr5044
            go_simp
            have BX5035_5044 := Lib.hid ((hb5044.block wd5000.heap.size LX5035_5043.out).trans BX5035_5043.out)
            have LX5035_5044 := Lib.hid (Nat.lt_of_lt_of_le LX5035_5043.out hb5044.size)
            have F5041_5044 := Lib.hid (F5041_5043.out.below hb5044)
            have BX5042_5044 := Lib.hid ((hb5044.block wn5041.heap.size LX5042_5043.out).trans BX5042_5043.out)
            have LX5042_5044 := Lib.hid (Nat.lt_of_lt_of_le LX5042_5043.out hb5044.size)
            have BX5043_5044 := Lib.hid ((hb5044.block wn5042.heap.size LX5043.out).trans BX5043.out)
            have LX5043_5044 := Lib.hid (Nat.lt_of_lt_of_le LX5043.out hb5044.size)
            have hS5044 : Below (w6.heap.size) w6 wn5044 := (hH5043).trans (hb5044.mono (hH5043).size)
            refine hK.out _ _ hS5044 (fun hH5044 => ?_)
            have hH5044 : Below (w6.heap.size) w6 wn5044 := hH5044
            clear hK K hS5044
            try simp only [Act.put, List.setIfInBounds_toArray, List.set_cons_zero, List.set_cons_succ]
            refine wpAnyH_take (i := 17) (oi := { dst := some 4, op := Op.assign (Operand.tmp 55), type := 23, pos := "ref.go:340", after := #[{ on := 16, ground := Ground.data }, { on := 16, ground := Ground.chain }, { on := 0, ground := Ground.phase }, { on := 1, ground := Ground.phase }, { on := 2, ground := Ground.phase }, { on := 3, ground := Ground.phase }, { on := 4, ground := Ground.phase }, { on := 5, ground := Ground.phase }, { on := 6, ground := Ground.phase }, { on := 7, ground := Ground.phase }, { on := 8, ground := Ground.phase }, { on := 9, ground := Ground.phase }, { on := 10, ground := Ground.phase }, { on := 11, ground := Ground.phase }, { on := 12, ground := Ground.phase }, { on := 13, ground := Ground.phase }, { on := 14, ground := Ground.phase }, { on := 15, ground := Ground.phase }, { on := 16, ground := Ground.phase }], guard := none }) (v := ?tkv5045) rfl (by kernel_rfl) (by kernel_rfl) (by kernel_rfl) (fun _ _ _ h => h) (Or.inl ⟨by rfl, ?tky5045⟩) hH5044 ?tkr5045
            case tky5045 => (intro w' hSw; clear hSw; go_simp; try with_reducible rfl)
            try simp only [Act.put, List.setIfInBounds_toArray, List.set_cons_zero, List.set_cons_succ]
            refine wpAnyH_done (by kernel_rfl) ?_ _
            refine NoPanic.normal ?_
            have hend := Lib.hid (B0.out.trans ((hH5044).mono B0.out.size))
            have HOW := Lib.hid (own_base ho5044 (show wb.heap.size ≤ _ from Nat.le_trans B0.out.size hbase5044))
            have HLN2 := Lib.hid (hn5044).symm
            go_wp2_with fail
            go_roundw
            case rel => exact ⟨k + 1, _, _, _, by omega, by go_num, rfl, HOW, HLN2, hend⟩
            case measure => simp [intOf]; omega
    · -- behind the slots
      obtain rfl : k = 2 := by omega
      have k10 := cell_of_row _ w.heap.size 10 _ _ (0, 0) (HCL.out _ HB.out)
      have hn : n4 ≤ 1000 := HN.out
      cases on with
      | false =>
        have e : ((⟨(act : Int), (tr : Int), flo, gen, v0, l0, h0, v1, l1, h1, false, m⟩ : LSt)).bytes = lk 2 ++ [0] := by rw [LK1.out, LK0.out, LKP.out]; rfl
        go_wp2_with (at_builtin; go_loud (refine wpList_app rfl (.tmp 60) (.tmp 61) 23 rfl wb.heap.size 5 i0 (.int .u8 0) 1 Try.underlying23 hi hz0 hz1 hz2 rfl _ n4 (bv (lk 2)) rfl (HO.out.alloc _) _ _ 1 1 _ rfl (row_new wr _ _ _) (by intro u hu; simp at hu; subst hu; rfl) (by unfold maxLen; omega) (by omega) (by have := HB.out.size; simp; omega) ?_; intro v6 w6 hown6 hg6 hat6))
        obtain ⟨A6, c6, rfl, _⟩ := own_slice hown6
        have HW6 := Lib.hid (below_app (HB.out.alloc HB.out.size _) (by have := HB.out.size; simp; omega) (HO.out.alloc _) (Nat.le_refl _) hg6)
        go_ret2
        refine ⟨A6, n4 + 1, c6, rfl, Lib.hid ?_, Lib.hid ?_, Lib.hid (B1.out.trans (HW6.out.mono B1.out.size))⟩
        · rw [← HBY.out, e, List.length_append, HLN.out]; rfl
        · rw [← HBY.out, e, bv_append]
          exact own_base hown6 B1.out.size
      | true =>
        have hmo : m.ok := HOK.out.2.2.2.2.2.2.2.2
        obtain ⟨ms, mv, ml, mz, mp, mh⟩ := m
        obtain ⟨Lm, Zm, Pm, rfl, rfl, rfl, b1, b2, b3, b4, b5, b6⟩ := man_bounds hmo.1
        simp only at b6
        have HPB : Hid (plainB ms mv Lm Zm Pm mh = (⟨ms, mv, (Lm : Int), (Zm : Int), (Pm : Int), mh⟩ : LMan).bytes) := Lib.hid (by unfold LMan.bytes; simp)
        have e : ((⟨(act : Int), (tr : Int), flo, gen, v0, l0, h0, v1, l1, h1, true, (⟨ms, mv, (Lm : Int), (Zm : Int), (Pm : Int), mh⟩ : LMan)⟩ : LSt)).bytes = lk 2 ++ [1] ++ plainB ms mv Lm Zm Pm mh := by rw [HPB.out, LK1.out, LK0.out, LKP.out]; unfold LSt.bytes LSt.s0 LSt.s1; simp
        have HE := Lib.hid e
        have hlp : (plainB ms mv Lm Zm Pm mh).length = 44 := by rw [HPB.out, bytes_len, b6]
        have HPN := Lib.hid hlp
        have RM : Hid (Row wr wb.heap.size A 32 (bv mh)) := Lib.hid (by have := R.out.below HB.out; rw [b6] at this; exact this)
        have HMB : Hid (manB (Lm : Int) (Zm : Int) (Pm : Int) 32 = true) := Lib.hid (by have := hmo.1; unfold LMan.may at this; rw [b6] at this; exact this)
        have HB6 := Lib.hid b6
        have HSV : Hid (ms < 4294967296 ∧ mv < 4294967296 ∧ Lm ≤ 512 ∧ Zm ≤ 16 ∧ Pm ≤ 16) := Lib.hid ⟨hmo.2.1, hmo.2.2, b2, b4, b5⟩
        clear e hlp hmo b1 b2 b3 b4 b5
        have HRM : Hid (World.rangeAt wr w.heap.size 11 [.int .u32 (ms : Int), .int .u32 (mv : Int), .int .i64 (Lm : Int), .int .i64 (Zm : Int), .int .i64 (Pm : Int), .slice A mh.length c]) := Lib.hid fun j v hv => by
          rw [cell_of_row _ w.heap.size (11 + j) _ _ (0, 0) (HCL.out _ HB.out)]
          match j, hv with
          | 0, hv => exact hv
          | 1, hv => exact hv
          | 2, hv => exact hv
          | 3, hv => exact hv
          | 4, hv => exact hv
          | 5, hv => exact hv
          | j + 6, hv => simp at hv
        rw [HB6.out] at HRM
        go_wp2_with ((with_reducible show wpList _ _ _ _ _ _); refine wpList_load_mid rfl _ (.tmp 64) rfl w.heap.size 11 rfl _ _ HRM.out Try.underlying28 rfl (by kernel_rfl) ?_)
        refine (rplain_yes ms mv Lm Zm Pm A c mh wr HSV.out.1 HSV.out.2.1 HSV.out.2.2.1 HSV.out.2.2.2.1 HSV.out.2.2.2.2 HMB.out (RM.out.more HB.out.size)).mono ?_
        rintro e w5 ⟨A5, n5, c5, rfl, hn5, O5, hb5⟩
        have OW5 := Lib.hid (own_below HO.out hb5.out)
        have HB5 := Lib.hid (HB.out.trans (hb5.out.mono HB.out.size))
        have RP5 := Lib.hid (RowP.of_row (Row.of_own O5.out))
        clear HRM RM k10 hb5 O5 hn5
        go_wp2_with fail
        have RQ5 : Hid (RowP (w5.alloc (.cells #[.int .u8 1] 5)) (fun _ => True) A5 n5 (bv (plainB ms mv Lm Zm Pm mh))) := Lib.hid (RP5.out.below ((Below.refl _ _).alloc (Nat.le_refl _) _))
        have RQ4 : Hid (RowP (w5.alloc (.cells #[.int .u8 1] 5)) (fun _ => True) A4 n4 (bv (lk 2))) := Lib.hid ((RowP.of_row (Row.of_own OW5.out)).below ((Below.refl _ _).alloc (Nat.le_refl _) _))
        have RQ1 : Hid (RowP (w5.alloc (.cells #[.int .u8 1] 5)) (fun _ => True) (some ⟨w5.heap.size, 0, none⟩) 1 (bv [1])) := Lib.hid (RowP.of_row (row_box (heap_alloc_new w5 (.cells #[.int .u8 1] 5))))
        have BQ : Hid (Below wb.heap.size wb (w5.alloc (.cells #[.int .u8 1] 5))) := Lib.hid (HB5.out.alloc HB5.out.size _)
        have SQ : (w5.alloc (.cells #[.int .u8 1] 5)).heap.size = w5.heap.size + 1 := by simp
        have FE : flat [⟨A4, n4, c4, lk 2⟩, ⟨some ⟨w5.heap.size, 0, none⟩, 1, 1, [1]⟩, ⟨A5, n5, c5, plainB ms mv Lm Zm Pm mh⟩] = BY := by rw [← HBY.out, HE.out]; simp [flat]
        refine (join_box [⟨A4, n4, c4, lk 2⟩, ⟨some ⟨w5.heap.size, 0, none⟩, 1, 1, [1]⟩, ⟨A5, n5, c5, plainB ms mv Lm Zm Pm mh⟩] 3 rfl rfl (by first | exact heap_alloc_new _ _ | (rw [← SQ]; exact heap_alloc_new _ _)) (by
          intro r hr
          simp only [List.mem_cons, List.not_mem_nil, or_false] at hr
          rcases hr with rfl | rfl | rfl
          · exact RQ4.out.below ((Below.refl _ _).alloc (Nat.le_refl _) _)
          · exact RQ1.out.below ((Below.refl _ _).alloc (Nat.le_refl _) _)
          · exact RQ5.out.below ((Below.refl _ _).alloc (Nat.le_refl _) _)) (by simp) (by have := HLN.out; have := HPN.out; simp [flat]; omega) (l := BY) FE).mono ?_
        rintro e w7 ⟨A7, n7, c7, rfl, hn7, ho7, hb7⟩
        have bq := BQ.out.alloc BQ.out.size (.cells #[.slice A4 n4 c4, .slice (some ⟨w5.heap.size, 0, none⟩) 1 1, .slice A5 n5 c5] 23)
        have HW7 := Lib.hid (bq.trans (hb7.mono bq.size))
        have HO7 := Lib.hid (own_base ho7 (Nat.le_trans B1.out.size bq.size))
        have HN7 := Lib.hid hn7
        clear ho7 hb7 hn7 bq FE
        go_wp2_with fail
        go_ret2
        exact ⟨A7, n7, c7, rfl, HN7, HO7, Lib.hid (B1.out.trans (HW7.out.mono B1.out.size))⟩
theorem rbytesS_yes {cs : Array Value} {L : LSt} {w : World} {P : Nat → Prop} (h : IsSt w P cs L) (hm : L.may = true) (hw : L.w32) :
    Calls Try.prog 8 #[.agg cs] w (BytesOk L.bytes w) := by
  obtain ⟨A0, c0, A1, c1, A, c, rfl, r0, r1, r2⟩ := h
  obtain ⟨hok, ha, ht1, ht2⟩ := may_ok hm hw
  obtain ⟨act, trial, flo, gen, v0, l0, h0, v1, l1, h1, on, m⟩ := L
  simp only at ha ht1 ht2
  obtain ⟨a, rfl⟩ : ∃ a : Nat, act = a := ⟨act.toNat, by omega⟩
  obtain ⟨tr, rfl⟩ : ∃ a : Nat, trial = a := ⟨trial.toNat, by omega⟩
  exact rbytesS_ex a tr flo gen v0 v1 l0 l1 h0 h1 on m A0 A1 A c0 c1 c w hm hw r0.row r1.row r2.row
end Go.Proofs.Ytdipccjgpkedhaa
