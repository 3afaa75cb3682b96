/- SessionRises, by cases. -/
import Derived.Test.YtnbpjajgfpdddaaSesRH
namespace Go.Proofs.Ytnbpjajgfpdddaa
open Go.RowKit
set_option maxRecDepth 100000 in
set_option maxHeartbeats 3200000 in
theorem rises_c (act trial : Int) (flo gen v0 : Nat) (l0 : Int) (A0 : Option Addr) (n0 c0 : Nat) (v1 : Nat) (l1 : Int) (A1 : Option Addr) (n1 c1 : Nat) (on : Bool) (s v : Nat) (l z p : Int) (A : Option Addr) (n c : Nat) (h0 h1 h : List UInt8) (ver more : Nat) (w : World) (hh : n0 ≤ 100 ∧ n1 ≤ 100 ∧ n ≤ 100) (hmay : (mayB2 act trial v0 l0 h0 v1 l1 h1 on s v l z p h) = true) (hl0 : Row w w.heap.size A0 n0 (bv h0)) (hl1 : Row w w.heap.size A1 n1 (bv h1)) (hl : Row w w.heap.size A n (bv h)) :
    Calls Try.prog 12 #[.agg #[.int .i64 act, .int .i64 trial, .int .u32 (flo : Int), .int .u32 (gen : Int), .int .u32 (v0 : Int), .int .i64 l0, .slice A0 n0 c0, .int .u32 (v1 : Int), .int .i64 l1, .slice A1 n1 c1, .bool on, .int .u32 (s : Int), .int .u32 (v : Int), .int .i64 l, .int .i64 z, .int .i64 p, .slice A n c], .int .u32 (ver : Int), .int .u32 (more : Int)] w fun e w' => e = .returned (.bool true) ∧ Below w.heap.size w w' := by
  have hb : Below w.heap.size w (w.alloc (.cells #[.int .i64 act, .int .i64 trial, .int .u32 (flo : Int), .int .u32 (gen : Int), .int .u32 (v0 : Int), .int .i64 l0, .slice A0 n0 c0, .int .u32 (v1 : Int), .int .i64 l1, .slice A1 n1 c1, .bool on, .int .u32 (s : Int), .int .u32 (v : Int), .int .i64 l, .int .i64 z, .int .i64 p, .slice A n c] 30)) := (Below.refl _ _).alloc (Nat.le_refl _) _
  have HB := Lib.hid hb
  have X0 := Lib.hid (heap_alloc_new w (.cells #[.int .i64 act, .int .i64 trial, .int .u32 (flo : Int), .int .u32 (gen : Int), .int .u32 (v0 : Int), .int .i64 l0, .slice A0 n0 c0, .int .u32 (v1 : Int), .int .i64 l1, .slice A1 n1 c1, .bool on, .int .u32 (s : Int), .int .u32 (v : Int), .int .i64 l, .int .i64 z, .int .i64 p, .slice A n c] 30))
  have HL0 := Lib.hid hl0
  have HL1 := Lib.hid hl1
  have HL := Lib.hid hl
  clear hl0 hl1 hl hb
  have HMAY := Lib.hid hmay
  have HM2 := Lib.hid (may_less hmay)
  have HACT := Lib.hid (may_act_of act trial flo gen v0 l0 A0 n0 c0 v1 l1 A1 n1 c1 on s v l z p A n c w.heap.size h0 h1 h hmay)
  clear hmay
  go_enter Try.func12, Try.ntmps12
  go_wp2_with fail
  refine (heavy_no act trial flo gen v0 l0 A0 n0 c0 v1 l1 A1 n1 c1 on s v l z p A n c _ hh.1 hh.2.1 hh.2.2).mono ?_
  rintro e w1 ⟨rfl, hb1⟩
  have HB1 : Hid (Below w.heap.size w w1) := HB.out.trans (hb1.mono HB.out.size)
  have X1 := Lib.hid ((hb1.block w.heap.size (Array.getElem?_eq_some_iff.1 X0.out).1).trans X0.out)
  clear hb1 X0
  go_wp2_with ((with_reducible show wpList _ _ _ _ _ _); refine wpList_load_rowG (o := ⟨some 14, _, _, _, _, _⟩) (by rfl) _ (.tmp 3) rfl w.heap.size rfl _ _ _ _ X1.out Try.underlying30 rfl (by kernel_rfl) ?_)
  refine (may_any act trial flo gen v0 l0 A0 n0 c0 v1 l1 A1 n1 c1 on s v l z p A n c w.heap.size h0 h1 h w1 (HL0.out.below HB1.out) (HL1.out.below HB1.out) (HL.out.below HB1.out) HB1.out.size).mono ?_
  rintro e w2 ⟨rfl, hb2⟩
  rw [HMAY.out]
  have HB2 : Hid (Below w.heap.size w w2) := HB1.out.trans (hb2.mono HB1.out.size)
  have X2 := Lib.hid ((hb2.block w.heap.size (Array.getElem?_eq_some_iff.1 X1.out).1).trans X1.out)
  clear hb2 X1
  go_upto_region 5 with ((with_reducible show wpList _ _ _ _ _ _); refine wpList_load_row (o := ⟨some 25, _, _, _, _, _⟩) rfl _ (.tmp 3) rfl w.heap.size rfl _ _ _ _ X2.out Try.underlying30 rfl (by kernel_rfl) ?_)
  have hbA : Below w2.heap.size w2 (w2.alloc (.cells #[.int .i64 act, .int .i64 trial, .int .u32 (flo : Int), .int .u32 (gen : Int), .int .u32 (v0 : Int), .int .i64 l0, .slice A0 n0 c0, .int .u32 (v1 : Int), .int .i64 l1, .slice A1 n1 c1, .bool false, .int .u32 0, .int .u32 0, .int .i64 0, .int .i64 0, .int .i64 0, .slice none 0 0] 30)) := (Below.refl _ _).alloc (Nat.le_refl _) _
  have HBA : Hid (Below w.heap.size w (w2.alloc (.cells #[.int .i64 act, .int .i64 trial, .int .u32 (flo : Int), .int .u32 (gen : Int), .int .u32 (v0 : Int), .int .i64 l0, .slice A0 n0 c0, .int .u32 (v1 : Int), .int .i64 l1, .slice A1 n1 c1, .bool false, .int .u32 0, .int .u32 0, .int .i64 0, .int .i64 0, .int .i64 0, .slice none 0 0] 30))) := Lib.hid (HB2.out.trans (hbA.mono HB2.out.size))
  have XA := Lib.hid ((hbA.block w.heap.size (Array.getElem?_eq_some_iff.1 X2.out).1).trans X2.out)
  have XT := Lib.hid (heap_alloc_new w2 (.cells #[.int .i64 act, .int .i64 trial, .int .u32 (flo : Int), .int .u32 (gen : Int), .int .u32 (v0 : Int), .int .i64 l0, .slice A0 n0 c0, .int .u32 (v1 : Int), .int .i64 l1, .slice A1 n1 c1, .bool false, .int .u32 0, .int .u32 0, .int .i64 0, .int .i64 0, .int .i64 0, .slice none 0 0] 30))
  have LWA : Hid (w.heap.size ≤ (w2.alloc (.cells #[.int .i64 act, .int .i64 trial, .int .u32 (flo : Int), .int .u32 (gen : Int), .int .u32 (v0 : Int), .int .i64 l0, .slice A0 n0 c0, .int .u32 (v1 : Int), .int .i64 l1, .slice A1 n1 c1, .bool false, .int .u32 0, .int .u32 0, .int .i64 0, .int .i64 0, .int .i64 0, .slice none 0 0] 30)).heap.size) := Lib.hid HBA.out.size
  clear hbA X2 HB2
  generalize w2.alloc (.cells #[.int .i64 act, .int .i64 trial, .int .u32 (flo : Int), .int .u32 (gen : Int), .int .u32 (v0 : Int), .int .i64 l0, .slice A0 n0 c0, .int .u32 (v1 : Int), .int .i64 l1, .slice A1 n1 c1, .bool false, .int .u32 0, .int .u32 0, .int .i64 0, .int .i64 0, .int .i64 0, .slice none 0 0] 30) = wA at *
  go_cut [8, 9] (fun s8 s9 wx => ∃ lo hi : Nat, s8 = .int .u32 (lo : Int) ∧ s9 = .int .u32 (hi : Int) ∧ lo ≤ hi ∧ wx = wA)
  case first =>
    rcases Nat.lt_trichotomy ver more with hc | hc | hc
    · have hc1 : (ver : Int) < (more : Int) := by omega
      have hc2 : ¬ (more : Int) < (ver : Int) := by omega
      have hc3 : ¬ more < ver := by omega
      go_wp2_with fail
      go_meet
      exact ⟨ver, more, rfl, rfl, by omega, rfl⟩
    · subst hc
      go_wp2_with fail
      go_meet
      exact ⟨ver, ver, rfl, rfl, Nat.le_refl _, rfl⟩
    · have hc1 : (more : Int) < (ver : Int) := by omega
      have hc2 : ¬ (ver : Int) < (more : Int) := by omega
      have hc3 : ¬ ver < more := by omega
      go_wp2_with fail
      go_meet
      exact ⟨more, ver, rfl, rfl, by omega, rfl⟩
  case rest =>
    obtain ⟨lo, hi, rfl, rfl, hle, rfl⟩ := hcut
    obtain ⟨wA, rfl⟩ : ∃ x : World, x = wc := ⟨_, rfl⟩
    obtain ⟨b1, hb1⟩ : ∃ b, newB (mayB2 act trial v0 l0 h0 v1 l1 h1 on s v l z p h) act flo v0 v1 on v lo = b := ⟨_, rfl⟩
    have HUP : Hid (b1 = true → newB (mayB2 act trial v0 l0 h0 v1 l1 h1 on s v l z p h) act flo v0 v1 on v hi = true ∧ newB (mayB2 act trial v0 l0 h0 v1 l1 h1 false 0 0 0 0 0 []) act flo v0 v1 false 0 lo = true) := Lib.hid (fun h => newB_up (hb1.trans h) hle HM2.out)
    have H1 := Lib.hid hb1
    clear hb1 hle
    go_upto_region 6 with fail
    go_cut [49] (fun s49 wx => s49 = .bool false ∧ Hid (Below wA.heap.size wA wx))
    case first =>
      go_wp2_with ((with_reducible show wpList _ _ _ _ _ _); refine wpList_load_row (o := ⟨some 35, _, _, _, _, _⟩) rfl _ (.tmp 3) rfl w.heap.size rfl _ _ _ _ XA.out Try.underlying30 rfl (by kernel_rfl) ?_)
      refine (newer_any act trial flo gen v0 l0 A0 n0 c0 v1 l1 A1 n1 c1 on s v l z p A n c w.heap.size h0 h1 h lo wA (HL0.out.below HBA.out) (HL1.out.below HBA.out) (HL.out.below HBA.out) HBA.out.size).mono ?_
      rintro e w3 ⟨rfl, hb3⟩
      rw [H1.out]
      have XA3 := Lib.hid ((hb3.block w.heap.size (Array.getElem?_eq_some_iff.1 XA.out).1).trans XA.out)
      have XT3 := Lib.hid ((hb3.block w2.heap.size (Array.getElem?_eq_some_iff.1 XT.out).1).trans XT.out)
      have HC3 : Hid (Below wA.heap.size wA w3) := Lib.hid hb3
      have HBR : Hid (Below w.heap.size w w3) := Lib.hid (HBA.out.trans (hb3.mono HBA.out.size))
      clear hb3
      cases b1 with
      | false =>
        go_wp2_with fail
        go_meet
        exact ⟨rfl, HC3⟩
      | true =>
        obtain ⟨k2, k3⟩ := HUP.out rfl
        have K2 := Lib.hid k2
        have K3 := Lib.hid k3
        clear k2 k3
        go_wp2_with ((with_reducible show wpList _ _ _ _ _ _); refine wpList_load_rowG (o := ⟨some 39, _, _, _, _, _⟩) (by rfl) _ (.tmp 3) rfl w.heap.size rfl _ _ _ _ XA3.out Try.underlying30 rfl (by kernel_rfl) ?_)
        refine (newer_any act trial flo gen v0 l0 A0 n0 c0 v1 l1 A1 n1 c1 on s v l z p A n c w.heap.size h0 h1 h hi w3 (HL0.out.below HBR.out) (HL1.out.below HBR.out) (HL.out.below HBR.out) HBR.out.size).mono ?_
        rintro e w4 ⟨rfl, hb4⟩
        rw [K2.out]
        have XT4 := Lib.hid ((hb4.block w2.heap.size (Array.getElem?_eq_some_iff.1 XT3.out).1).trans XT3.out)
        have HC4 : Hid (Below wA.heap.size wA w4) := Lib.hid (HC3.out.trans (hb4.mono HC3.out.size))
        have HBQ : Hid (Below w.heap.size w w4) := Lib.hid (HBR.out.trans (hb4.mono HBR.out.size))
        clear hb4
        go_wp2_with ((with_reducible show wpList _ _ _ _ _ _); refine wpList_load_rowG (o := ⟨some 44, _, _, _, _, _⟩) (by rfl) _ (.tmp 7) rfl w2.heap.size rfl _ _ _ _ XT4.out Try.underlying30 rfl (by kernel_rfl) ?_)
        refine (newer_any act trial flo gen v0 l0 A0 n0 c0 v1 l1 A1 n1 c1 false 0 0 0 0 0 none 0 0 w.heap.size h0 h1 [] lo w4 (HL0.out.below HBQ.out) (HL1.out.below HBQ.out) (Row.nil _ _ _) HBQ.out.size).mono ?_
        rintro e w5 ⟨rfl, hb5⟩
        rw [K3.out]
        have HC5 : Hid (Below wA.heap.size wA w5) := Lib.hid (HC4.out.trans (hb5.mono HC4.out.size))
        clear hb5
        go_wp2_with fail
        go_meet
        exact ⟨rfl, HC5⟩
    case rest =>
      obtain ⟨rfl, hbx⟩ := hcut
      have X8 := Lib.hid ((hbx.out.block w.heap.size (Array.getElem?_eq_some_iff.1 XA.out).1).trans XA.out)
      have HB8 : Hid (Below w.heap.size w wc) := Lib.hid (HBA.out.trans (hbx.out.mono HBA.out.size))
      obtain ⟨wB, rfl⟩ : ∃ x : World, x = wc := ⟨_, rfl⟩
      clear XA XT HBA LWA H1 HUP hbx
      go_upto_region 8 with fail
      have L8 := Lib.hid (Array.getElem?_eq_some_iff.1 X8.out).1
      clear HMAY HM2 HB1
      rcases HACT.out with rfl | rfl
      all_goals clear HACT
      · have F2 : Hid (∀ W, Below wB.heap.size wB W → W.cell? ⟨w.heap.size, 2, none⟩ = some (.int .u32 (flo : Int))) := Lib.hid (fun W h => by rw [cell_of_row W _ 2 _ _ (0, 0) ((h.block w.heap.size L8.out).trans X8.out)]; rfl)
        have F0 : Hid (∀ W, Below wB.heap.size wB W → W.cell? ⟨w.heap.size, 0, none⟩ = some (.int .i64 0)) := Lib.hid (fun W h => by rw [cell_of_row W _ 0 _ _ (0, 0) ((h.block w.heap.size L8.out).trans X8.out)]; rfl)
        have FA : Hid (∀ W, Below wB.heap.size wB W → W.cell? ⟨w.heap.size, 4, none⟩ = some (.int .u32 (v0 : Int))) := Lib.hid (fun W h => by rw [cell_of_row W _ 4 _ _ (0, 0) ((h.block w.heap.size L8.out).trans X8.out)]; rfl)
        refine wp_region_noPanic ?_
        refine wp_region_held_drew (S := (fun W => Below wB.heap.size wB W)) (by kernel_rfl) (Below.refl _ _).drew (fun hH0 => ?_)
        have hH0 : (fun W => Below wB.heap.size wB W) wB.drew := hH0
        generalize wB.drew = wd at *
        refine wpAnyH_take (i := 1) (oi := { dst := some 51, op := Op.fieldAddr 30 (Operand.tmp 3) 2, type := 0, pos := "more.go:40", after := #[], guard := none }) (v := ?tkv3001) rfl (by kernel_rfl) (by kernel_rfl) (by kernel_rfl) (fun _ _ _ h => h) (Or.inl ⟨by rfl, ?tky3001⟩) hH0 ?tkr3001
        case tky3001 => (intro w' hSw; clear hSw; go_simp; try with_reducible rfl)
        try simp only [Act.put, List.setIfInBounds_toArray, List.set_cons_zero, List.set_cons_succ]
        refine wpAnyH_take (i := 2) (oi := { dst := some 52, op := Op.load 22 (Operand.tmp 51), type := 22, pos := "more.go:40", after := #[{ on := 1, ground := Ground.data }], guard := none }) (v := ?tkv3002) rfl (by kernel_rfl) (by kernel_rfl) (by kernel_rfl) (fun _ _ _ h => h) (Or.inl ⟨by rfl, ?tky3002⟩) hH0 ?tkr3002
        case tky3002 => (intro w' hSw; have z0 := F2.out _ hSw; have z1 := F0.out _ hSw; have z2 := FA.out _ hSw; clear hSw; go_simp; try with_reducible rfl)
        try simp only [Act.put, List.setIfInBounds_toArray, List.set_cons_zero, List.set_cons_succ]
        refine wpAnyH_ready (rs := [0]) (by kernel_rfl) (by simp) ?_
        refine AllReadyH.cons (o := { dst := some 50, op := Op.load 30 (Operand.tmp 3), type := 30, pos := "more.go:40", after := #[], guard := none }) rfl (fun K hK => ?_) AllReadyH.nil
        rw [if_pos (by rfl)]
        have tb3003 := ((hH0).block w.heap.size L8.out).trans X8.out
        refine wp_load_row _ _ rfl w.heap.size rfl _ _ _ _ tb3003 Try.underlying30 rfl (by kernel_rfl) ?_
        clear tb3003
        have hS3003 : (fun W => Below wB.heap.size wB W) wd := hH0
        refine hK.out _ _ hS3003 (fun hH3003 => ?_)
        clear hK K
        try simp only [Act.put, List.setIfInBounds_toArray, List.set_cons_zero, List.set_cons_succ]
        refine wpAnyH_ready (rs := [3]) (by kernel_rfl) (by simp) ?_
        refine AllReadyH.cons (o := { dst := some 53, op := Op.call { callee := Callee.value (Operand.func 26), args := #[Operand.tmp 50, Operand.tmp 52], argTypes := #[30, 22] }, type := 4, pos := "more.go:40", after := #[{ on := 0, ground := Ground.data }, { on := 2, ground := Ground.data }], guard := none }) rfl (fun K hK => ?_) AllReadyH.nil
        go_simp
        have hBc := HB8.out.trans ((hH3003).mono HB8.out.size)
        refine (newer_any 0 trial flo gen v0 l0 A0 n0 c0 v1 l1 A1 n1 c1 on s v l z p A n c w.heap.size h0 h1 h flo wd (HL0.out.below hBc) (HL1.out.below hBc) (HL.out.below hBc) hBc.size).mono ?_
        rintro e' wn3004 ⟨rfl, hb3004⟩
        rw [newB_flo]
        clear hBc
        go_simp
        have hS3004 : (fun W => Below wB.heap.size wB W) wn3004 := (hH3003).trans (hb3004.mono (hH3003).size)
        refine hK.out _ _ hS3004 (fun hH3004 => ?_)
        clear hK K
        try simp only [Act.put, List.setIfInBounds_toArray, List.set_cons_zero, List.set_cons_succ]
        refine wpAnyH_take (i := 4) (oi := { dst := some 54, op := Op.unOp UnOp.not 4 (Operand.tmp 53), type := 4, pos := "more.go:40", after := #[{ on := 3, ground := Ground.data }], guard := none }) (v := ?tkv3005) rfl (by kernel_rfl) (by kernel_rfl) (by kernel_rfl) (fun _ _ _ h => h) (Or.inl ⟨by rfl, ?tky3005⟩) hH3004 ?tkr3005
        case tky3005 => (intro w' hSw; clear hSw; go_simp; try with_reducible rfl)
        try simp only [Act.put, List.setIfInBounds_toArray, List.set_cons_zero, List.set_cons_succ]
        refine wpAnyH_take (i := 5) (oi := { dst := some 55, op := Op.move (Operand.tmp 54), type := 4, pos := "more.go:40", after := #[{ on := 4, ground := Ground.data }, { on := 3, ground := Ground.chain }], guard := none }) (v := ?tkv3006) rfl (by kernel_rfl) (by kernel_rfl) (by kernel_rfl) (fun _ _ _ h => h) (Or.inl ⟨by rfl, ?tky3006⟩) hH3004 ?tkr3006
        case tky3006 => (intro w' hSw; clear hSw; go_simp; try with_reducible rfl)
        try simp only [Act.put, List.setIfInBounds_toArray, List.set_cons_zero, List.set_cons_succ]
        refine wpAnyH_take (i := 7) (oi := { dst := some 57, op := Op.fieldAddr 30 (Operand.tmp 3) 0, type := 0, pos := "more.go:40", after := #[{ on := 5, ground := Ground.guard }], guard := some (5, true) }) (v := ?tkv3007) rfl (by kernel_rfl) (by kernel_rfl) (by kernel_rfl) (fun _ _ _ h => h) (Or.inl ⟨by rfl, ?tky3007⟩) hH3004 ?tkr3007
        case tky3007 => (intro w' hSw; clear hSw; go_simp; try with_reducible rfl)
        try simp only [Act.put, List.setIfInBounds_toArray, List.set_cons_zero, List.set_cons_succ]
        refine wpAnyH_take (i := 8) (oi := { dst := some 58, op := Op.load 3 (Operand.tmp 57), type := 3, pos := "more.go:40", after := #[{ on := 7, ground := Ground.data }, { on := 5, ground := Ground.guard }], guard := some (5, true) }) (v := ?tkv3008) rfl (by kernel_rfl) (by kernel_rfl) (by kernel_rfl) (fun _ _ _ h => h) (Or.inl ⟨by rfl, ?tky3008⟩) hH3004 ?tkr3008
        case tky3008 => (intro w' hSw; have z0 := F2.out _ hSw; have z1 := F0.out _ hSw; have z2 := FA.out _ hSw; clear hSw; go_simp; try with_reducible rfl)
        try simp only [Act.put, List.setIfInBounds_toArray, List.set_cons_zero, List.set_cons_succ]
        refine wpAnyH_take (i := 9) (oi := { dst := some 59, op := Op.fieldAddr 30 (Operand.tmp 3) 4, type := 0, pos := "more.go:40", after := #[{ on := 5, ground := Ground.guard }], guard := some (5, true) }) (v := ?tkv3009) rfl (by kernel_rfl) (by kernel_rfl) (by kernel_rfl) (fun _ _ _ h => h) (Or.inl ⟨by rfl, ?tky3009⟩) hH3004 ?tkr3009
        case tky3009 => (intro w' hSw; clear hSw; go_simp; try with_reducible rfl)
        try simp only [Act.put, List.setIfInBounds_toArray, List.set_cons_zero, List.set_cons_succ]
        refine wpAnyH_take (i := 10) (oi := { dst := some 60, op := Op.indexAddr 26 (Operand.tmp 59) (Operand.tmp 58), type := 0, pos := "more.go:40", after := #[{ on := 9, ground := Ground.data }, { on := 8, ground := Ground.data }, { on := 5, ground := Ground.guard }], guard := some (5, true) }) (v := ?tkv3010) rfl (by kernel_rfl) (by kernel_rfl) (by kernel_rfl) (fun _ _ _ h => h) (Or.inl ⟨by rfl, ?tky3010⟩) hH3004 ?tkr3010
        case tky3010 => (intro w' hSw; clear hSw; go_simp; try with_reducible rfl)
        try simp only [Act.put, List.setIfInBounds_toArray, List.set_cons_zero, List.set_cons_succ]
        refine wpAnyH_take (i := 11) (oi := { dst := some 61, op := Op.fieldAddr 25 (Operand.tmp 60) 0, type := 0, pos := "more.go:40", after := #[{ on := 10, ground := Ground.data }, { on := 5, ground := Ground.guard }], guard := some (5, true) }) (v := ?tkv3011) rfl (by kernel_rfl) (by kernel_rfl) (by kernel_rfl) (fun _ _ _ h => h) (Or.inl ⟨by rfl, ?tky3011⟩) hH3004 ?tkr3011
        case tky3011 => (intro w' hSw; clear hSw; go_simp; try with_reducible rfl)
        try simp only [Act.put, List.setIfInBounds_toArray, List.set_cons_zero, List.set_cons_succ]
        refine wpAnyH_take (i := 12) (oi := { dst := some 62, op := Op.load 22 (Operand.tmp 61), type := 22, pos := "more.go:40", after := #[{ on := 11, ground := Ground.data }, { on := 5, ground := Ground.guard }], guard := some (5, true) }) (v := ?tkv3012) rfl (by kernel_rfl) (by kernel_rfl) (by kernel_rfl) (fun _ _ _ h => h) (Or.inl ⟨by rfl, ?tky3012⟩) hH3004 ?tkr3012
        case tky3012 => (intro w' hSw; have z0 := F2.out _ hSw; have z1 := F0.out _ hSw; have z2 := FA.out _ hSw; clear hSw; go_simp; try with_reducible rfl)
        try simp only [Act.put, List.setIfInBounds_toArray, List.set_cons_zero, List.set_cons_succ]
        refine wpAnyH_ready (rs := [6]) (by kernel_rfl) (by simp) ?_
        refine AllReadyH.cons (o := { dst := some 56, op := Op.load 30 (Operand.tmp 3), type := 30, pos := "more.go:40", after := #[{ on := 5, ground := Ground.guard }], guard := some (5, true) }) rfl (fun K hK => ?_) AllReadyH.nil
        rw [if_pos (by rfl)]
        have tb3013 := ((hH3004).block w.heap.size L8.out).trans X8.out
        refine wp_load_row _ _ rfl w.heap.size rfl _ _ _ _ tb3013 Try.underlying30 rfl (by kernel_rfl) ?_
        clear tb3013
        have hS3013 : (fun W => Below wB.heap.size wB W) wn3004 := hH3004
        refine hK.out _ _ hS3013 (fun hH3013 => ?_)
        clear hK K
        try simp only [Act.put, List.setIfInBounds_toArray, List.set_cons_zero, List.set_cons_succ]
        refine wpAnyH_ready (rs := [13]) (by kernel_rfl) (by simp) ?_
        refine AllReadyH.cons (o := { dst := some 63, op := Op.call { callee := Callee.value (Operand.func 26), args := #[Operand.tmp 56, Operand.tmp 62], argTypes := #[30, 22] }, type := 4, pos := "more.go:40", after := #[{ on := 6, ground := Ground.data }, { on := 12, ground := Ground.data }, { on := 5, ground := Ground.chain }, { on := 5, ground := Ground.guard }], guard := some (5, true) }) rfl (fun K hK => ?_) AllReadyH.nil
        go_simp
        have hBc := HB8.out.trans ((hH3013).mono HB8.out.size)
        refine (newer_any 0 trial flo gen v0 l0 A0 n0 c0 v1 l1 A1 n1 c1 on s v l z p A n c w.heap.size h0 h1 h v0 wn3004 (HL0.out.below hBc) (HL1.out.below hBc) (HL.out.below hBc) hBc.size).mono ?_
        rintro e' wn3014 ⟨rfl, hb3014⟩
        rw [newB_a0]
        clear hBc
        go_simp
        have hS3014 : (fun W => Below wB.heap.size wB W) wn3014 := (hH3013).trans (hb3014.mono (hH3013).size)
        refine hK.out _ _ hS3014 (fun hH3014 => ?_)
        clear hK K
        try simp only [Act.put, List.setIfInBounds_toArray, List.set_cons_zero, List.set_cons_succ]
        refine wpAnyH_take (i := 14) (oi := { dst := some 64, op := Op.unOp UnOp.not 4 (Operand.tmp 63), type := 4, pos := "more.go:40", after := #[{ on := 13, ground := Ground.data }, { on := 5, ground := Ground.guard }], guard := some (5, true) }) (v := ?tkv3015) rfl (by kernel_rfl) (by kernel_rfl) (by kernel_rfl) (fun _ _ _ h => h) (Or.inl ⟨by rfl, ?tky3015⟩) hH3014 ?tkr3015
        case tky3015 => (intro w' hSw; clear hSw; go_simp; try with_reducible rfl)
        try simp only [Act.put, List.setIfInBounds_toArray, List.set_cons_zero, List.set_cons_succ]
        refine wpAnyH_take (i := 15) (oi := { dst := some 65, op := Op.pick (Operand.tmp 55) (Operand.tmp 64) (Operand.const (Value.bool false)), type := 4, pos := "more.go:40", after := #[{ on := 5, ground := Ground.data }, { on := 14, ground := Ground.data }], guard := none }) (v := ?tkv3016) rfl (by kernel_rfl) (by kernel_rfl) (by kernel_rfl) (fun _ _ _ h => h) (Or.inl ⟨by rfl, ?tky3016⟩) hH3014 ?tkr3016
        case tky3016 => (intro w' hSw; clear hSw; go_simp; try with_reducible rfl)
        try simp only [Act.put, List.setIfInBounds_toArray, List.set_cons_zero, List.set_cons_succ]
        refine wpAnyH_take (i := 16) (oi := { dst := some 66, op := Op.move (Operand.tmp 65), type := 4, pos := "more.go:40", after := #[{ on := 15, ground := Ground.data }, { on := 13, ground := Ground.chain }], guard := none }) (v := ?tkv3017) rfl (by kernel_rfl) (by kernel_rfl) (by kernel_rfl) (fun _ _ _ h => h) (Or.inl ⟨by rfl, ?tky3017⟩) hH3014 ?tkr3017
        case tky3017 => (intro w' hSw; clear hSw; go_simp; try with_reducible rfl)
        try simp only [Act.put, List.setIfInBounds_toArray, List.set_cons_zero, List.set_cons_succ]
        refine wpAnyH_ready (rs := [17]) (by kernel_rfl) (by simp) ?_
        refine AllReadyH.cons (o := { dst := some 67, op := Op.load 30 (Operand.tmp 3), type := 30, pos := "more.go:40", after := #[{ on := 16, ground := Ground.guard }], guard := some (16, true) }) rfl (fun K hK => ?_) AllReadyH.nil
        rw [if_pos (by rfl)]
        have tb3018 := ((hH3014).block w.heap.size L8.out).trans X8.out
        refine wp_load_row _ _ rfl w.heap.size rfl _ _ _ _ tb3018 Try.underlying30 rfl (by kernel_rfl) ?_
        clear tb3018
        have hS3018 : (fun W => Below wB.heap.size wB W) wn3014 := hH3014
        refine hK.out _ _ hS3018 (fun hH3018 => ?_)
        clear hK K
        try simp only [Act.put, List.setIfInBounds_toArray, List.set_cons_zero, List.set_cons_succ]
        refine wpAnyH_ready (rs := [18]) (by kernel_rfl) (by simp) ?_
        refine AllReadyH.cons (o := { dst := some 68, op := Op.call { callee := Callee.value (Operand.func 26), args := #[Operand.tmp 67, Operand.const (Value.int IntKind.u32 0)], argTypes := #[30, 22] }, type := 4, pos := "more.go:40", after := #[{ on := 17, ground := Ground.data }, { on := 16, ground := Ground.chain }, { on := 16, ground := Ground.guard }], guard := some (16, true) }) rfl (fun K hK => ?_) AllReadyH.nil
        go_simp
        have hBc := HB8.out.trans ((hH3018).mono HB8.out.size)
        refine (newer_any 0 trial flo gen v0 l0 A0 n0 c0 v1 l1 A1 n1 c1 on s v l z p A n c w.heap.size h0 h1 h 0 wn3014 (HL0.out.below hBc) (HL1.out.below hBc) (HL.out.below hBc) hBc.size).mono ?_
        rintro e' wn3019 ⟨rfl, hb3019⟩
        rw [newB_zero]
        clear hBc
        go_simp
        have hS3019 : (fun W => Below wB.heap.size wB W) wn3019 := (hH3018).trans (hb3019.mono (hH3018).size)
        refine hK.out _ _ hS3019 (fun hH3019 => ?_)
        clear hK K
        try simp only [Act.put, List.setIfInBounds_toArray, List.set_cons_zero, List.set_cons_succ]
        refine wpAnyH_take (i := 19) (oi := { dst := some 69, op := Op.unOp UnOp.not 4 (Operand.tmp 68), type := 4, pos := "more.go:40", after := #[{ on := 18, ground := Ground.data }, { on := 16, ground := Ground.guard }], guard := some (16, true) }) (v := ?tkv3020) rfl (by kernel_rfl) (by kernel_rfl) (by kernel_rfl) (fun _ _ _ h => h) (Or.inl ⟨by rfl, ?tky3020⟩) hH3019 ?tkr3020
        case tky3020 => (intro w' hSw; clear hSw; go_simp; try with_reducible rfl)
        try simp only [Act.put, List.setIfInBounds_toArray, List.set_cons_zero, List.set_cons_succ]
        refine wpAnyH_take (i := 20) (oi := { dst := some 70, op := Op.pick (Operand.tmp 66) (Operand.tmp 69) (Operand.const (Value.bool false)), type := 4, pos := "more.go:40", after := #[{ on := 16, ground := Ground.data }, { on := 19, ground := Ground.data }], guard := none }) (v := ?tkv3021) rfl (by kernel_rfl) (by kernel_rfl) (by kernel_rfl) (fun _ _ _ h => h) (Or.inl ⟨by rfl, ?tky3021⟩) hH3019 ?tkr3021
        case tky3021 => (intro w' hSw; clear hSw; go_simp; try with_reducible rfl)
        try simp only [Act.put, List.setIfInBounds_toArray, List.set_cons_zero, List.set_cons_succ]
        refine wpAnyH_take (i := 21) (oi := { dst := some 71, op := Op.move (Operand.tmp 70), type := 4, pos := "more.go:40", after := #[{ on := 20, ground := Ground.data }, { on := 18, ground := Ground.chain }], guard := none }) (v := ?tkv3022) rfl (by kernel_rfl) (by kernel_rfl) (by kernel_rfl) (fun _ _ _ h => h) (Or.inl ⟨by rfl, ?tky3022⟩) hH3019 ?tkr3022
        case tky3022 => (intro w' hSw; clear hSw; go_simp; try with_reducible rfl)
        try simp only [Act.put, List.setIfInBounds_toArray, List.set_cons_zero, List.set_cons_succ]
        refine wpAnyH_ready (rs := [22]) (by kernel_rfl) (by simp) ?_
        refine AllReadyH.cons (o := { dst := some 72, op := Op.call { callee := Callee.value (Operand.func 23), args := #[], argTypes := #[] }, type := 4, pos := "more.go:40", after := #[{ on := 21, ground := Ground.chain }, { on := 21, ground := Ground.guard }], guard := some (21, true) }) rfl (fun K hK => ?_) AllReadyH.nil
        go_simp
        refine (awake22_any wn3019).mono ?_
        rintro e' wn3023 ⟨rfl, hb3023⟩
        go_simp
        have hS3023 : (fun W => Below wB.heap.size wB W) wn3023 := (hH3019).trans (hb3023.mono (hH3019).size)
        refine hK.out _ _ hS3023 (fun hH3023 => ?_)
        clear hK K
        try simp only [Act.put, List.setIfInBounds_toArray, List.set_cons_zero, List.set_cons_succ]
        refine wpAnyH_take (i := 23) (oi := { dst := some 73, op := Op.pick (Operand.tmp 71) (Operand.tmp 72) (Operand.const (Value.bool false)), type := 4, pos := "more.go:40", after := #[{ on := 21, ground := Ground.data }, { on := 22, ground := Ground.data }], guard := none }) (v := ?tkv3024) rfl (by kernel_rfl) (by kernel_rfl) (by kernel_rfl) (fun _ _ _ h => h) (Or.inl ⟨by rfl, ?tky3024⟩) hH3023 ?tkr3024
        case tky3024 => (intro w' hSw; clear hSw; go_simp; try with_reducible rfl)
        try simp only [Act.put, List.setIfInBounds_toArray, List.set_cons_zero, List.set_cons_succ]
        refine wpAnyH_take (i := 24) (oi := { dst := some 6, op := Op.assign (Operand.tmp 73), type := 4, pos := "more.go:40", after := #[{ on := 23, ground := Ground.data }, { on := 22, ground := Ground.chain }, { on := 0, ground := Ground.phase }, { on := 1, ground := Ground.phase }, { on := 2, ground := Ground.phase }, { on := 3, ground := Ground.phase }, { on := 4, ground := Ground.phase }, { on := 5, ground := Ground.phase }, { on := 6, ground := Ground.phase }, { on := 7, ground := Ground.phase }, { on := 8, ground := Ground.phase }, { on := 9, ground := Ground.phase }, { on := 10, ground := Ground.phase }, { on := 11, ground := Ground.phase }, { on := 12, ground := Ground.phase }, { on := 13, ground := Ground.phase }, { on := 14, ground := Ground.phase }, { on := 15, ground := Ground.phase }, { on := 16, ground := Ground.phase }, { on := 17, ground := Ground.phase }, { on := 18, ground := Ground.phase }, { on := 19, ground := Ground.phase }, { on := 20, ground := Ground.phase }, { on := 21, ground := Ground.phase }, { on := 22, ground := Ground.phase }, { on := 23, ground := Ground.phase }], guard := none }) (v := ?tkv3025) rfl (by kernel_rfl) (by kernel_rfl) (by kernel_rfl) (fun _ _ _ h => h) (Or.inl ⟨by rfl, ?tky3025⟩) hH3023 ?tkr3025
        case tky3025 => (intro w' hSw; clear hSw; go_simp; try with_reducible rfl)
        try simp only [Act.put, List.setIfInBounds_toArray, List.set_cons_zero, List.set_cons_succ]
        refine wpAnyH_done (by kernel_rfl) ?_ _
        refine NoPanic.normal ?_
        have hEnd := HB8.out.trans ((hH3023).mono HB8.out.size)
        go_wp2_with fail
        go_ret
        exact ⟨rfl, hEnd⟩
      · have F2 : Hid (∀ W, Below wB.heap.size wB W → W.cell? ⟨w.heap.size, 2, none⟩ = some (.int .u32 (flo : Int))) := Lib.hid (fun W h => by rw [cell_of_row W _ 2 _ _ (0, 0) ((h.block w.heap.size L8.out).trans X8.out)]; rfl)
        have F0 : Hid (∀ W, Below wB.heap.size wB W → W.cell? ⟨w.heap.size, 0, none⟩ = some (.int .i64 1)) := Lib.hid (fun W h => by rw [cell_of_row W _ 0 _ _ (0, 0) ((h.block w.heap.size L8.out).trans X8.out)]; rfl)
        have FA : Hid (∀ W, Below wB.heap.size wB W → W.cell? ⟨w.heap.size, 7, none⟩ = some (.int .u32 (v1 : Int))) := Lib.hid (fun W h => by rw [cell_of_row W _ 7 _ _ (0, 0) ((h.block w.heap.size L8.out).trans X8.out)]; rfl)
        refine wp_region_noPanic ?_
        refine wp_region_held_drew (S := (fun W => Below wB.heap.size wB W)) (by kernel_rfl) (Below.refl _ _).drew (fun hH0 => ?_)
        have hH0 : (fun W => Below wB.heap.size wB W) wB.drew := hH0
        generalize wB.drew = wd at *
        refine wpAnyH_take (i := 1) (oi := { dst := some 51, op := Op.fieldAddr 30 (Operand.tmp 3) 2, type := 0, pos := "more.go:40", after := #[], guard := none }) (v := ?tkv4001) rfl (by kernel_rfl) (by kernel_rfl) (by kernel_rfl) (fun _ _ _ h => h) (Or.inl ⟨by rfl, ?tky4001⟩) hH0 ?tkr4001
        case tky4001 => (intro w' hSw; clear hSw; go_simp; try with_reducible rfl)
        try simp only [Act.put, List.setIfInBounds_toArray, List.set_cons_zero, List.set_cons_succ]
        refine wpAnyH_take (i := 2) (oi := { dst := some 52, op := Op.load 22 (Operand.tmp 51), type := 22, pos := "more.go:40", after := #[{ on := 1, ground := Ground.data }], guard := none }) (v := ?tkv4002) rfl (by kernel_rfl) (by kernel_rfl) (by kernel_rfl) (fun _ _ _ h => h) (Or.inl ⟨by rfl, ?tky4002⟩) hH0 ?tkr4002
        case tky4002 => (intro w' hSw; have z0 := F2.out _ hSw; have z1 := F0.out _ hSw; have z2 := FA.out _ hSw; clear hSw; go_simp; try with_reducible rfl)
        try simp only [Act.put, List.setIfInBounds_toArray, List.set_cons_zero, List.set_cons_succ]
        refine wpAnyH_ready (rs := [0]) (by kernel_rfl) (by simp) ?_
        refine AllReadyH.cons (o := { dst := some 50, op := Op.load 30 (Operand.tmp 3), type := 30, pos := "more.go:40", after := #[], guard := none }) rfl (fun K hK => ?_) AllReadyH.nil
        rw [if_pos (by rfl)]
        have tb4003 := ((hH0).block w.heap.size L8.out).trans X8.out
        refine wp_load_row _ _ rfl w.heap.size rfl _ _ _ _ tb4003 Try.underlying30 rfl (by kernel_rfl) ?_
        clear tb4003
        have hS4003 : (fun W => Below wB.heap.size wB W) wd := hH0
        refine hK.out _ _ hS4003 (fun hH4003 => ?_)
        clear hK K
        try simp only [Act.put, List.setIfInBounds_toArray, List.set_cons_zero, List.set_cons_succ]
        refine wpAnyH_ready (rs := [3]) (by kernel_rfl) (by simp) ?_
        refine AllReadyH.cons (o := { dst := some 53, op := Op.call { callee := Callee.value (Operand.func 26), args := #[Operand.tmp 50, Operand.tmp 52], argTypes := #[30, 22] }, type := 4, pos := "more.go:40", after := #[{ on := 0, ground := Ground.data }, { on := 2, ground := Ground.data }], guard := none }) rfl (fun K hK => ?_) AllReadyH.nil
        go_simp
        have hBc := HB8.out.trans ((hH4003).mono HB8.out.size)
        refine (newer_any 1 trial flo gen v0 l0 A0 n0 c0 v1 l1 A1 n1 c1 on s v l z p A n c w.heap.size h0 h1 h flo wd (HL0.out.below hBc) (HL1.out.below hBc) (HL.out.below hBc) hBc.size).mono ?_
        rintro e' wn4004 ⟨rfl, hb4004⟩
        rw [newB_flo]
        clear hBc
        go_simp
        have hS4004 : (fun W => Below wB.heap.size wB W) wn4004 := (hH4003).trans (hb4004.mono (hH4003).size)
        refine hK.out _ _ hS4004 (fun hH4004 => ?_)
        clear hK K
        try simp only [Act.put, List.setIfInBounds_toArray, List.set_cons_zero, List.set_cons_succ]
        refine wpAnyH_take (i := 4) (oi := { dst := some 54, op := Op.unOp UnOp.not 4 (Operand.tmp 53), type := 4, pos := "more.go:40", after := #[{ on := 3, ground := Ground.data }], guard := none }) (v := ?tkv4005) rfl (by kernel_rfl) (by kernel_rfl) (by kernel_rfl) (fun _ _ _ h => h) (Or.inl ⟨by rfl, ?tky4005⟩) hH4004 ?tkr4005
        case tky4005 => (intro w' hSw; clear hSw; go_simp; try with_reducible rfl)
        try simp only [Act.put, List.setIfInBounds_toArray, List.set_cons_zero, List.set_cons_succ]
        refine wpAnyH_take (i := 5) (oi := { dst := some 55, op := Op.move (Operand.tmp 54), type := 4, pos := "more.go:40", after := #[{ on := 4, ground := Ground.data }, { on := 3, ground := Ground.chain }], guard := none }) (v := ?tkv4006) rfl (by kernel_rfl) (by kernel_rfl) (by kernel_rfl) (fun _ _ _ h => h) (Or.inl ⟨by rfl, ?tky4006⟩) hH4004 ?tkr4006
        case tky4006 => (intro w' hSw; clear hSw; go_simp; try with_reducible rfl)
        try simp only [Act.put, List.setIfInBounds_toArray, List.set_cons_zero, List.set_cons_succ]
        refine wpAnyH_take (i := 7) (oi := { dst := some 57, op := Op.fieldAddr 30 (Operand.tmp 3) 0, type := 0, pos := "more.go:40", after := #[{ on := 5, ground := Ground.guard }], guard := some (5, true) }) (v := ?tkv4007) rfl (by kernel_rfl) (by kernel_rfl) (by kernel_rfl) (fun _ _ _ h => h) (Or.inl ⟨by rfl, ?tky4007⟩) hH4004 ?tkr4007
        case tky4007 => (intro w' hSw; clear hSw; go_simp; try with_reducible rfl)
        try simp only [Act.put, List.setIfInBounds_toArray, List.set_cons_zero, List.set_cons_succ]
        refine wpAnyH_take (i := 8) (oi := { dst := some 58, op := Op.load 3 (Operand.tmp 57), type := 3, pos := "more.go:40", after := #[{ on := 7, ground := Ground.data }, { on := 5, ground := Ground.guard }], guard := some (5, true) }) (v := ?tkv4008) rfl (by kernel_rfl) (by kernel_rfl) (by kernel_rfl) (fun _ _ _ h => h) (Or.inl ⟨by rfl, ?tky4008⟩) hH4004 ?tkr4008
        case tky4008 => (intro w' hSw; have z0 := F2.out _ hSw; have z1 := F0.out _ hSw; have z2 := FA.out _ hSw; clear hSw; go_simp; try with_reducible rfl)
        try simp only [Act.put, List.setIfInBounds_toArray, List.set_cons_zero, List.set_cons_succ]
        refine wpAnyH_take (i := 9) (oi := { dst := some 59, op := Op.fieldAddr 30 (Operand.tmp 3) 4, type := 0, pos := "more.go:40", after := #[{ on := 5, ground := Ground.guard }], guard := some (5, true) }) (v := ?tkv4009) rfl (by kernel_rfl) (by kernel_rfl) (by kernel_rfl) (fun _ _ _ h => h) (Or.inl ⟨by rfl, ?tky4009⟩) hH4004 ?tkr4009
        case tky4009 => (intro w' hSw; clear hSw; go_simp; try with_reducible rfl)
        try simp only [Act.put, List.setIfInBounds_toArray, List.set_cons_zero, List.set_cons_succ]
        refine wpAnyH_take (i := 10) (oi := { dst := some 60, op := Op.indexAddr 26 (Operand.tmp 59) (Operand.tmp 58), type := 0, pos := "more.go:40", after := #[{ on := 9, ground := Ground.data }, { on := 8, ground := Ground.data }, { on := 5, ground := Ground.guard }], guard := some (5, true) }) (v := ?tkv4010) rfl (by kernel_rfl) (by kernel_rfl) (by kernel_rfl) (fun _ _ _ h => h) (Or.inl ⟨by rfl, ?tky4010⟩) hH4004 ?tkr4010
        case tky4010 => (intro w' hSw; clear hSw; go_simp; try with_reducible rfl)
        try simp only [Act.put, List.setIfInBounds_toArray, List.set_cons_zero, List.set_cons_succ]
        refine wpAnyH_take (i := 11) (oi := { dst := some 61, op := Op.fieldAddr 25 (Operand.tmp 60) 0, type := 0, pos := "more.go:40", after := #[{ on := 10, ground := Ground.data }, { on := 5, ground := Ground.guard }], guard := some (5, true) }) (v := ?tkv4011) rfl (by kernel_rfl) (by kernel_rfl) (by kernel_rfl) (fun _ _ _ h => h) (Or.inl ⟨by rfl, ?tky4011⟩) hH4004 ?tkr4011
        case tky4011 => (intro w' hSw; clear hSw; go_simp; try with_reducible rfl)
        try simp only [Act.put, List.setIfInBounds_toArray, List.set_cons_zero, List.set_cons_succ]
        refine wpAnyH_take (i := 12) (oi := { dst := some 62, op := Op.load 22 (Operand.tmp 61), type := 22, pos := "more.go:40", after := #[{ on := 11, ground := Ground.data }, { on := 5, ground := Ground.guard }], guard := some (5, true) }) (v := ?tkv4012) rfl (by kernel_rfl) (by kernel_rfl) (by kernel_rfl) (fun _ _ _ h => h) (Or.inl ⟨by rfl, ?tky4012⟩) hH4004 ?tkr4012
        case tky4012 => (intro w' hSw; have z0 := F2.out _ hSw; have z1 := F0.out _ hSw; have z2 := FA.out _ hSw; clear hSw; go_simp; try with_reducible rfl)
        try simp only [Act.put, List.setIfInBounds_toArray, List.set_cons_zero, List.set_cons_succ]
        refine wpAnyH_ready (rs := [6]) (by kernel_rfl) (by simp) ?_
        refine AllReadyH.cons (o := { dst := some 56, op := Op.load 30 (Operand.tmp 3), type := 30, pos := "more.go:40", after := #[{ on := 5, ground := Ground.guard }], guard := some (5, true) }) rfl (fun K hK => ?_) AllReadyH.nil
        rw [if_pos (by rfl)]
        have tb4013 := ((hH4004).block w.heap.size L8.out).trans X8.out
        refine wp_load_row _ _ rfl w.heap.size rfl _ _ _ _ tb4013 Try.underlying30 rfl (by kernel_rfl) ?_
        clear tb4013
        have hS4013 : (fun W => Below wB.heap.size wB W) wn4004 := hH4004
        refine hK.out _ _ hS4013 (fun hH4013 => ?_)
        clear hK K
        try simp only [Act.put, List.setIfInBounds_toArray, List.set_cons_zero, List.set_cons_succ]
        refine wpAnyH_ready (rs := [13]) (by kernel_rfl) (by simp) ?_
        refine AllReadyH.cons (o := { dst := some 63, op := Op.call { callee := Callee.value (Operand.func 26), args := #[Operand.tmp 56, Operand.tmp 62], argTypes := #[30, 22] }, type := 4, pos := "more.go:40", after := #[{ on := 6, ground := Ground.data }, { on := 12, ground := Ground.data }, { on := 5, ground := Ground.chain }, { on := 5, ground := Ground.guard }], guard := some (5, true) }) rfl (fun K hK => ?_) AllReadyH.nil
        go_simp
        have hBc := HB8.out.trans ((hH4013).mono HB8.out.size)
        refine (newer_any 1 trial flo gen v0 l0 A0 n0 c0 v1 l1 A1 n1 c1 on s v l z p A n c w.heap.size h0 h1 h v1 wn4004 (HL0.out.below hBc) (HL1.out.below hBc) (HL.out.below hBc) hBc.size).mono ?_
        rintro e' wn4014 ⟨rfl, hb4014⟩
        rw [newB_a1]
        clear hBc
        go_simp
        have hS4014 : (fun W => Below wB.heap.size wB W) wn4014 := (hH4013).trans (hb4014.mono (hH4013).size)
        refine hK.out _ _ hS4014 (fun hH4014 => ?_)
        clear hK K
        try simp only [Act.put, List.setIfInBounds_toArray, List.set_cons_zero, List.set_cons_succ]
        refine wpAnyH_take (i := 14) (oi := { dst := some 64, op := Op.unOp UnOp.not 4 (Operand.tmp 63), type := 4, pos := "more.go:40", after := #[{ on := 13, ground := Ground.data }, { on := 5, ground := Ground.guard }], guard := some (5, true) }) (v := ?tkv4015) rfl (by kernel_rfl) (by kernel_rfl) (by kernel_rfl) (fun _ _ _ h => h) (Or.inl ⟨by rfl, ?tky4015⟩) hH4014 ?tkr4015
        case tky4015 => (intro w' hSw; clear hSw; go_simp; try with_reducible rfl)
        try simp only [Act.put, List.setIfInBounds_toArray, List.set_cons_zero, List.set_cons_succ]
        refine wpAnyH_take (i := 15) (oi := { dst := some 65, op := Op.pick (Operand.tmp 55) (Operand.tmp 64) (Operand.const (Value.bool false)), type := 4, pos := "more.go:40", after := #[{ on := 5, ground := Ground.data }, { on := 14, ground := Ground.data }], guard := none }) (v := ?tkv4016) rfl (by kernel_rfl) (by kernel_rfl) (by kernel_rfl) (fun _ _ _ h => h) (Or.inl ⟨by rfl, ?tky4016⟩) hH4014 ?tkr4016
        case tky4016 => (intro w' hSw; clear hSw; go_simp; try with_reducible rfl)
        try simp only [Act.put, List.setIfInBounds_toArray, List.set_cons_zero, List.set_cons_succ]
        refine wpAnyH_take (i := 16) (oi := { dst := some 66, op := Op.move (Operand.tmp 65), type := 4, pos := "more.go:40", after := #[{ on := 15, ground := Ground.data }, { on := 13, ground := Ground.chain }], guard := none }) (v := ?tkv4017) rfl (by kernel_rfl) (by kernel_rfl) (by kernel_rfl) (fun _ _ _ h => h) (Or.inl ⟨by rfl, ?tky4017⟩) hH4014 ?tkr4017
        case tky4017 => (intro w' hSw; clear hSw; go_simp; try with_reducible rfl)
        try simp only [Act.put, List.setIfInBounds_toArray, List.set_cons_zero, List.set_cons_succ]
        refine wpAnyH_ready (rs := [17]) (by kernel_rfl) (by simp) ?_
        refine AllReadyH.cons (o := { dst := some 67, op := Op.load 30 (Operand.tmp 3), type := 30, pos := "more.go:40", after := #[{ on := 16, ground := Ground.guard }], guard := some (16, true) }) rfl (fun K hK => ?_) AllReadyH.nil
        rw [if_pos (by rfl)]
        have tb4018 := ((hH4014).block w.heap.size L8.out).trans X8.out
        refine wp_load_row _ _ rfl w.heap.size rfl _ _ _ _ tb4018 Try.underlying30 rfl (by kernel_rfl) ?_
        clear tb4018
        have hS4018 : (fun W => Below wB.heap.size wB W) wn4014 := hH4014
        refine hK.out _ _ hS4018 (fun hH4018 => ?_)
        clear hK K
        try simp only [Act.put, List.setIfInBounds_toArray, List.set_cons_zero, List.set_cons_succ]
        refine wpAnyH_ready (rs := [18]) (by kernel_rfl) (by simp) ?_
        refine AllReadyH.cons (o := { dst := some 68, op := Op.call { callee := Callee.value (Operand.func 26), args := #[Operand.tmp 67, Operand.const (Value.int IntKind.u32 0)], argTypes := #[30, 22] }, type := 4, pos := "more.go:40", after := #[{ on := 17, ground := Ground.data }, { on := 16, ground := Ground.chain }, { on := 16, ground := Ground.guard }], guard := some (16, true) }) rfl (fun K hK => ?_) AllReadyH.nil
        go_simp
        have hBc := HB8.out.trans ((hH4018).mono HB8.out.size)
        refine (newer_any 1 trial flo gen v0 l0 A0 n0 c0 v1 l1 A1 n1 c1 on s v l z p A n c w.heap.size h0 h1 h 0 wn4014 (HL0.out.below hBc) (HL1.out.below hBc) (HL.out.below hBc) hBc.size).mono ?_
        rintro e' wn4019 ⟨rfl, hb4019⟩
        rw [newB_zero]
        clear hBc
        go_simp
        have hS4019 : (fun W => Below wB.heap.size wB W) wn4019 := (hH4018).trans (hb4019.mono (hH4018).size)
        refine hK.out _ _ hS4019 (fun hH4019 => ?_)
        clear hK K
        try simp only [Act.put, List.setIfInBounds_toArray, List.set_cons_zero, List.set_cons_succ]
        refine wpAnyH_take (i := 19) (oi := { dst := some 69, op := Op.unOp UnOp.not 4 (Operand.tmp 68), type := 4, pos := "more.go:40", after := #[{ on := 18, ground := Ground.data }, { on := 16, ground := Ground.guard }], guard := some (16, true) }) (v := ?tkv4020) rfl (by kernel_rfl) (by kernel_rfl) (by kernel_rfl) (fun _ _ _ h => h) (Or.inl ⟨by rfl, ?tky4020⟩) hH4019 ?tkr4020
        case tky4020 => (intro w' hSw; clear hSw; go_simp; try with_reducible rfl)
        try simp only [Act.put, List.setIfInBounds_toArray, List.set_cons_zero, List.set_cons_succ]
        refine wpAnyH_take (i := 20) (oi := { dst := some 70, op := Op.pick (Operand.tmp 66) (Operand.tmp 69) (Operand.const (Value.bool false)), type := 4, pos := "more.go:40", after := #[{ on := 16, ground := Ground.data }, { on := 19, ground := Ground.data }], guard := none }) (v := ?tkv4021) rfl (by kernel_rfl) (by kernel_rfl) (by kernel_rfl) (fun _ _ _ h => h) (Or.inl ⟨by rfl, ?tky4021⟩) hH4019 ?tkr4021
        case tky4021 => (intro w' hSw; clear hSw; go_simp; try with_reducible rfl)
        try simp only [Act.put, List.setIfInBounds_toArray, List.set_cons_zero, List.set_cons_succ]
        refine wpAnyH_take (i := 21) (oi := { dst := some 71, op := Op.move (Operand.tmp 70), type := 4, pos := "more.go:40", after := #[{ on := 20, ground := Ground.data }, { on := 18, ground := Ground.chain }], guard := none }) (v := ?tkv4022) rfl (by kernel_rfl) (by kernel_rfl) (by kernel_rfl) (fun _ _ _ h => h) (Or.inl ⟨by rfl, ?tky4022⟩) hH4019 ?tkr4022
        case tky4022 => (intro w' hSw; clear hSw; go_simp; try with_reducible rfl)
        try simp only [Act.put, List.setIfInBounds_toArray, List.set_cons_zero, List.set_cons_succ]
        refine wpAnyH_ready (rs := [22]) (by kernel_rfl) (by simp) ?_
        refine AllReadyH.cons (o := { dst := some 72, op := Op.call { callee := Callee.value (Operand.func 23), args := #[], argTypes := #[] }, type := 4, pos := "more.go:40", after := #[{ on := 21, ground := Ground.chain }, { on := 21, ground := Ground.guard }], guard := some (21, true) }) rfl (fun K hK => ?_) AllReadyH.nil
        go_simp
        refine (awake22_any wn4019).mono ?_
        rintro e' wn4023 ⟨rfl, hb4023⟩
        go_simp
        have hS4023 : (fun W => Below wB.heap.size wB W) wn4023 := (hH4019).trans (hb4023.mono (hH4019).size)
        refine hK.out _ _ hS4023 (fun hH4023 => ?_)
        clear hK K
        try simp only [Act.put, List.setIfInBounds_toArray, List.set_cons_zero, List.set_cons_succ]
        refine wpAnyH_take (i := 23) (oi := { dst := some 73, op := Op.pick (Operand.tmp 71) (Operand.tmp 72) (Operand.const (Value.bool false)), type := 4, pos := "more.go:40", after := #[{ on := 21, ground := Ground.data }, { on := 22, ground := Ground.data }], guard := none }) (v := ?tkv4024) rfl (by kernel_rfl) (by kernel_rfl) (by kernel_rfl) (fun _ _ _ h => h) (Or.inl ⟨by rfl, ?tky4024⟩) hH4023 ?tkr4024
        case tky4024 => (intro w' hSw; clear hSw; go_simp; try with_reducible rfl)
        try simp only [Act.put, List.setIfInBounds_toArray, List.set_cons_zero, List.set_cons_succ]
        refine wpAnyH_take (i := 24) (oi := { dst := some 6, op := Op.assign (Operand.tmp 73), type := 4, pos := "more.go:40", after := #[{ on := 23, ground := Ground.data }, { on := 22, ground := Ground.chain }, { on := 0, ground := Ground.phase }, { on := 1, ground := Ground.phase }, { on := 2, ground := Ground.phase }, { on := 3, ground := Ground.phase }, { on := 4, ground := Ground.phase }, { on := 5, ground := Ground.phase }, { on := 6, ground := Ground.phase }, { on := 7, ground := Ground.phase }, { on := 8, ground := Ground.phase }, { on := 9, ground := Ground.phase }, { on := 10, ground := Ground.phase }, { on := 11, ground := Ground.phase }, { on := 12, ground := Ground.phase }, { on := 13, ground := Ground.phase }, { on := 14, ground := Ground.phase }, { on := 15, ground := Ground.phase }, { on := 16, ground := Ground.phase }, { on := 17, ground := Ground.phase }, { on := 18, ground := Ground.phase }, { on := 19, ground := Ground.phase }, { on := 20, ground := Ground.phase }, { on := 21, ground := Ground.phase }, { on := 22, ground := Ground.phase }, { on := 23, ground := Ground.phase }], guard := none }) (v := ?tkv4025) rfl (by kernel_rfl) (by kernel_rfl) (by kernel_rfl) (fun _ _ _ h => h) (Or.inl ⟨by rfl, ?tky4025⟩) hH4023 ?tkr4025
        case tky4025 => (intro w' hSw; clear hSw; go_simp; try with_reducible rfl)
        try simp only [Act.put, List.setIfInBounds_toArray, List.set_cons_zero, List.set_cons_succ]
        refine wpAnyH_done (by kernel_rfl) ?_ _
        refine NoPanic.normal ?_
        have hEnd := HB8.out.trans ((hH4023).mono HB8.out.size)
        go_wp2_with fail
        go_ret
        exact ⟨rfl, hEnd⟩
end Go.Proofs.Ytnbpjajgfpdddaa
