/- ManifestBack's walk. -/
import Derived.Test.YtofkopjjgdfliaaDoorManSp
namespace Go.Proofs.YtofkopjjgdfliaaDoor
open Go.RowKit
open Sh
theorem man_inj {M K : LMan} (hm : M.may = true) (hw : M.w32) (hk : K.may = true) (hv : K.w32) (h : K.bytes = M.bytes) : K = M := by
  rw [← manRead_bytes M hw.1 hw.2 hm, ← manRead_bytes K hv.1 hv.2 hk, h]
theorem man_c5 {w : World} {P : Nat → Prop} {cs : Array Value} {M : LMan} (h : IsMan w P cs M) : ∃ A c, cs[5]? = some (.slice A M.h.length c) := by obtain ⟨A, c, rfl, _⟩ := h; exact ⟨A, c, rfl⟩
set_option maxRecDepth 100000 in
set_option maxHeartbeats 3200000 in
theorem manBack_walk (cs ds : Array Value) (M K : LMan) (A : Option Addr) (n c : Nat) (l : List UInt8) (w : World) (ht : Tab w) (hs : IsMan w (fun _ => True) cs M) (hk : IsMan w (fun _ => True) ds K) (hw : M.w32) (hv : K.w32) (hr : Row w w.heap.size A n (bv l)) (hnc : n ≤ c) (hcm : c ≤ 9223372036854775807) :
    Calls Tryd.prog 4 #[.agg cs, .agg ds, .slice A n c] w fun e w' => e = .returned (.bool true) ∧ Below w.heap.size w w' := by
  have IA := Lib.hid hs.inf
  have IB := Lib.hid hk.inf
  have HWM := Lib.hid hw
  have HWK := Lib.hid hv
  have HR := Lib.hid hr
  have HT := Lib.hid ht
  obtain ⟨Aa, ca, ea⟩ := man_c5 hs
  obtain ⟨Ab, cb, eb⟩ := man_c5 hk
  have e0 := ((((Env.start w).addMan hs).addMan hk).alloc cs 25).alloc ds 25
  rw [show (w.alloc (.cells cs 25)).heap.size = w.heap.size + 1 by simp] at e0
  have E0 := Lib.hid e0
  have k1 := (e0.cell (.tail _ (.head _)) 5).trans ea
  have k2 := (e0.cell (.head _) 5).trans eb
  clear e0 hs hk hw hv hr ht ea eb
  have hor : (100 < M.h.length ∨ 100 < K.h.length ∨ 200 < n) ∨ (¬ 100 < M.h.length ∧ ¬ 100 < K.h.length ∧ ¬ 200 < n) := by omega
  rcases hor with hor | ⟨h1, h2, h3⟩
  · go_enter Tryd.func4, Tryd.ntmps4
    go_upto_region 1 with fail
    generalize (w.alloc (.cells cs 25)).alloc (.cells ds 25) = w0 at *
    rcases Nat.lt_or_ge 100 M.h.length with h1 | h1
    · have q1 : decide ((100 : Int) < (M.h.length : Int)) = true := by simp; omega
      have q1b : (100 : Int) < (M.h.length : Int) := by omega
      go_wp2_with fail
      refine (awake14_any _ (HT.out.below E0.out.b HT.out.1)).mono ?_
      rintro e wz ⟨rfl, hbz⟩
      have hb := (E0.out.below hbz).b
      go_wp2_with fail
      go_ret
      exact ⟨rfl, hb⟩
    · have q1 : decide ((100 : Int) < (M.h.length : Int)) = false := by simp; omega
      have q1b : ¬ (100 : Int) < (M.h.length : Int) := by omega
      rcases Nat.lt_or_ge 100 K.h.length with h2 | h2
      · have q2 : decide ((100 : Int) < (K.h.length : Int)) = true := by simp; omega
        have q2b : (100 : Int) < (K.h.length : Int) := by omega
        go_wp2_with fail
        refine (awake14_any _ (HT.out.below E0.out.b HT.out.1)).mono ?_
        rintro e wz ⟨rfl, hbz⟩
        have hb := (E0.out.below hbz).b
        go_wp2_with fail
        go_ret
        exact ⟨rfl, hb⟩
      · have q2 : decide ((100 : Int) < (K.h.length : Int)) = false := by simp; omega
        have q2b : ¬ (100 : Int) < (K.h.length : Int) := by omega
        have q3 : decide ((200 : Int) < (n : Int)) = true := by simp; omega
        have q3b : (200 : Int) < (n : Int) := by omega
        go_wp2_with fail
        refine (awake14_any _ (HT.out.below E0.out.b HT.out.1)).mono ?_
        rintro e wz ⟨rfl, hbz⟩
        have hb := (E0.out.below hbz).b
        go_wp2_with fail
        go_ret
        exact ⟨rfl, hb⟩
  have q1 : decide ((100 : Int) < (M.h.length : Int)) = false := by simp; omega
  have q1b : ¬ (100 : Int) < (M.h.length : Int) := by omega
  have q2 : decide ((100 : Int) < (K.h.length : Int)) = false := by simp; omega
  have q2b : ¬ (100 : Int) < (K.h.length : Int) := by omega
  have q3 : decide ((200 : Int) < (n : Int)) = false := by simp; omega
  have q3b : ¬ (200 : Int) < (n : Int) := by omega
  go_enter Tryd.func4, Tryd.ntmps4
  go_upto_region 1 with fail
  generalize (w.alloc (.cells cs 25)).alloc (.cells ds 25) = w0 at *
  go_wp2_with ((with_reducible show wpList _ _ _ _ _ _); refine wpList_load_row (o := ⟨some 35, _, _, _, _, _⟩) rfl _ (.tmp 3) rfl w.heap.size rfl _ _ _ _ (E0.out.bx _ _ _ (.tail _ (.head _))) Tryd.underlying25 rfl IA.out ?_)
  cases hm : M.may with
  | false =>
    refine (manBytes_no A n c (E0.out.mn _ _ (.tail _ (.head _))) hm).mono ?_
    rintro e w3 ⟨rfl, hb3⟩
    have E3 := Lib.hid (E0.out.below hb3)
    clear hb3 E0 k1 k2
    go_wp2_with ((with_reducible show wpList _ _ _ _ _ _); refine wpList_load_row (o := ⟨some 41, _, _, _, _, _⟩) rfl _ (.tmp 3) rfl w.heap.size rfl _ _ _ _ (E3.out.bx _ _ _ (.tail _ (.head _))) Tryd.underlying25 rfl IA.out ?_)
    refine (mayM (E3.out.mn _ _ (.tail _ (.head _)))).mono ?_
    rintro e w4 ⟨rfl, hb4⟩
    rw [hm]
    have E4 := Lib.hid (E3.out.below hb4)
    clear hb4 E3 hm
    go_wp2_with fail
    refine (awake14_any _ (HT.out.below E4.out.b HT.out.1)).mono ?_
    rintro e wz ⟨rfl, hbz⟩
    have hb := (E4.out.below hbz).b
    go_wp2_with fail
    go_ret
    exact ⟨rfl, hb⟩
  | true =>
    have HM := Lib.hid hm
    clear hm
    refine (manBytes_yes A n c l (HT.out.below E0.out.b HT.out.1) ((HR.out.below E0.out.b).more E0.out.b.size) (by omega) (E0.out.mn _ _ (.tail _ (.head _))) HM.out HWM.out).mono ?_
    rintro e w3 ⟨A5, c5, rfl, O5, hb5⟩
    obtain ⟨b5, o5, rfl, _⟩ := (Row.of_own O5.out).2 (by omega)
    have C5 := own_cap O5.out
    have q44 : (44 : Int) ≤ c5 := by omega
    have n44 : ¬ (c5 : Int) = 44 := by omega
    have m44 : ¬ c5 = 44 := by omega
    have HC5 := Lib.hid C5
    have E3 := Lib.hid (E0.out.below hb5.out)
    have R5 := Lib.hid (Row.of_own O5.out)
    clear O5 hb5 E0 k1 k2 C5
    go_wp2_with ((with_reducible show wpList _ _ _ _ _ _); refine wpList_load_row (o := ⟨some 41, _, _, _, _, _⟩) rfl _ (.tmp 3) rfl w.heap.size rfl _ _ _ _ (E3.out.bx _ _ _ (.tail _ (.head _))) Tryd.underlying25 rfl IA.out ?_)
    refine (mayM (E3.out.mn _ _ (.tail _ (.head _)))).mono ?_
    rintro e w4 ⟨rfl, hb4⟩
    rw [HM.out]
    have E4 := Lib.hid (E3.out.below hb4)
    have R4 := Lib.hid ((R5.out.below hb4).more hb4.size)
    clear hb4 E3 R5
    go_wp2_with fail
    refine (manPar_any n c A l (some ⟨b5, o5, none⟩) 76 c5 (M.bytes ++ tagOf l M.bytes) w4 (HT.out.below E4.out.b HT.out.1) ((HR.out.below E4.out.b).more E4.out.b.size) (by omega) R4.out HC5.out.1 HC5.out.2).mono ?_
    intro e w7 hP
    unfold MParOk at hP
    rw [(par_bytes l HM.out HWM.out).1, (par_bytes l HM.out HWM.out).2] at hP
    obtain ⟨cs9, rfl, S7, hb7⟩ := hP
    have I9 := Lib.hid S7.out.inf
    have O9 := Lib.hid S7.out.one
    have Z9 : Hid (6 = cs9.size) := Lib.hid S7.out.size.symm
    have ba : Below w4.heap.size w4 (w7.alloc (.cells cs9 25)) := hb7.out.alloc hb7.out.size _
    have E7 := Lib.hid (((E4.out.below hb7.out).addMan S7.out).alloc cs9 25)
    have R7 := Lib.hid ((R4.out.below ba).more ba.size)
    clear hb7 S7 E4 R4 ba
    go_wp2_with (first
      | ((with_reducible show wpList _ _ _ _ _ _); refine wpList_store_new rfl rfl _ (.tmp 9) (.tmp 60) rfl _ _ cs9 _ rfl rfl I9.out Z9.out O9.out ?_)
      | ((with_reducible show wpList _ _ _ _ _ _); refine wpList_load_row (o := ⟨some 63, _, _, _, _, _⟩) rfl _ (.tmp 3) rfl w.heap.size rfl _ _ _ _ (E7.out.bx _ _ _ (.tail _ (.tail _ (.head _)))) Tryd.underlying25 rfl IA.out ?_))
    generalize w7.alloc (.cells cs9 25) = w8 at *
    generalize w7.heap.size = b9 at *
    refine (plainM_yes (E7.out.mn _ _ (.tail _ (.tail _ (.head _)))) HM.out HWM.out).mono ?_
    rintro e wP ⟨A11, c11, rfl, O11, hb11⟩
    obtain ⟨b11, o11, rfl, _⟩ := (Row.of_own O11.out).2 (by omega)
    have HC11 := Lib.hid (own_cap O11.out)
    have EP := Lib.hid (E7.out.below hb11.out)
    have RP := Lib.hid ((R7.out.below hb11.out).more hb11.out.size)
    have RQ := Lib.hid (Row.of_own O11.out)
    clear O11 hb11 E7 R7
    go_wp2_with fail
    refine (read_any (some ⟨b11, o11, none⟩) 44 c11 M.bytes wP RQ.out HC11.out.1 HC11.out.2).mono ?_
    rw [(readM_bytes ⟨HM.out, HWM.out.1, HWM.out.2⟩).1, (readM_bytes ⟨HM.out, HWM.out.1, HWM.out.2⟩).2]
    rintro e w9 ⟨cs13, rfl, S13, hb13⟩
    have I13 := Lib.hid S13.out.inf
    have O13 := Lib.hid S13.out.one
    have Z13 : Hid (6 = cs13.size) := Lib.hid S13.out.size.symm
    have ba : Below wP.heap.size wP (w9.alloc (.cells cs13 25)) := hb13.out.alloc hb13.out.size _
    have E9 := Lib.hid (((EP.out.below hb13.out).addMan S13.out).alloc cs13 25)
    have RA := Lib.hid ((RP.out.below ba).more ba.size)
    have RB := Lib.hid ((RQ.out.below ba).more ba.size)
    clear hb13 S13 EP RP RQ ba
    go_upto_region 11 with ((with_reducible show wpList _ _ _ _ _ _); refine wpList_store_new rfl rfl _ (.tmp 13) (.tmp 70) rfl _ _ cs13 _ rfl rfl I13.out Z13.out O13.out ?_)
    generalize w9.alloc (.cells cs13 25) = wB at *
    generalize w9.heap.size = b13 at *
    have HL44 : Hid (M.bytes.length = 44) := Lib.hid (by rw [bytes_len, may_32 HM.out])
    have HE : Hid (∀ W, Below wB.heap.size wB W → Env w W [(b13, cs13, 25), (b9, cs9, 25), ((w.heap.size + 1), ds, 25), (w.heap.size, cs, 25)] [] [(cs13, M), (cs9, M), (ds, K), (cs, M)]) := Lib.hid fun W hW => E9.out.below hW
    have R44 : Hid (Row wB wB.heap.size (some ⟨b5, o5, none⟩) 44 (bv M.bytes)) := Lib.hid (by
      have := RA.out.head (k := 44) (by omega)
      rw [bv_take, List.take_append_of_le_length (by rw [HL44.out]; exact Nat.le_refl _), List.take_of_length_le (by rw [HL44.out]; exact Nat.le_refl _)] at this
      exact this)
    have HS1 : Hid (∀ W, Below wB.heap.size wB W → (convert 23 9 (.slice (some ⟨b5, o5, none⟩) 44 c5)).run Tryd.prog W = .ok (.string ⟨(M.bytes).toArray⟩) W) := Lib.hid fun W hW => run_string_row (P := Tryd.prog) (show Row W _ (some ⟨b5, o5, none⟩) 44 (bv M.bytes) from R44.out.below hW) c5 23 9 5 Tryd.underlying23 Tryd.underlying5 Tryd.underlying9
    have HS2 : Hid (∀ W, Below wB.heap.size wB W → (convert 23 9 (.slice (some ⟨b11, o11, none⟩) 44 c11)).run Tryd.prog W = .ok (.string ⟨(M.bytes).toArray⟩) W) := Lib.hid fun W hW => run_string_row (P := Tryd.prog) (show Row W _ (some ⟨b11, o11, none⟩) 44 (bv M.bytes) from RB.out.below hW) c11 23 9 5 Tryd.underlying23 Tryd.underlying5 Tryd.underlying9
    clear E9 RA R44
    go_cut [106] (fun s106 wx => s106 = .bool false ∧ Hid (Env w wx [(b13, cs13, 25), (b9, cs9, 25), ((w.heap.size + 1), ds, 25), (w.heap.size, cs, 25)] [] [(cs13, M), (cs9, M), (ds, K), (cs, M)] ∧ Below wB.heap.size wB wx))
    case first =>
      refine wp_region_noPanic ?_
      refine wp_region_held_drew (S := (fun W => Below (wB.heap.size) wB W)) (by kernel_rfl) (Below.refl _ _).drew (fun hH0 => ?_)
      have hH0 : Below (wB.heap.size) wB wB.drew := hH0
      generalize wB.drew = wd3000 at *
      refine wpAnyH_take (i := 0) (oi := { dst := some 72, op := Op.move (Operand.tmp 10), type := 27, pos := "law.go:67", after := #[], guard := none }) (v := ?tkv3001) rfl (by kernel_rfl) (by kernel_rfl) (by kernel_rfl) (fun _ _ _ h => h) (Or.inl ⟨by rfl, ?tky3001⟩) hH0 ?tkr3001
      case tky3001 => (intro w' hSw; clear hSw; go_simp; try with_reducible rfl)
      try simp only [Act.put, List.setIfInBounds_toArray, List.set_cons_zero, List.set_cons_succ]
      refine wpAnyH_take (i := 1) (oi := { dst := some 73, op := Op.binOp BinOp.neq 27 (Operand.tmp 72) (Operand.const (Value.int IntKind.i64 0)) 27, type := 4, pos := "law.go:67", after := #[{ on := 0, ground := Ground.data }], guard := none }) (v := ?tkv3002) rfl (by kernel_rfl) (by kernel_rfl) (by kernel_rfl) (fun _ _ _ h => h) (Or.inl ⟨by rfl, ?tky3002⟩) hH0 ?tkr3002
      case tky3002 => (intro w' hSw; clear hSw; go_simp; try with_reducible rfl)
      try simp only [Act.put, List.setIfInBounds_toArray, List.set_cons_zero, List.set_cons_succ]
      refine wpAnyH_take (i := 2) (oi := { dst := some 74, op := Op.move (Operand.tmp 73), type := 4, pos := "law.go:67", after := #[{ on := 1, ground := Ground.data }], guard := none }) (v := ?tkv3003) rfl (by kernel_rfl) (by kernel_rfl) (by kernel_rfl) (fun _ _ _ h => h) (Or.inl ⟨by rfl, ?tky3003⟩) hH0 ?tkr3003
      case tky3003 => (intro w' hSw; clear hSw; go_simp; try with_reducible rfl)
      try simp only [Act.put, List.setIfInBounds_toArray, List.set_cons_zero, List.set_cons_succ]
      refine wpAnyH_take (i := 3) (oi := { dst := some 75, op := Op.move (Operand.tmp 12), type := 27, pos := "law.go:67", after := #[{ on := 2, ground := Ground.guard }], guard := some (2, false) }) (v := ?tkv3004) rfl (by kernel_rfl) (by kernel_rfl) (by kernel_rfl) (fun _ _ _ h => h) (Or.inl ⟨by rfl, ?tky3004⟩) hH0 ?tkr3004
      case tky3004 => (intro w' hSw; clear hSw; go_simp; try with_reducible rfl)
      try simp only [Act.put, List.setIfInBounds_toArray, List.set_cons_zero, List.set_cons_succ]
      refine wpAnyH_take (i := 4) (oi := { dst := some 76, op := Op.binOp BinOp.neq 27 (Operand.tmp 75) (Operand.const (Value.int IntKind.i64 0)) 27, type := 4, pos := "law.go:67", after := #[{ on := 3, ground := Ground.data }, { on := 2, ground := Ground.guard }], guard := some (2, false) }) (v := ?tkv3005) rfl (by kernel_rfl) (by kernel_rfl) (by kernel_rfl) (fun _ _ _ h => h) (Or.inl ⟨by rfl, ?tky3005⟩) hH0 ?tkr3005
      case tky3005 => (intro w' hSw; clear hSw; go_simp; try with_reducible rfl)
      try simp only [Act.put, List.setIfInBounds_toArray, List.set_cons_zero, List.set_cons_succ]
      refine wpAnyH_take (i := 5) (oi := { dst := some 77, op := Op.pick (Operand.tmp 74) (Operand.const (Value.bool true)) (Operand.tmp 76), type := 4, pos := "law.go:67", after := #[{ on := 2, ground := Ground.data }, { on := 4, ground := Ground.data }], guard := none }) (v := ?tkv3006) rfl (by kernel_rfl) (by kernel_rfl) (by kernel_rfl) (fun _ _ _ h => h) (Or.inl ⟨by rfl, ?tky3006⟩) hH0 ?tkr3006
      case tky3006 => (intro w' hSw; clear hSw; go_simp; try with_reducible rfl)
      try simp only [Act.put, List.setIfInBounds_toArray, List.set_cons_zero, List.set_cons_succ]
      refine wpAnyH_take (i := 6) (oi := { dst := some 78, op := Op.move (Operand.tmp 77), type := 4, pos := "law.go:67", after := #[{ on := 5, ground := Ground.data }, { on := 2, ground := Ground.chain }], guard := none }) (v := ?tkv3007) rfl (by kernel_rfl) (by kernel_rfl) (by kernel_rfl) (fun _ _ _ h => h) (Or.inl ⟨by rfl, ?tky3007⟩) hH0 ?tkr3007
      case tky3007 => (intro w' hSw; clear hSw; go_simp; try with_reducible rfl)
      try simp only [Act.put, List.setIfInBounds_toArray, List.set_cons_zero, List.set_cons_succ]
      refine wpAnyH_take (i := 7) (oi := { dst := some 79, op := Op.move (Operand.tmp 14), type := 27, pos := "law.go:67", after := #[{ on := 6, ground := Ground.guard }], guard := some (6, false) }) (v := ?tkv3008) rfl (by kernel_rfl) (by kernel_rfl) (by kernel_rfl) (fun _ _ _ h => h) (Or.inl ⟨by rfl, ?tky3008⟩) hH0 ?tkr3008
      case tky3008 => (intro w' hSw; clear hSw; go_simp; try with_reducible rfl)
      try simp only [Act.put, List.setIfInBounds_toArray, List.set_cons_zero, List.set_cons_succ]
      refine wpAnyH_take (i := 8) (oi := { dst := some 80, op := Op.binOp BinOp.neq 27 (Operand.tmp 79) (Operand.const (Value.int IntKind.i64 0)) 27, type := 4, pos := "law.go:67", after := #[{ on := 7, ground := Ground.data }, { on := 6, ground := Ground.guard }], guard := some (6, false) }) (v := ?tkv3009) rfl (by kernel_rfl) (by kernel_rfl) (by kernel_rfl) (fun _ _ _ h => h) (Or.inl ⟨by rfl, ?tky3009⟩) hH0 ?tkr3009
      case tky3009 => (intro w' hSw; clear hSw; go_simp; try with_reducible rfl)
      try simp only [Act.put, List.setIfInBounds_toArray, List.set_cons_zero, List.set_cons_succ]
      refine wpAnyH_take (i := 9) (oi := { dst := some 81, op := Op.pick (Operand.tmp 78) (Operand.const (Value.bool true)) (Operand.tmp 80), type := 4, pos := "law.go:67", after := #[{ on := 6, ground := Ground.data }, { on := 8, ground := Ground.data }], guard := none }) (v := ?tkv3010) rfl (by kernel_rfl) (by kernel_rfl) (by kernel_rfl) (fun _ _ _ h => h) (Or.inl ⟨by rfl, ?tky3010⟩) hH0 ?tkr3010
      case tky3010 => (intro w' hSw; clear hSw; go_simp; try with_reducible rfl)
      try simp only [Act.put, List.setIfInBounds_toArray, List.set_cons_zero, List.set_cons_succ]
      refine wpAnyH_take (i := 10) (oi := { dst := some 82, op := Op.move (Operand.tmp 81), type := 4, pos := "law.go:67", after := #[{ on := 9, ground := Ground.data }, { on := 6, ground := Ground.chain }], guard := none }) (v := ?tkv3011) rfl (by kernel_rfl) (by kernel_rfl) (by kernel_rfl) (fun _ _ _ h => h) (Or.inl ⟨by rfl, ?tky3011⟩) hH0 ?tkr3011
      case tky3011 => (intro w' hSw; clear hSw; go_simp; try with_reducible rfl)
      try simp only [Act.put, List.setIfInBounds_toArray, List.set_cons_zero, List.set_cons_succ]
      refine wpAnyH_take (i := 11) (oi := { dst := some 83, op := Op.load 25 (Operand.tmp 9), type := 25, pos := "law.go:67", after := #[{ on := 10, ground := Ground.guard }], guard := some (10, false) }) (v := .agg cs9) rfl (by kernel_rfl) (by kernel_rfl) (by kernel_rfl) (fun _ _ _ h => h) (yields_row (by rfl) _ _ rfl (b9) rfl _ _ _ _ (fun W hW => (HE.out W hW).bx _ _ _ (.tail _ (.head _))) Tryd.underlying25 rfl I9.out) hH0 ?tkr3012
      try simp only [Act.put, List.setIfInBounds_toArray, List.set_cons_zero, List.set_cons_succ]
      refine wpAnyH_take (i := 12) (oi := { dst := some 84, op := Op.load 25 (Operand.tmp 3), type := 25, pos := "law.go:67", after := #[{ on := 10, ground := Ground.guard }], guard := some (10, false) }) (v := .agg cs) rfl (by kernel_rfl) (by kernel_rfl) (by kernel_rfl) (fun _ _ _ h => h) (yields_row (by rfl) _ _ rfl (w.heap.size) rfl _ _ _ _ (fun W hW => (HE.out W hW).bx _ _ _ (.tail _ (.tail _ (.tail _ (.head _))))) Tryd.underlying25 rfl IA.out) hH0 ?tkr3013
      try simp only [Act.put, List.setIfInBounds_toArray, List.set_cons_zero, List.set_cons_succ]
      refine wpAnyH_ready (rs := [13]) (by kernel_rfl) (by simp) ?_
      refine AllReadyH.cons (o := { dst := some 85, op := Op.call { callee := Callee.value (Operand.func 15), args := #[Operand.tmp 83, Operand.tmp 84], argTypes := #[25, 25] }, type := 4, pos := "law.go:67", after := #[{ on := 11, ground := Ground.data }, { on := 12, ground := Ground.data }, { on := 10, ground := Ground.chain }, { on := 10, ground := Ground.guard }], guard := some (10, false) }) rfl (fun K hK => ?_) AllReadyH.nil
      go_simp
      refine (sameM ((HE.out wd3000 (hH0)).mn _ _ (.tail _ (.head _))) ((HE.out wd3000 (hH0)).mn _ _ (.tail _ (.tail _ (.tail _ (.head _)))))).mono ?_
      rintro e' wn3014 ⟨rfl, hb3014⟩
      rw [eqbM_refl]
      go_simp
      have hS3014 : Below (wB.heap.size) wB wn3014 := (hH0).trans (hb3014.mono (hH0).size)
      refine hK.out _ _ hS3014 (fun hH3014 => ?_)
      have hH3014 : Below (wB.heap.size) wB wn3014 := hH3014
      clear hK K hS3014
      try simp only [Act.put, List.setIfInBounds_toArray, List.set_cons_zero, List.set_cons_succ]
      refine wpAnyH_take (i := 14) (oi := { dst := some 86, op := Op.unOp UnOp.not 4 (Operand.tmp 85), type := 4, pos := "law.go:67", after := #[{ on := 13, ground := Ground.data }, { on := 10, ground := Ground.guard }], guard := some (10, false) }) (v := ?tkv3015) rfl (by kernel_rfl) (by kernel_rfl) (by kernel_rfl) (fun _ _ _ h => h) (Or.inl ⟨by rfl, ?tky3015⟩) hH3014 ?tkr3015
      case tky3015 => (intro w' hSw; clear hSw; go_simp; try with_reducible rfl)
      try simp only [Act.put, List.setIfInBounds_toArray, List.set_cons_zero, List.set_cons_succ]
      refine wpAnyH_take (i := 15) (oi := { dst := some 87, op := Op.pick (Operand.tmp 82) (Operand.const (Value.bool true)) (Operand.tmp 86), type := 4, pos := "law.go:67", after := #[{ on := 10, ground := Ground.data }, { on := 14, ground := Ground.data }], guard := none }) (v := ?tkv3016) rfl (by kernel_rfl) (by kernel_rfl) (by kernel_rfl) (fun _ _ _ h => h) (Or.inl ⟨by rfl, ?tky3016⟩) hH3014 ?tkr3016
      case tky3016 => (intro w' hSw; clear hSw; go_simp; try with_reducible rfl)
      try simp only [Act.put, List.setIfInBounds_toArray, List.set_cons_zero, List.set_cons_succ]
      refine wpAnyH_take (i := 16) (oi := { dst := some 88, op := Op.move (Operand.tmp 87), type := 4, pos := "law.go:67", after := #[{ on := 15, ground := Ground.data }, { on := 13, ground := Ground.chain }], guard := none }) (v := ?tkv3017) rfl (by kernel_rfl) (by kernel_rfl) (by kernel_rfl) (fun _ _ _ h => h) (Or.inl ⟨by rfl, ?tky3017⟩) hH3014 ?tkr3017
      case tky3017 => (intro w' hSw; clear hSw; go_simp; try with_reducible rfl)
      try simp only [Act.put, List.setIfInBounds_toArray, List.set_cons_zero, List.set_cons_succ]
      refine wpAnyH_take (i := 17) (oi := { dst := some 89, op := Op.load 25 (Operand.tmp 13), type := 25, pos := "law.go:67", after := #[{ on := 16, ground := Ground.guard }], guard := some (16, false) }) (v := .agg cs13) rfl (by kernel_rfl) (by kernel_rfl) (by kernel_rfl) (fun _ _ _ h => h) (yields_row (by rfl) _ _ rfl (b13) rfl _ _ _ _ (fun W hW => (HE.out W hW).bx _ _ _ (.head _)) Tryd.underlying25 rfl I13.out) hH3014 ?tkr3018
      try simp only [Act.put, List.setIfInBounds_toArray, List.set_cons_zero, List.set_cons_succ]
      refine wpAnyH_take (i := 18) (oi := { dst := some 90, op := Op.load 25 (Operand.tmp 3), type := 25, pos := "law.go:67", after := #[{ on := 16, ground := Ground.guard }], guard := some (16, false) }) (v := .agg cs) rfl (by kernel_rfl) (by kernel_rfl) (by kernel_rfl) (fun _ _ _ h => h) (yields_row (by rfl) _ _ rfl (w.heap.size) rfl _ _ _ _ (fun W hW => (HE.out W hW).bx _ _ _ (.tail _ (.tail _ (.tail _ (.head _))))) Tryd.underlying25 rfl IA.out) hH3014 ?tkr3019
      try simp only [Act.put, List.setIfInBounds_toArray, List.set_cons_zero, List.set_cons_succ]
      refine wpAnyH_ready (rs := [19]) (by kernel_rfl) (by simp) ?_
      refine AllReadyH.cons (o := { dst := some 91, op := Op.call { callee := Callee.value (Operand.func 15), args := #[Operand.tmp 89, Operand.tmp 90], argTypes := #[25, 25] }, type := 4, pos := "law.go:67", after := #[{ on := 17, ground := Ground.data }, { on := 18, ground := Ground.data }, { on := 16, ground := Ground.chain }, { on := 16, ground := Ground.guard }], guard := some (16, false) }) rfl (fun K hK => ?_) AllReadyH.nil
      go_simp
      refine (sameM ((HE.out wn3014 (hH3014)).mn _ _ (.head _)) ((HE.out wn3014 (hH3014)).mn _ _ (.tail _ (.tail _ (.tail _ (.head _)))))).mono ?_
      rintro e' wn3020 ⟨rfl, hb3020⟩
      rw [eqbM_refl]
      go_simp
      have hS3020 : Below (wB.heap.size) wB wn3020 := (hH3014).trans (hb3020.mono (hH3014).size)
      refine hK.out _ _ hS3020 (fun hH3020 => ?_)
      have hH3020 : Below (wB.heap.size) wB wn3020 := hH3020
      clear hK K hS3020
      try simp only [Act.put, List.setIfInBounds_toArray, List.set_cons_zero, List.set_cons_succ]
      refine wpAnyH_take (i := 20) (oi := { dst := some 92, op := Op.unOp UnOp.not 4 (Operand.tmp 91), type := 4, pos := "law.go:67", after := #[{ on := 19, ground := Ground.data }, { on := 16, ground := Ground.guard }], guard := some (16, false) }) (v := ?tkv3021) rfl (by kernel_rfl) (by kernel_rfl) (by kernel_rfl) (fun _ _ _ h => h) (Or.inl ⟨by rfl, ?tky3021⟩) hH3020 ?tkr3021
      case tky3021 => (intro w' hSw; clear hSw; go_simp; try with_reducible rfl)
      try simp only [Act.put, List.setIfInBounds_toArray, List.set_cons_zero, List.set_cons_succ]
      refine wpAnyH_take (i := 21) (oi := { dst := some 93, op := Op.pick (Operand.tmp 88) (Operand.const (Value.bool true)) (Operand.tmp 92), type := 4, pos := "law.go:67", after := #[{ on := 16, ground := Ground.data }, { on := 20, ground := Ground.data }], guard := none }) (v := ?tkv3022) rfl (by kernel_rfl) (by kernel_rfl) (by kernel_rfl) (fun _ _ _ h => h) (Or.inl ⟨by rfl, ?tky3022⟩) hH3020 ?tkr3022
      case tky3022 => (intro w' hSw; clear hSw; go_simp; try with_reducible rfl)
      try simp only [Act.put, List.setIfInBounds_toArray, List.set_cons_zero, List.set_cons_succ]
      refine wpAnyH_take (i := 22) (oi := { dst := some 94, op := Op.move (Operand.tmp 93), type := 4, pos := "law.go:67", after := #[{ on := 21, ground := Ground.data }, { on := 19, ground := Ground.chain }], guard := none }) (v := ?tkv3023) rfl (by kernel_rfl) (by kernel_rfl) (by kernel_rfl) (fun _ _ _ h => h) (Or.inl ⟨by rfl, ?tky3023⟩) hH3020 ?tkr3023
      case tky3023 => (intro w' hSw; clear hSw; go_simp; try with_reducible rfl)
      try simp only [Act.put, List.setIfInBounds_toArray, List.set_cons_zero, List.set_cons_succ]
      refine wpAnyH_take (i := 23) (oi := { dst := some 95, op := Op.move (Operand.tmp 7), type := 23, pos := "law.go:67", after := #[{ on := 22, ground := Ground.guard }], guard := some (22, false) }) (v := ?tkv3024) rfl (by kernel_rfl) (by kernel_rfl) (by kernel_rfl) (fun _ _ _ h => h) (Or.inl ⟨by rfl, ?tky3024⟩) hH3020 ?tkr3024
      case tky3024 => (intro w' hSw; clear hSw; go_simp; try with_reducible rfl)
      try simp only [Act.put, List.setIfInBounds_toArray, List.set_cons_zero, List.set_cons_succ]
      refine wpAnyH_take (i := 24) (oi := { dst := some 96, op := Op.call { callee := Callee.builtin Builtin.len, args := #[Operand.tmp 95], argTypes := #[23] }, type := 3, pos := "law.go:67", after := #[{ on := 23, ground := Ground.data }, { on := 22, ground := Ground.guard }], guard := some (22, false) }) (v := ?tkv3025) rfl (by kernel_rfl) (by kernel_rfl) (by kernel_rfl) (fun _ _ _ h => h) (Or.inl ⟨by rfl, ?tky3025⟩) hH3020 ?tkr3025
      case tky3025 => (intro w' hSw; clear hSw; go_simp; try with_reducible rfl)
      try simp only [Act.put, List.setIfInBounds_toArray, List.set_cons_zero, List.set_cons_succ]
      refine wpAnyH_take (i := 25) (oi := { dst := some 97, op := Op.binOp BinOp.neq 3 (Operand.tmp 96) (Operand.const (Value.int IntKind.i64 76)) 3, type := 4, pos := "law.go:67", after := #[{ on := 24, ground := Ground.data }, { on := 22, ground := Ground.guard }], guard := some (22, false) }) (v := ?tkv3026) rfl (by kernel_rfl) (by kernel_rfl) (by kernel_rfl) (fun _ _ _ h => h) (Or.inl ⟨by rfl, ?tky3026⟩) hH3020 ?tkr3026
      case tky3026 => (intro w' hSw; clear hSw; go_simp; try with_reducible rfl)
      try simp only [Act.put, List.setIfInBounds_toArray, List.set_cons_zero, List.set_cons_succ]
      refine wpAnyH_take (i := 26) (oi := { dst := some 98, op := Op.pick (Operand.tmp 94) (Operand.const (Value.bool true)) (Operand.tmp 97), type := 4, pos := "law.go:67", after := #[{ on := 22, ground := Ground.data }, { on := 25, ground := Ground.data }], guard := none }) (v := ?tkv3027) rfl (by kernel_rfl) (by kernel_rfl) (by kernel_rfl) (fun _ _ _ h => h) (Or.inl ⟨by rfl, ?tky3027⟩) hH3020 ?tkr3027
      case tky3027 => (intro w' hSw; clear hSw; go_simp; try with_reducible rfl)
      try simp only [Act.put, List.setIfInBounds_toArray, List.set_cons_zero, List.set_cons_succ]
      refine wpAnyH_take (i := 27) (oi := { dst := some 99, op := Op.move (Operand.tmp 98), type := 4, pos := "law.go:67", after := #[{ on := 26, ground := Ground.data }, { on := 22, ground := Ground.chain }], guard := none }) (v := ?tkv3028) rfl (by kernel_rfl) (by kernel_rfl) (by kernel_rfl) (fun _ _ _ h => h) (Or.inl ⟨by rfl, ?tky3028⟩) hH3020 ?tkr3028
      case tky3028 => (intro w' hSw; clear hSw; go_simp; try with_reducible rfl)
      try simp only [Act.put, List.setIfInBounds_toArray, List.set_cons_zero, List.set_cons_succ]
      refine wpAnyH_take (i := 28) (oi := { dst := some 100, op := Op.move (Operand.tmp 7), type := 23, pos := "law.go:67", after := #[{ on := 27, ground := Ground.guard }], guard := some (27, false) }) (v := ?tkv3029) rfl (by kernel_rfl) (by kernel_rfl) (by kernel_rfl) (fun _ _ _ h => h) (Or.inl ⟨by rfl, ?tky3029⟩) hH3020 ?tkr3029
      case tky3029 => (intro w' hSw; clear hSw; go_simp; try with_reducible rfl)
      try simp only [Act.put, List.setIfInBounds_toArray, List.set_cons_zero, List.set_cons_succ]
      refine wpAnyH_take (i := 29) (oi := { dst := some 101, op := Op.slice 23 (Operand.tmp 100) none (some (Operand.const (Value.int IntKind.i64 44))) none, type := 23, pos := "law.go:67", after := #[{ on := 28, ground := Ground.data }, { on := 27, ground := Ground.guard }], guard := some (27, false) }) (v := ?tkv3030) rfl (by kernel_rfl) (by kernel_rfl) (by kernel_rfl) (fun _ _ _ h => h) (Or.inl ⟨by rfl, ?tky3030⟩) hH3020 ?tkr3030
      case tky3030 => (intro w' hSw; have z0 := HS1.out _ hSw; have z1 := HS2.out _ hSw; clear hSw; go_simp; try with_reducible rfl)
      try simp only [Act.put, List.setIfInBounds_toArray, List.set_cons_zero, List.set_cons_succ]
      refine wpAnyH_take (i := 30) (oi := { dst := some 102, op := Op.convert 23 9 (Operand.tmp 101), type := 9, pos := "law.go:67", after := #[{ on := 29, ground := Ground.data }, { on := 27, ground := Ground.guard }], guard := some (27, false) }) (v := ?tkv3031) rfl (by kernel_rfl) (by kernel_rfl) (by kernel_rfl) (fun _ _ _ h => h) (Or.inl ⟨by rfl, ?tky3031⟩) hH3020 ?tkr3031
      case tky3031 => (intro w' hSw; have z0 := HS1.out _ hSw; have z1 := HS2.out _ hSw; clear hSw; go_simp; try with_reducible rfl)
      try simp only [Act.put, List.setIfInBounds_toArray, List.set_cons_zero, List.set_cons_succ]
      refine wpAnyH_take (i := 31) (oi := { dst := some 103, op := Op.move (Operand.tmp 11), type := 23, pos := "law.go:67", after := #[{ on := 27, ground := Ground.guard }], guard := some (27, false) }) (v := ?tkv3032) rfl (by kernel_rfl) (by kernel_rfl) (by kernel_rfl) (fun _ _ _ h => h) (Or.inl ⟨by rfl, ?tky3032⟩) hH3020 ?tkr3032
      case tky3032 => (intro w' hSw; clear hSw; go_simp; try with_reducible rfl)
      try simp only [Act.put, List.setIfInBounds_toArray, List.set_cons_zero, List.set_cons_succ]
      refine wpAnyH_take (i := 32) (oi := { dst := some 104, op := Op.convert 23 9 (Operand.tmp 103), type := 9, pos := "law.go:67", after := #[{ on := 31, ground := Ground.data }, { on := 27, ground := Ground.guard }], guard := some (27, false) }) (v := ?tkv3033) rfl (by kernel_rfl) (by kernel_rfl) (by kernel_rfl) (fun _ _ _ h => h) (Or.inl ⟨by rfl, ?tky3033⟩) hH3020 ?tkr3033
      case tky3033 => (intro w' hSw; have z0 := HS1.out _ hSw; have z1 := HS2.out _ hSw; clear hSw; go_simp; try with_reducible rfl)
      try simp only [Act.put, List.setIfInBounds_toArray, List.set_cons_zero, List.set_cons_succ]
      refine wpAnyH_take (i := 33) (oi := { dst := some 105, op := Op.binOp BinOp.neq 9 (Operand.tmp 102) (Operand.tmp 104) 9, type := 4, pos := "law.go:67", after := #[{ on := 30, ground := Ground.data }, { on := 32, ground := Ground.data }, { on := 27, ground := Ground.guard }], guard := some (27, false) }) (v := ?tkv3034) rfl (by kernel_rfl) (by kernel_rfl) (by kernel_rfl) (fun _ _ _ h => h) (Or.inl ⟨by rfl, ?tky3034⟩) hH3020 ?tkr3034
      case tky3034 => (intro w' hSw; clear hSw; go_simp; try with_reducible rfl)
      try simp only [Act.put, List.setIfInBounds_toArray, List.set_cons_zero, List.set_cons_succ]
      refine wpAnyH_take (i := 34) (oi := { dst := some 106, op := Op.pick (Operand.tmp 99) (Operand.const (Value.bool true)) (Operand.tmp 105), type := 4, pos := "law.go:67", after := #[{ on := 27, ground := Ground.data }, { on := 33, ground := Ground.data }], guard := none }) (v := ?tkv3035) rfl (by kernel_rfl) (by kernel_rfl) (by kernel_rfl) (fun _ _ _ h => h) (Or.inl ⟨by rfl, ?tky3035⟩) hH3020 ?tkr3035
      case tky3035 => (intro w' hSw; clear hSw; go_simp; try with_reducible rfl)
      try simp only [Act.put, List.setIfInBounds_toArray, List.set_cons_zero, List.set_cons_succ]
      refine wpAnyH_done (by kernel_rfl) ?_ _
      refine NoPanic.normal ?_
      have HEND := Lib.hid (And.intro (HE.out _ (hH3020)) (hH3020))
      go_wp2_with fail
      go_meet
      exact ⟨rfl, HEND⟩
    case rest =>
      obtain ⟨rfl, HE3⟩ := hcut
      have E14 := Lib.hid HE3.out.1
      have RC := Lib.hid ((RB.out.below HE3.out.2).more HE3.out.2.size)
      clear HE HS1 HS2 RB HE3
      obtain ⟨wY, rfl⟩ : ∃ W : World, W = wc := ⟨_, rfl⟩
      go_wp2_with ((with_reducible show wpList _ _ _ _ _ _); refine wpList_load_row (o := ⟨some 108, _, _, _, _, _⟩) rfl _ (.tmp 4) rfl (w.heap.size + 1) rfl _ _ _ _ (E14.out.bx _ _ _ (.tail _ (.tail _ (.head _)))) Tryd.underlying25 rfl IB.out ?_)
      cases hk : K.may with
      | false =>
        refine (plainM_no (E14.out.mn _ _ (.tail _ (.tail _ (.head _)))) hk).mono ?_
        rintro e wC ⟨rfl, hbC⟩
        have EC := Lib.hid (E14.out.below hbC)
        clear hbC E14 RC hk
        go_upto_region 14 with fail
        have HE : Hid (∀ W, Below wC.heap.size wC W → Env w W [(b13, cs13, 25), (b9, cs9, 25), ((w.heap.size + 1), ds, 25), (w.heap.size, cs, 25)] [] [(cs13, M), (cs9, M), (ds, K), (cs, M)]) := Lib.hid fun W hW => EC.out.below hW
        refine wp_region_noPanic ?_
        refine wp_region_held_drew (S := (fun W => Below (wC.heap.size) wC W)) (by kernel_rfl) (Below.refl _ _).drew (fun hH0 => ?_)
        have hH0 : Below (wC.heap.size) wC wC.drew := hH0
        generalize wC.drew = wd5000 at *
        refine wpAnyH_take (i := 0) (oi := { dst := some 112, op := Op.move (Operand.tmp 16), type := 27, pos := "law.go:71", after := #[], guard := none }) (v := ?tkv5001) rfl (by kernel_rfl) (by kernel_rfl) (by kernel_rfl) (fun _ _ _ h => h) (Or.inl ⟨by rfl, ?tky5001⟩) hH0 ?tkr5001
        case tky5001 => (intro w' hSw; clear hSw; go_simp; try with_reducible rfl)
        try simp only [Act.put, List.setIfInBounds_toArray, List.set_cons_zero, List.set_cons_succ]
        refine wpAnyH_take (i := 1) (oi := { dst := some 113, op := Op.binOp BinOp.neq 27 (Operand.tmp 112) (Operand.const (Value.int IntKind.i64 0)) 27, type := 4, pos := "law.go:71", after := #[{ on := 0, ground := Ground.data }], guard := none }) (v := ?tkv5002) rfl (by kernel_rfl) (by kernel_rfl) (by kernel_rfl) (fun _ _ _ h => h) (Or.inl ⟨by rfl, ?tky5002⟩) hH0 ?tkr5002
        case tky5002 => (intro w' hSw; clear hSw; go_simp; try with_reducible rfl)
        try simp only [Act.put, List.setIfInBounds_toArray, List.set_cons_zero, List.set_cons_succ]
        refine wpAnyH_take (i := 2) (oi := { dst := some 114, op := Op.move (Operand.tmp 113), type := 4, pos := "law.go:71", after := #[{ on := 1, ground := Ground.data }], guard := none }) (v := ?tkv5003) rfl (by kernel_rfl) (by kernel_rfl) (by kernel_rfl) (fun _ _ _ h => h) (Or.inl ⟨by rfl, ?tky5003⟩) hH0 ?tkr5003
        case tky5003 => (intro w' hSw; clear hSw; go_simp; try with_reducible rfl)
        try simp only [Act.put, List.setIfInBounds_toArray, List.set_cons_zero, List.set_cons_succ]
        refine wpAnyH_take (i := 3) (oi := { dst := some 115, op := Op.move (Operand.tmp 15), type := 23, pos := "law.go:71", after := #[{ on := 2, ground := Ground.guard }], guard := some (2, false) }) (v := undef) rfl (by kernel_rfl) (by kernel_rfl) (by kernel_rfl) (fun _ _ _ h => h) (Or.inr ⟨by rfl, rfl⟩) hH0 ?tkr5004
        try simp only [Act.put, List.setIfInBounds_toArray, List.set_cons_zero, List.set_cons_succ]
        refine wpAnyH_take (i := 4) (oi := { dst := some 116, op := Op.convert 23 9 (Operand.tmp 115), type := 9, pos := "law.go:71", after := #[{ on := 3, ground := Ground.data }, { on := 2, ground := Ground.guard }], guard := some (2, false) }) (v := undef) rfl (by kernel_rfl) (by kernel_rfl) (by kernel_rfl) (fun _ _ _ h => h) (Or.inr ⟨by rfl, rfl⟩) hH0 ?tkr5005
        try simp only [Act.put, List.setIfInBounds_toArray, List.set_cons_zero, List.set_cons_succ]
        refine wpAnyH_take (i := 5) (oi := { dst := some 117, op := Op.move (Operand.tmp 11), type := 23, pos := "law.go:71", after := #[{ on := 2, ground := Ground.guard }], guard := some (2, false) }) (v := undef) rfl (by kernel_rfl) (by kernel_rfl) (by kernel_rfl) (fun _ _ _ h => h) (Or.inr ⟨by rfl, rfl⟩) hH0 ?tkr5006
        try simp only [Act.put, List.setIfInBounds_toArray, List.set_cons_zero, List.set_cons_succ]
        refine wpAnyH_take (i := 6) (oi := { dst := some 118, op := Op.convert 23 9 (Operand.tmp 117), type := 9, pos := "law.go:71", after := #[{ on := 5, ground := Ground.data }, { on := 2, ground := Ground.guard }], guard := some (2, false) }) (v := undef) rfl (by kernel_rfl) (by kernel_rfl) (by kernel_rfl) (fun _ _ _ h => h) (Or.inr ⟨by rfl, rfl⟩) hH0 ?tkr5007
        try simp only [Act.put, List.setIfInBounds_toArray, List.set_cons_zero, List.set_cons_succ]
        refine wpAnyH_take (i := 7) (oi := { dst := some 119, op := Op.binOp BinOp.eql 9 (Operand.tmp 116) (Operand.tmp 118) 9, type := 4, pos := "law.go:71", after := #[{ on := 4, ground := Ground.data }, { on := 6, ground := Ground.data }, { on := 2, ground := Ground.guard }], guard := some (2, false) }) (v := undef) rfl (by kernel_rfl) (by kernel_rfl) (by kernel_rfl) (fun _ _ _ h => h) (Or.inr ⟨by rfl, rfl⟩) hH0 ?tkr5008
        try simp only [Act.put, List.setIfInBounds_toArray, List.set_cons_zero, List.set_cons_succ]
        refine wpAnyH_take (i := 8) (oi := { dst := some 120, op := Op.load 25 (Operand.tmp 3), type := 25, pos := "law.go:71", after := #[{ on := 2, ground := Ground.guard }], guard := some (2, false) }) (v := undef) rfl (by kernel_rfl) (by kernel_rfl) (by kernel_rfl) (fun _ _ _ h => h) (Or.inr ⟨by rfl, rfl⟩) hH0 ?tkr5009
        try simp only [Act.put, List.setIfInBounds_toArray, List.set_cons_zero, List.set_cons_succ]
        refine wpAnyH_take (i := 9) (oi := { dst := some 121, op := Op.load 25 (Operand.tmp 4), type := 25, pos := "law.go:71", after := #[{ on := 2, ground := Ground.guard }], guard := some (2, false) }) (v := undef) rfl (by kernel_rfl) (by kernel_rfl) (by kernel_rfl) (fun _ _ _ h => h) (Or.inr ⟨by rfl, rfl⟩) hH0 ?tkr5010
        try simp only [Act.put, List.setIfInBounds_toArray, List.set_cons_zero, List.set_cons_succ]
        refine wpAnyH_take (i := 10) (oi := { dst := some 122, op := Op.call { callee := Callee.value (Operand.func 15), args := #[Operand.tmp 120, Operand.tmp 121], argTypes := #[25, 25] }, type := 4, pos := "law.go:71", after := #[{ on := 8, ground := Ground.data }, { on := 9, ground := Ground.data }, { on := 2, ground := Ground.chain }, { on := 2, ground := Ground.guard }], guard := some (2, false) }) (v := undef) rfl (by kernel_rfl) (by kernel_rfl) (by kernel_rfl) (fun _ _ _ h => h) (Or.inr ⟨by rfl, rfl⟩) hH0 ?tkr5011
        try simp only [Act.put, List.setIfInBounds_toArray, List.set_cons_zero, List.set_cons_succ]
        refine wpAnyH_take (i := 11) (oi := { dst := some 123, op := Op.binOp BinOp.eql 4 (Operand.tmp 119) (Operand.tmp 122) 4, type := 4, pos := "law.go:71", after := #[{ on := 7, ground := Ground.data }, { on := 10, ground := Ground.data }, { on := 2, ground := Ground.guard }], guard := some (2, false) }) (v := undef) rfl (by kernel_rfl) (by kernel_rfl) (by kernel_rfl) (fun _ _ _ h => h) (Or.inr ⟨by rfl, rfl⟩) hH0 ?tkr5012
        try simp only [Act.put, List.setIfInBounds_toArray, List.set_cons_zero, List.set_cons_succ]
        refine wpAnyH_take (i := 12) (oi := { dst := some 124, op := Op.pick (Operand.tmp 114) (Operand.const (Value.bool true)) (Operand.tmp 123), type := 4, pos := "law.go:71", after := #[{ on := 2, ground := Ground.data }, { on := 11, ground := Ground.data }], guard := none }) (v := ?tkv5013) rfl (by kernel_rfl) (by kernel_rfl) (by kernel_rfl) (fun _ _ _ h => h) (Or.inl ⟨by rfl, ?tky5013⟩) hH0 ?tkr5013
        case tky5013 => (intro w' hSw; clear hSw; go_simp; try with_reducible rfl)
        try simp only [Act.put, List.setIfInBounds_toArray, List.set_cons_zero, List.set_cons_succ]
        refine wpAnyH_take (i := 13) (oi := { dst := some 125, op := Op.move (Operand.tmp 124), type := 4, pos := "law.go:71", after := #[{ on := 12, ground := Ground.data }, { on := 10, ground := Ground.chain }], guard := none }) (v := ?tkv5014) rfl (by kernel_rfl) (by kernel_rfl) (by kernel_rfl) (fun _ _ _ h => h) (Or.inl ⟨by rfl, ?tky5014⟩) hH0 ?tkr5014
        case tky5014 => (intro w' hSw; clear hSw; go_simp; try with_reducible rfl)
        try simp only [Act.put, List.setIfInBounds_toArray, List.set_cons_zero, List.set_cons_succ]
        refine wpAnyH_ready (rs := [14]) (by kernel_rfl) (by simp) ?_
        refine AllReadyH.cons (o := { dst := some 126, op := Op.call { callee := Callee.value (Operand.func 8), args := #[], argTypes := #[] }, type := 4, pos := "law.go:71", after := #[{ on := 13, ground := Ground.chain }, { on := 13, ground := Ground.guard }], guard := some (13, true) }) rfl (fun K hK => ?_) AllReadyH.nil
        go_simp
        refine (awake14_any wd5000 (HT.out.below (HE.out _ (hH0)).b HT.out.1)).mono ?_
        rintro e' wn5015 ⟨rfl, hb5015⟩
        go_simp
        have hS5015 : Below (wC.heap.size) wC wn5015 := (hH0).trans (hb5015.mono (hH0).size)
        refine hK.out _ _ hS5015 (fun hH5015 => ?_)
        have hH5015 : Below (wC.heap.size) wC wn5015 := hH5015
        clear hK K hS5015
        try simp only [Act.put, List.setIfInBounds_toArray, List.set_cons_zero, List.set_cons_succ]
        refine wpAnyH_take (i := 15) (oi := { dst := some 127, op := Op.pick (Operand.tmp 125) (Operand.tmp 126) (Operand.const (Value.bool false)), type := 4, pos := "law.go:71", after := #[{ on := 13, ground := Ground.data }, { on := 14, ground := Ground.data }], guard := none }) (v := ?tkv5016) rfl (by kernel_rfl) (by kernel_rfl) (by kernel_rfl) (fun _ _ _ h => h) (Or.inl ⟨by rfl, ?tky5016⟩) hH5015 ?tkr5016
        case tky5016 => (intro w' hSw; clear hSw; go_simp; try with_reducible rfl)
        try simp only [Act.put, List.setIfInBounds_toArray, List.set_cons_zero, List.set_cons_succ]
        refine wpAnyH_take (i := 16) (oi := { dst := some 6, op := Op.assign (Operand.tmp 127), type := 4, pos := "law.go:71", after := #[{ on := 15, ground := Ground.data }, { on := 14, ground := Ground.chain }, { on := 0, ground := Ground.phase }, { on := 1, ground := Ground.phase }, { on := 2, ground := Ground.phase }, { on := 3, ground := Ground.phase }, { on := 4, ground := Ground.phase }, { on := 5, ground := Ground.phase }, { on := 6, ground := Ground.phase }, { on := 7, ground := Ground.phase }, { on := 8, ground := Ground.phase }, { on := 9, ground := Ground.phase }, { on := 10, ground := Ground.phase }, { on := 11, ground := Ground.phase }, { on := 12, ground := Ground.phase }, { on := 13, ground := Ground.phase }, { on := 14, ground := Ground.phase }, { on := 15, ground := Ground.phase }], guard := none }) (v := ?tkv5017) rfl (by kernel_rfl) (by kernel_rfl) (by kernel_rfl) (fun _ _ _ h => h) (Or.inl ⟨by rfl, ?tky5017⟩) hH5015 ?tkr5017
        case tky5017 => (intro w' hSw; clear hSw; go_simp; try with_reducible rfl)
        try simp only [Act.put, List.setIfInBounds_toArray, List.set_cons_zero, List.set_cons_succ]
        refine wpAnyH_done (by kernel_rfl) ?_ _
        refine NoPanic.normal ?_
        have hb := (HE.out _ (hH5015)).b
        go_wp2_with fail
        go_ret
        exact ⟨rfl, hb⟩
      | true =>
        have HK := Lib.hid hk
        clear hk
        refine (plainM_yes (E14.out.mn _ _ (.tail _ (.tail _ (.head _)))) HK.out HWK.out).mono ?_
        rintro e wC ⟨A15, c15, rfl, O15, hbC⟩
        have EC := Lib.hid (E14.out.below hbC.out)
        have RD := Lib.hid ((RC.out.below hbC.out).more hbC.out.size)
        have R15 := Lib.hid (Row.of_own O15.out)
        clear hbC E14 RC O15
        go_upto_region 14 with fail
        have HS2 : Hid (∀ W, Below wC.heap.size wC W → (convert 23 9 (.slice (some ⟨b11, o11, none⟩) 44 c11)).run Tryd.prog W = .ok (.string ⟨(M.bytes).toArray⟩) W) := Lib.hid fun W hW => run_string_row (P := Tryd.prog) (show Row W _ (some ⟨b11, o11, none⟩) 44 (bv M.bytes) from RD.out.below hW) c11 23 9 5 Tryd.underlying23 Tryd.underlying5 Tryd.underlying9
        have HS3 : Hid (∀ W, Below wC.heap.size wC W → (convert 23 9 (.slice A15 44 c15)).run Tryd.prog W = .ok (.string ⟨(K.bytes).toArray⟩) W) := Lib.hid fun W hW => run_string_row (P := Tryd.prog) (show Row W _ A15 44 (bv K.bytes) from R15.out.below hW) c15 23 9 5 Tryd.underlying23 Tryd.underlying5 Tryd.underlying9
        clear RD R15
        by_cases hbb : K.bytes = M.bytes
        · have HEQ : Hid (M.eqb K = true) := Lib.hid (by rw [man_inj HM.out HWM.out HK.out HWK.out hbb]; exact eqbM_refl _)
          rw [hbb] at HS3
          clear hbb
          have HE : Hid (∀ W, Below wC.heap.size wC W → Env w W [(b13, cs13, 25), (b9, cs9, 25), ((w.heap.size + 1), ds, 25), (w.heap.size, cs, 25)] [] [(cs13, M), (cs9, M), (ds, K), (cs, M)]) := Lib.hid fun W hW => EC.out.below hW
          refine wp_region_noPanic ?_
          refine wp_region_held_drew (S := (fun W => Below (wC.heap.size) wC W)) (by kernel_rfl) (Below.refl _ _).drew (fun hH0 => ?_)
          have hH0 : Below (wC.heap.size) wC wC.drew := hH0
          generalize wC.drew = wd7000 at *
          refine wpAnyH_take (i := 0) (oi := { dst := some 112, op := Op.move (Operand.tmp 16), type := 27, pos := "law.go:71", after := #[], guard := none }) (v := ?tkv7001) rfl (by kernel_rfl) (by kernel_rfl) (by kernel_rfl) (fun _ _ _ h => h) (Or.inl ⟨by rfl, ?tky7001⟩) hH0 ?tkr7001
          case tky7001 => (intro w' hSw; clear hSw; go_simp; try with_reducible rfl)
          try simp only [Act.put, List.setIfInBounds_toArray, List.set_cons_zero, List.set_cons_succ]
          refine wpAnyH_take (i := 1) (oi := { dst := some 113, op := Op.binOp BinOp.neq 27 (Operand.tmp 112) (Operand.const (Value.int IntKind.i64 0)) 27, type := 4, pos := "law.go:71", after := #[{ on := 0, ground := Ground.data }], guard := none }) (v := ?tkv7002) rfl (by kernel_rfl) (by kernel_rfl) (by kernel_rfl) (fun _ _ _ h => h) (Or.inl ⟨by rfl, ?tky7002⟩) hH0 ?tkr7002
          case tky7002 => (intro w' hSw; clear hSw; go_simp; try with_reducible rfl)
          try simp only [Act.put, List.setIfInBounds_toArray, List.set_cons_zero, List.set_cons_succ]
          refine wpAnyH_take (i := 2) (oi := { dst := some 114, op := Op.move (Operand.tmp 113), type := 4, pos := "law.go:71", after := #[{ on := 1, ground := Ground.data }], guard := none }) (v := ?tkv7003) rfl (by kernel_rfl) (by kernel_rfl) (by kernel_rfl) (fun _ _ _ h => h) (Or.inl ⟨by rfl, ?tky7003⟩) hH0 ?tkr7003
          case tky7003 => (intro w' hSw; clear hSw; go_simp; try with_reducible rfl)
          try simp only [Act.put, List.setIfInBounds_toArray, List.set_cons_zero, List.set_cons_succ]
          refine wpAnyH_take (i := 3) (oi := { dst := some 115, op := Op.move (Operand.tmp 15), type := 23, pos := "law.go:71", after := #[{ on := 2, ground := Ground.guard }], guard := some (2, false) }) (v := ?tkv7004) rfl (by kernel_rfl) (by kernel_rfl) (by kernel_rfl) (fun _ _ _ h => h) (Or.inl ⟨by rfl, ?tky7004⟩) hH0 ?tkr7004
          case tky7004 => (intro w' hSw; clear hSw; go_simp; try with_reducible rfl)
          try simp only [Act.put, List.setIfInBounds_toArray, List.set_cons_zero, List.set_cons_succ]
          refine wpAnyH_take (i := 4) (oi := { dst := some 116, op := Op.convert 23 9 (Operand.tmp 115), type := 9, pos := "law.go:71", after := #[{ on := 3, ground := Ground.data }, { on := 2, ground := Ground.guard }], guard := some (2, false) }) (v := ?tkv7005) rfl (by kernel_rfl) (by kernel_rfl) (by kernel_rfl) (fun _ _ _ h => h) (Or.inl ⟨by rfl, ?tky7005⟩) hH0 ?tkr7005
          case tky7005 => (intro w' hSw; have z0 := HS2.out _ hSw; have z1 := HS3.out _ hSw; clear hSw; go_simp; try with_reducible rfl)
          try simp only [Act.put, List.setIfInBounds_toArray, List.set_cons_zero, List.set_cons_succ]
          refine wpAnyH_take (i := 5) (oi := { dst := some 117, op := Op.move (Operand.tmp 11), type := 23, pos := "law.go:71", after := #[{ on := 2, ground := Ground.guard }], guard := some (2, false) }) (v := ?tkv7006) rfl (by kernel_rfl) (by kernel_rfl) (by kernel_rfl) (fun _ _ _ h => h) (Or.inl ⟨by rfl, ?tky7006⟩) hH0 ?tkr7006
          case tky7006 => (intro w' hSw; clear hSw; go_simp; try with_reducible rfl)
          try simp only [Act.put, List.setIfInBounds_toArray, List.set_cons_zero, List.set_cons_succ]
          refine wpAnyH_take (i := 6) (oi := { dst := some 118, op := Op.convert 23 9 (Operand.tmp 117), type := 9, pos := "law.go:71", after := #[{ on := 5, ground := Ground.data }, { on := 2, ground := Ground.guard }], guard := some (2, false) }) (v := ?tkv7007) rfl (by kernel_rfl) (by kernel_rfl) (by kernel_rfl) (fun _ _ _ h => h) (Or.inl ⟨by rfl, ?tky7007⟩) hH0 ?tkr7007
          case tky7007 => (intro w' hSw; have z0 := HS2.out _ hSw; have z1 := HS3.out _ hSw; clear hSw; go_simp; try with_reducible rfl)
          try simp only [Act.put, List.setIfInBounds_toArray, List.set_cons_zero, List.set_cons_succ]
          refine wpAnyH_take (i := 7) (oi := { dst := some 119, op := Op.binOp BinOp.eql 9 (Operand.tmp 116) (Operand.tmp 118) 9, type := 4, pos := "law.go:71", after := #[{ on := 4, ground := Ground.data }, { on := 6, ground := Ground.data }, { on := 2, ground := Ground.guard }], guard := some (2, false) }) (v := ?tkv7008) rfl (by kernel_rfl) (by kernel_rfl) (by kernel_rfl) (fun _ _ _ h => h) (Or.inl ⟨by rfl, ?tky7008⟩) hH0 ?tkr7008
          case tky7008 => (intro w' hSw; clear hSw; go_simp; try with_reducible rfl)
          try simp only [Act.put, List.setIfInBounds_toArray, List.set_cons_zero, List.set_cons_succ]
          refine wpAnyH_take (i := 8) (oi := { dst := some 120, op := Op.load 25 (Operand.tmp 3), type := 25, pos := "law.go:71", after := #[{ on := 2, ground := Ground.guard }], guard := some (2, false) }) (v := .agg cs) rfl (by kernel_rfl) (by kernel_rfl) (by kernel_rfl) (fun _ _ _ h => h) (yields_row (by rfl) _ _ rfl (w.heap.size) rfl _ _ _ _ (fun W hW => (HE.out W hW).bx _ _ _ (.tail _ (.tail _ (.tail _ (.head _))))) Tryd.underlying25 rfl IA.out) hH0 ?tkr7009
          try simp only [Act.put, List.setIfInBounds_toArray, List.set_cons_zero, List.set_cons_succ]
          refine wpAnyH_take (i := 9) (oi := { dst := some 121, op := Op.load 25 (Operand.tmp 4), type := 25, pos := "law.go:71", after := #[{ on := 2, ground := Ground.guard }], guard := some (2, false) }) (v := .agg ds) rfl (by kernel_rfl) (by kernel_rfl) (by kernel_rfl) (fun _ _ _ h => h) (yields_row (by rfl) _ _ rfl ((w.heap.size + 1)) rfl _ _ _ _ (fun W hW => (HE.out W hW).bx _ _ _ (.tail _ (.tail _ (.head _)))) Tryd.underlying25 rfl IB.out) hH0 ?tkr7010
          try simp only [Act.put, List.setIfInBounds_toArray, List.set_cons_zero, List.set_cons_succ]
          refine wpAnyH_ready (rs := [10]) (by kernel_rfl) (by simp) ?_
          refine AllReadyH.cons (o := { dst := some 122, op := Op.call { callee := Callee.value (Operand.func 15), args := #[Operand.tmp 120, Operand.tmp 121], argTypes := #[25, 25] }, type := 4, pos := "law.go:71", after := #[{ on := 8, ground := Ground.data }, { on := 9, ground := Ground.data }, { on := 2, ground := Ground.chain }, { on := 2, ground := Ground.guard }], guard := some (2, false) }) rfl (fun K hK => ?_) AllReadyH.nil
          go_simp
          refine (sameM ((HE.out wd7000 (hH0)).mn _ _ (.tail _ (.tail _ (.tail _ (.head _))))) ((HE.out wd7000 (hH0)).mn _ _ (.tail _ (.tail _ (.head _))))).mono ?_
          rintro e' wn7011 ⟨rfl, hb7011⟩
          rw [HEQ.out]
          go_simp
          have hS7011 : Below (wC.heap.size) wC wn7011 := (hH0).trans (hb7011.mono (hH0).size)
          refine hK.out _ _ hS7011 (fun hH7011 => ?_)
          have hH7011 : Below (wC.heap.size) wC wn7011 := hH7011
          clear hK K hS7011
          try simp only [Act.put, List.setIfInBounds_toArray, List.set_cons_zero, List.set_cons_succ]
          refine wpAnyH_take (i := 11) (oi := { dst := some 123, op := Op.binOp BinOp.eql 4 (Operand.tmp 119) (Operand.tmp 122) 4, type := 4, pos := "law.go:71", after := #[{ on := 7, ground := Ground.data }, { on := 10, ground := Ground.data }, { on := 2, ground := Ground.guard }], guard := some (2, false) }) (v := ?tkv7012) rfl (by kernel_rfl) (by kernel_rfl) (by kernel_rfl) (fun _ _ _ h => h) (Or.inl ⟨by rfl, ?tky7012⟩) hH7011 ?tkr7012
          case tky7012 => (intro w' hSw; clear hSw; go_simp; try with_reducible rfl)
          try simp only [Act.put, List.setIfInBounds_toArray, List.set_cons_zero, List.set_cons_succ]
          refine wpAnyH_take (i := 12) (oi := { dst := some 124, op := Op.pick (Operand.tmp 114) (Operand.const (Value.bool true)) (Operand.tmp 123), type := 4, pos := "law.go:71", after := #[{ on := 2, ground := Ground.data }, { on := 11, ground := Ground.data }], guard := none }) (v := ?tkv7013) rfl (by kernel_rfl) (by kernel_rfl) (by kernel_rfl) (fun _ _ _ h => h) (Or.inl ⟨by rfl, ?tky7013⟩) hH7011 ?tkr7013
          case tky7013 => (intro w' hSw; clear hSw; go_simp; try with_reducible rfl)
          try simp only [Act.put, List.setIfInBounds_toArray, List.set_cons_zero, List.set_cons_succ]
          refine wpAnyH_take (i := 13) (oi := { dst := some 125, op := Op.move (Operand.tmp 124), type := 4, pos := "law.go:71", after := #[{ on := 12, ground := Ground.data }, { on := 10, ground := Ground.chain }], guard := none }) (v := ?tkv7014) rfl (by kernel_rfl) (by kernel_rfl) (by kernel_rfl) (fun _ _ _ h => h) (Or.inl ⟨by rfl, ?tky7014⟩) hH7011 ?tkr7014
          case tky7014 => (intro w' hSw; clear hSw; go_simp; try with_reducible rfl)
          try simp only [Act.put, List.setIfInBounds_toArray, List.set_cons_zero, List.set_cons_succ]
          refine wpAnyH_ready (rs := [14]) (by kernel_rfl) (by simp) ?_
          refine AllReadyH.cons (o := { dst := some 126, op := Op.call { callee := Callee.value (Operand.func 8), args := #[], argTypes := #[] }, type := 4, pos := "law.go:71", after := #[{ on := 13, ground := Ground.chain }, { on := 13, ground := Ground.guard }], guard := some (13, true) }) rfl (fun K hK => ?_) AllReadyH.nil
          go_simp
          refine (awake14_any wn7011 (HT.out.below (HE.out _ (hH7011)).b HT.out.1)).mono ?_
          rintro e' wn7015 ⟨rfl, hb7015⟩
          go_simp
          have hS7015 : Below (wC.heap.size) wC wn7015 := (hH7011).trans (hb7015.mono (hH7011).size)
          refine hK.out _ _ hS7015 (fun hH7015 => ?_)
          have hH7015 : Below (wC.heap.size) wC wn7015 := hH7015
          clear hK K hS7015
          try simp only [Act.put, List.setIfInBounds_toArray, List.set_cons_zero, List.set_cons_succ]
          refine wpAnyH_take (i := 15) (oi := { dst := some 127, op := Op.pick (Operand.tmp 125) (Operand.tmp 126) (Operand.const (Value.bool false)), type := 4, pos := "law.go:71", after := #[{ on := 13, ground := Ground.data }, { on := 14, ground := Ground.data }], guard := none }) (v := ?tkv7016) rfl (by kernel_rfl) (by kernel_rfl) (by kernel_rfl) (fun _ _ _ h => h) (Or.inl ⟨by rfl, ?tky7016⟩) hH7015 ?tkr7016
          case tky7016 => (intro w' hSw; clear hSw; go_simp; try with_reducible rfl)
          try simp only [Act.put, List.setIfInBounds_toArray, List.set_cons_zero, List.set_cons_succ]
          refine wpAnyH_take (i := 16) (oi := { dst := some 6, op := Op.assign (Operand.tmp 127), type := 4, pos := "law.go:71", after := #[{ on := 15, ground := Ground.data }, { on := 14, ground := Ground.chain }, { on := 0, ground := Ground.phase }, { on := 1, ground := Ground.phase }, { on := 2, ground := Ground.phase }, { on := 3, ground := Ground.phase }, { on := 4, ground := Ground.phase }, { on := 5, ground := Ground.phase }, { on := 6, ground := Ground.phase }, { on := 7, ground := Ground.phase }, { on := 8, ground := Ground.phase }, { on := 9, ground := Ground.phase }, { on := 10, ground := Ground.phase }, { on := 11, ground := Ground.phase }, { on := 12, ground := Ground.phase }, { on := 13, ground := Ground.phase }, { on := 14, ground := Ground.phase }, { on := 15, ground := Ground.phase }], guard := none }) (v := ?tkv7017) rfl (by kernel_rfl) (by kernel_rfl) (by kernel_rfl) (fun _ _ _ h => h) (Or.inl ⟨by rfl, ?tky7017⟩) hH7015 ?tkr7017
          case tky7017 => (intro w' hSw; clear hSw; go_simp; try with_reducible rfl)
          try simp only [Act.put, List.setIfInBounds_toArray, List.set_cons_zero, List.set_cons_succ]
          refine wpAnyH_done (by kernel_rfl) ?_ _
          refine NoPanic.normal ?_
          have hb := (HE.out _ (hH7015)).b
          go_wp2_with fail
          go_ret
          exact ⟨rfl, hb⟩
        · have HEQ : Hid (M.eqb K = false) := Lib.hid (by
            cases he : M.eqb K with
            | false => rfl
            | true => exact (hbb (by rw [eqbM_eq he])).elim)
          have HE : Hid (∀ W, Below wC.heap.size wC W → Env w W [(b13, cs13, 25), (b9, cs9, 25), ((w.heap.size + 1), ds, 25), (w.heap.size, cs, 25)] [] [(cs13, M), (cs9, M), (ds, K), (cs, M)]) := Lib.hid fun W hW => EC.out.below hW
          refine wp_region_noPanic ?_
          refine wp_region_held_drew (S := (fun W => Below (wC.heap.size) wC W)) (by kernel_rfl) (Below.refl _ _).drew (fun hH0 => ?_)
          have hH0 : Below (wC.heap.size) wC wC.drew := hH0
          generalize wC.drew = wd9000 at *
          refine wpAnyH_take (i := 0) (oi := { dst := some 112, op := Op.move (Operand.tmp 16), type := 27, pos := "law.go:71", after := #[], guard := none }) (v := ?tkv9001) rfl (by kernel_rfl) (by kernel_rfl) (by kernel_rfl) (fun _ _ _ h => h) (Or.inl ⟨by rfl, ?tky9001⟩) hH0 ?tkr9001
          case tky9001 => (intro w' hSw; clear hSw; go_simp; try with_reducible rfl)
          try simp only [Act.put, List.setIfInBounds_toArray, List.set_cons_zero, List.set_cons_succ]
          refine wpAnyH_take (i := 1) (oi := { dst := some 113, op := Op.binOp BinOp.neq 27 (Operand.tmp 112) (Operand.const (Value.int IntKind.i64 0)) 27, type := 4, pos := "law.go:71", after := #[{ on := 0, ground := Ground.data }], guard := none }) (v := ?tkv9002) rfl (by kernel_rfl) (by kernel_rfl) (by kernel_rfl) (fun _ _ _ h => h) (Or.inl ⟨by rfl, ?tky9002⟩) hH0 ?tkr9002
          case tky9002 => (intro w' hSw; clear hSw; go_simp; try with_reducible rfl)
          try simp only [Act.put, List.setIfInBounds_toArray, List.set_cons_zero, List.set_cons_succ]
          refine wpAnyH_take (i := 2) (oi := { dst := some 114, op := Op.move (Operand.tmp 113), type := 4, pos := "law.go:71", after := #[{ on := 1, ground := Ground.data }], guard := none }) (v := ?tkv9003) rfl (by kernel_rfl) (by kernel_rfl) (by kernel_rfl) (fun _ _ _ h => h) (Or.inl ⟨by rfl, ?tky9003⟩) hH0 ?tkr9003
          case tky9003 => (intro w' hSw; clear hSw; go_simp; try with_reducible rfl)
          try simp only [Act.put, List.setIfInBounds_toArray, List.set_cons_zero, List.set_cons_succ]
          refine wpAnyH_take (i := 3) (oi := { dst := some 115, op := Op.move (Operand.tmp 15), type := 23, pos := "law.go:71", after := #[{ on := 2, ground := Ground.guard }], guard := some (2, false) }) (v := ?tkv9004) rfl (by kernel_rfl) (by kernel_rfl) (by kernel_rfl) (fun _ _ _ h => h) (Or.inl ⟨by rfl, ?tky9004⟩) hH0 ?tkr9004
          case tky9004 => (intro w' hSw; clear hSw; go_simp; try with_reducible rfl)
          try simp only [Act.put, List.setIfInBounds_toArray, List.set_cons_zero, List.set_cons_succ]
          refine wpAnyH_take (i := 4) (oi := { dst := some 116, op := Op.convert 23 9 (Operand.tmp 115), type := 9, pos := "law.go:71", after := #[{ on := 3, ground := Ground.data }, { on := 2, ground := Ground.guard }], guard := some (2, false) }) (v := ?tkv9005) rfl (by kernel_rfl) (by kernel_rfl) (by kernel_rfl) (fun _ _ _ h => h) (Or.inl ⟨by rfl, ?tky9005⟩) hH0 ?tkr9005
          case tky9005 => (intro w' hSw; have z0 := HS2.out _ hSw; have z1 := HS3.out _ hSw; clear hSw; go_simp; try with_reducible rfl)
          try simp only [Act.put, List.setIfInBounds_toArray, List.set_cons_zero, List.set_cons_succ]
          refine wpAnyH_take (i := 5) (oi := { dst := some 117, op := Op.move (Operand.tmp 11), type := 23, pos := "law.go:71", after := #[{ on := 2, ground := Ground.guard }], guard := some (2, false) }) (v := ?tkv9006) rfl (by kernel_rfl) (by kernel_rfl) (by kernel_rfl) (fun _ _ _ h => h) (Or.inl ⟨by rfl, ?tky9006⟩) hH0 ?tkr9006
          case tky9006 => (intro w' hSw; clear hSw; go_simp; try with_reducible rfl)
          try simp only [Act.put, List.setIfInBounds_toArray, List.set_cons_zero, List.set_cons_succ]
          refine wpAnyH_take (i := 6) (oi := { dst := some 118, op := Op.convert 23 9 (Operand.tmp 117), type := 9, pos := "law.go:71", after := #[{ on := 5, ground := Ground.data }, { on := 2, ground := Ground.guard }], guard := some (2, false) }) (v := ?tkv9007) rfl (by kernel_rfl) (by kernel_rfl) (by kernel_rfl) (fun _ _ _ h => h) (Or.inl ⟨by rfl, ?tky9007⟩) hH0 ?tkr9007
          case tky9007 => (intro w' hSw; have z0 := HS2.out _ hSw; have z1 := HS3.out _ hSw; clear hSw; go_simp; try with_reducible rfl)
          try simp only [Act.put, List.setIfInBounds_toArray, List.set_cons_zero, List.set_cons_succ]
          refine wpAnyH_take (i := 7) (oi := { dst := some 119, op := Op.binOp BinOp.eql 9 (Operand.tmp 116) (Operand.tmp 118) 9, type := 4, pos := "law.go:71", after := #[{ on := 4, ground := Ground.data }, { on := 6, ground := Ground.data }, { on := 2, ground := Ground.guard }], guard := some (2, false) }) (v := ?tkv9008) rfl (by kernel_rfl) (by kernel_rfl) (by kernel_rfl) (fun _ _ _ h => h) (Or.inl ⟨by rfl, ?tky9008⟩) hH0 ?tkr9008
          case tky9008 => (intro w' hSw; clear hSw; go_simp; try with_reducible rfl)
          try simp only [Act.put, List.setIfInBounds_toArray, List.set_cons_zero, List.set_cons_succ]
          refine wpAnyH_take (i := 8) (oi := { dst := some 120, op := Op.load 25 (Operand.tmp 3), type := 25, pos := "law.go:71", after := #[{ on := 2, ground := Ground.guard }], guard := some (2, false) }) (v := .agg cs) rfl (by kernel_rfl) (by kernel_rfl) (by kernel_rfl) (fun _ _ _ h => h) (yields_row (by rfl) _ _ rfl (w.heap.size) rfl _ _ _ _ (fun W hW => (HE.out W hW).bx _ _ _ (.tail _ (.tail _ (.tail _ (.head _))))) Tryd.underlying25 rfl IA.out) hH0 ?tkr9009
          try simp only [Act.put, List.setIfInBounds_toArray, List.set_cons_zero, List.set_cons_succ]
          refine wpAnyH_take (i := 9) (oi := { dst := some 121, op := Op.load 25 (Operand.tmp 4), type := 25, pos := "law.go:71", after := #[{ on := 2, ground := Ground.guard }], guard := some (2, false) }) (v := .agg ds) rfl (by kernel_rfl) (by kernel_rfl) (by kernel_rfl) (fun _ _ _ h => h) (yields_row (by rfl) _ _ rfl ((w.heap.size + 1)) rfl _ _ _ _ (fun W hW => (HE.out W hW).bx _ _ _ (.tail _ (.tail _ (.head _)))) Tryd.underlying25 rfl IB.out) hH0 ?tkr9010
          try simp only [Act.put, List.setIfInBounds_toArray, List.set_cons_zero, List.set_cons_succ]
          refine wpAnyH_ready (rs := [10]) (by kernel_rfl) (by simp) ?_
          refine AllReadyH.cons (o := { dst := some 122, op := Op.call { callee := Callee.value (Operand.func 15), args := #[Operand.tmp 120, Operand.tmp 121], argTypes := #[25, 25] }, type := 4, pos := "law.go:71", after := #[{ on := 8, ground := Ground.data }, { on := 9, ground := Ground.data }, { on := 2, ground := Ground.chain }, { on := 2, ground := Ground.guard }], guard := some (2, false) }) rfl (fun K hK => ?_) AllReadyH.nil
          go_simp
          refine (sameM ((HE.out wd9000 (hH0)).mn _ _ (.tail _ (.tail _ (.tail _ (.head _))))) ((HE.out wd9000 (hH0)).mn _ _ (.tail _ (.tail _ (.head _))))).mono ?_
          rintro e' wn9011 ⟨rfl, hb9011⟩
          rw [HEQ.out]
          go_simp
          have hS9011 : Below (wC.heap.size) wC wn9011 := (hH0).trans (hb9011.mono (hH0).size)
          refine hK.out _ _ hS9011 (fun hH9011 => ?_)
          have hH9011 : Below (wC.heap.size) wC wn9011 := hH9011
          clear hK K hS9011
          try simp only [Act.put, List.setIfInBounds_toArray, List.set_cons_zero, List.set_cons_succ]
          refine wpAnyH_take (i := 11) (oi := { dst := some 123, op := Op.binOp BinOp.eql 4 (Operand.tmp 119) (Operand.tmp 122) 4, type := 4, pos := "law.go:71", after := #[{ on := 7, ground := Ground.data }, { on := 10, ground := Ground.data }, { on := 2, ground := Ground.guard }], guard := some (2, false) }) (v := ?tkv9012) rfl (by kernel_rfl) (by kernel_rfl) (by kernel_rfl) (fun _ _ _ h => h) (Or.inl ⟨by rfl, ?tky9012⟩) hH9011 ?tkr9012
          case tky9012 => (intro w' hSw; clear hSw; go_simp; try with_reducible rfl)
          try simp only [Act.put, List.setIfInBounds_toArray, List.set_cons_zero, List.set_cons_succ]
          refine wpAnyH_take (i := 12) (oi := { dst := some 124, op := Op.pick (Operand.tmp 114) (Operand.const (Value.bool true)) (Operand.tmp 123), type := 4, pos := "law.go:71", after := #[{ on := 2, ground := Ground.data }, { on := 11, ground := Ground.data }], guard := none }) (v := ?tkv9013) rfl (by kernel_rfl) (by kernel_rfl) (by kernel_rfl) (fun _ _ _ h => h) (Or.inl ⟨by rfl, ?tky9013⟩) hH9011 ?tkr9013
          case tky9013 => (intro w' hSw; clear hSw; go_simp; try with_reducible rfl)
          try simp only [Act.put, List.setIfInBounds_toArray, List.set_cons_zero, List.set_cons_succ]
          refine wpAnyH_take (i := 13) (oi := { dst := some 125, op := Op.move (Operand.tmp 124), type := 4, pos := "law.go:71", after := #[{ on := 12, ground := Ground.data }, { on := 10, ground := Ground.chain }], guard := none }) (v := ?tkv9014) rfl (by kernel_rfl) (by kernel_rfl) (by kernel_rfl) (fun _ _ _ h => h) (Or.inl ⟨by rfl, ?tky9014⟩) hH9011 ?tkr9014
          case tky9014 => (intro w' hSw; clear hSw; go_simp; try with_reducible rfl)
          try simp only [Act.put, List.setIfInBounds_toArray, List.set_cons_zero, List.set_cons_succ]
          refine wpAnyH_ready (rs := [14]) (by kernel_rfl) (by simp) ?_
          refine AllReadyH.cons (o := { dst := some 126, op := Op.call { callee := Callee.value (Operand.func 8), args := #[], argTypes := #[] }, type := 4, pos := "law.go:71", after := #[{ on := 13, ground := Ground.chain }, { on := 13, ground := Ground.guard }], guard := some (13, true) }) rfl (fun K hK => ?_) AllReadyH.nil
          go_simp
          refine (awake14_any wn9011 (HT.out.below (HE.out _ (hH9011)).b HT.out.1)).mono ?_
          rintro e' wn9015 ⟨rfl, hb9015⟩
          go_simp
          have hS9015 : Below (wC.heap.size) wC wn9015 := (hH9011).trans (hb9015.mono (hH9011).size)
          refine hK.out _ _ hS9015 (fun hH9015 => ?_)
          have hH9015 : Below (wC.heap.size) wC wn9015 := hH9015
          clear hK K hS9015
          try simp only [Act.put, List.setIfInBounds_toArray, List.set_cons_zero, List.set_cons_succ]
          refine wpAnyH_take (i := 15) (oi := { dst := some 127, op := Op.pick (Operand.tmp 125) (Operand.tmp 126) (Operand.const (Value.bool false)), type := 4, pos := "law.go:71", after := #[{ on := 13, ground := Ground.data }, { on := 14, ground := Ground.data }], guard := none }) (v := ?tkv9016) rfl (by kernel_rfl) (by kernel_rfl) (by kernel_rfl) (fun _ _ _ h => h) (Or.inl ⟨by rfl, ?tky9016⟩) hH9015 ?tkr9016
          case tky9016 => (intro w' hSw; clear hSw; go_simp; try with_reducible rfl)
          try simp only [Act.put, List.setIfInBounds_toArray, List.set_cons_zero, List.set_cons_succ]
          refine wpAnyH_take (i := 16) (oi := { dst := some 6, op := Op.assign (Operand.tmp 127), type := 4, pos := "law.go:71", after := #[{ on := 15, ground := Ground.data }, { on := 14, ground := Ground.chain }, { on := 0, ground := Ground.phase }, { on := 1, ground := Ground.phase }, { on := 2, ground := Ground.phase }, { on := 3, ground := Ground.phase }, { on := 4, ground := Ground.phase }, { on := 5, ground := Ground.phase }, { on := 6, ground := Ground.phase }, { on := 7, ground := Ground.phase }, { on := 8, ground := Ground.phase }, { on := 9, ground := Ground.phase }, { on := 10, ground := Ground.phase }, { on := 11, ground := Ground.phase }, { on := 12, ground := Ground.phase }, { on := 13, ground := Ground.phase }, { on := 14, ground := Ground.phase }, { on := 15, ground := Ground.phase }], guard := none }) (v := ?tkv9017) rfl (by kernel_rfl) (by kernel_rfl) (by kernel_rfl) (fun _ _ _ h => h) (Or.inl ⟨by rfl, ?tky9017⟩) hH9015 ?tkr9017
          case tky9017 => (intro w' hSw; clear hSw; go_simp; try with_reducible rfl)
          try simp only [Act.put, List.setIfInBounds_toArray, List.set_cons_zero, List.set_cons_succ]
          refine wpAnyH_done (by kernel_rfl) ?_ _
          refine NoPanic.normal ?_
          have hb := (HE.out _ (hH9015)).b
          go_wp2_with fail
          go_ret
          exact ⟨by simp [hbb], hb⟩
end Go.Proofs.YtofkopjjgdfliaaDoor
