/- The reference's ManifestBytes, ParseManifest: by contracts. -/
import Derived.Test.YtcgcmfhidolohaaDoorRReadQ
import Derived.Test.YtcgcmfhidolohaaDoorRTagQ
import Derived.Test.YtcgcmfhidolohaaDoorManPa2Q
namespace Go.Proofs.YtcgcmfhidolohaaDoor
open Go.RowKit Sh
set_option maxRecDepth 100000 in
set_option maxHeartbeats 1600000 in
theorem rbytes_no {cs : Array Value} {M : LMan} {w : World} {P : Nat → Prop} (A : Option Addr) (n c : Nat) (h : IsMan w P cs M) (hm : M.may = false) :
    Calls Tryd.prog 8 #[.slice A n c, .agg cs] w fun e w' => e = .returned (.tuple #[.slice none 0 0, .int .i64 1]) ∧ Below w.heap.size w w' := by
  have X0 := Lib.hid (heap_alloc_new w (.cells cs 25))
  have B0 : Hid (Below w.heap.size w (w.alloc (.cells cs 25))) := Lib.hid ((Below.refl _ _).alloc (Nat.le_refl _) _)
  have I := Lib.hid h.inf
  have HM := Lib.hid (h.below ((Below.refl w.heap.size w).alloc (Nat.le_refl _) (.cells cs 25)))
  have HF := Lib.hid hm
  clear h hm
  go_enter Tryd.func8, Tryd.ntmps8
  go_wp2_with ((with_reducible show wpList _ _ _ _ _ _); refine wpList_load_row (o := ⟨some 9, _, _, _, _, _⟩) rfl _ (.tmp 3) rfl (w.heap.size) rfl _ _ _ _ X0.out Tryd.underlying25 rfl I.out ?_)
  generalize w.alloc (.cells cs 25) = w0 at *
  refine (rplainS_no HM.out HF.out).mono ?_
  rintro e w1 ⟨rfl, hb1⟩
  have hb := B0.out.trans (hb1.mono B0.out.size)
  clear hb1
  go_wp2_with fail
  go_ret2
  exact ⟨rfl, hb⟩
set_option maxRecDepth 100000 in
set_option maxHeartbeats 1600000 in
theorem rbytes_yes {cs : Array Value} {M : LMan} {w : World} {P : Nat → Prop} (A : Option Addr) (n c : Nat) (key : List UInt8) (hk : Row w w.heap.size A n (bv key)) (hn : n ≤ 100000) (h : IsMan w P cs M) (hm : M.may = true) (hw : M.w32) :
    Calls Tryd.prog 8 #[.slice A n c, .agg cs] w (RPlainOk (M.bytes ++ tagOf key M.bytes) w) := by
  have X0 := Lib.hid (heap_alloc_new w (.cells cs 25))
  have B0 : Hid (Below w.heap.size w (w.alloc (.cells cs 25))) := Lib.hid ((Below.refl _ _).alloc (Nat.le_refl _) _)
  have I := Lib.hid h.inf
  have HM := Lib.hid (h.below ((Below.refl w.heap.size w).alloc (Nat.le_refl _) (.cells cs 25)))
  have HK := Lib.hid (RowP.of_row ((hk.below B0.out).more B0.out.size))
  have HF := Lib.hid hm
  have HW := Lib.hid hw
  have HN := Lib.hid hn
  have HL : Hid (M.bytes.length = 44) := Lib.hid (by rw [bytes_len, may_32 hm])
  clear h hm hk hw hn
  go_enter Tryd.func8, Tryd.ntmps8
  go_wp2_with ((with_reducible show wpList _ _ _ _ _ _); refine wpList_load_row (o := ⟨some 9, _, _, _, _, _⟩) rfl _ (.tmp 3) rfl (w.heap.size) rfl _ _ _ _ X0.out Tryd.underlying25 rfl I.out ?_)
  generalize w.alloc (.cells cs 25) = w0 at *
  refine (rplainS_yes HM.out HF.out HW.out.1 HW.out.2).mono ?_
  rintro e w1 ⟨A1, n1, c1, rfl, hn1, ho1, hb1⟩
  have B1 := Lib.hid (B0.out.trans (hb1.out.mono B0.out.size))
  have R1 := Lib.hid (RowP.of_row (Row.of_own ho1.out))
  have K1 := Lib.hid (HK.out.below hb1.out)
  have N1 : Hid (n1 = 44) := Lib.hid (by rw [hn1.out, HL.out])
  clear hn1 ho1 hb1 X0 B0
  go_wp2_with fail
  refine (rtag_any n c A key n1 c1 A1 M.bytes w1 K1.out.row R1.out.row HN.out (by have := N1.out; omega)).mono ?_
  rintro e w2 ⟨A2, c2, rfl, ho2, hb2⟩
  have B2 := Lib.hid (B1.out.trans (hb2.out.mono B1.out.size))
  have R2 := Lib.hid (RowP.of_row (Row.of_own ho2.out))
  have R1b := Lib.hid (R1.out.below hb2.out)
  clear ho2 hb2
  have X2 := Lib.hid (heap_alloc_new w2 (.cells #[.slice A1 n1 c1, .slice A2 32 c2] 23))
  have ba : Below w2.heap.size w2 (w2.alloc (.cells #[.slice A1 n1 c1, .slice A2 32 c2] 23)) := (Below.refl _ _).alloc (Nat.le_refl _) _
  have B3 := Lib.hid (B2.out.trans (ba.mono B2.out.size))
  have R3 := Lib.hid (R2.out.below ba)
  have R1c := Lib.hid (R1b.out.below ba)
  clear ba
  have TL : Hid ((tagOf key M.bytes).length = 32) := Lib.hid (by have := R2.out.1; rwa [bv_length] at this)
  go_wp2_with fail
  generalize w2.alloc (.cells #[.slice A1 n1 c1, .slice A2 32 c2] 23) = w3 at *
  refine (join_box [⟨A1, n1, c1, M.bytes⟩, ⟨A2, 32, c2, tagOf key M.bytes⟩] 2 rfl rfl X2.out (by
    intro r hr
    simp only [List.mem_cons, List.not_mem_nil, or_false] at hr
    rcases hr with rfl | rfl
    · exact R1c.out
    · exact R3.out) (by simp) (by have h1 := HL.out; have h2 := TL.out; simp [flat, h1, h2]) (l := M.bytes ++ tagOf key M.bytes) (by simp [flat])).mono ?_
  rintro e w4 ⟨A4, n4, c4, rfl, hn4, ho4, hb4⟩
  have hend := B3.out.trans (hb4.mono B3.out.size)
  have hown := own_base ho4 B3.out.size
  clear hb4
  go_wp2_with fail
  go_ret2
  exact ⟨_, _, _, rfl, hn4, Lib.hid hown, Lib.hid hend⟩
def RParOk (key l : List UInt8) (w : World) (e : Ending) (w' : World) : Prop := ∃ cs, e = .returned (.tuple #[.agg cs, .int .i64 (parE key l)]) ∧ Hid (IsMan w' (fun _ => True) cs (parM key l)) ∧ Hid (Below w.heap.size w w')
theorem rpar_of {key l : List UInt8} {w w' : World} {e : Ending} {E : Int} {M : LMan} (hE : parE key l = E) (hM : parM key l = M) (h : ∃ cs, e = .returned (.tuple #[.agg cs, .int .i64 E]) ∧ Hid (IsMan w' (fun _ => True) cs M) ∧ Hid (Below w.heap.size w w')) : RParOk key l w e w' := by
  unfold RParOk
  rw [hE, hM]
  exact h
set_option maxRecDepth 100000 in
set_option maxHeartbeats 3200000 in
theorem rpar_76 (n1 c1 : Nat) (A1 : Option Addr) (key : List UInt8) (c b o : Nat) (l : List UInt8) (w : World) (hk : Row w w.heap.size A1 n1 (bv key)) (hn1 : n1 ≤ 100000) (hl : Row w w.heap.size (some ⟨b, o, none⟩) 76 (bv l)) (hc : 76 ≤ c) (hc2 : c ≤ 9223372036854775807) :
    Calls Tryd.prog 16 #[.slice A1 n1 c1, .slice (some ⟨b, o, none⟩) 76 c] w (RParOk key l w) := by
  have h76 : l.length = 76 := hl.blen
  have hb0 : Below w.heap.size w (w.alloc (.cells #[.int .u32 0, .int .u32 0, .int .i64 0, .int .i64 0, .int .i64 0, .slice none 0 0] 25)) := (Below.refl _ _).alloc (Nat.le_refl _) _
  have X0 := Lib.hid (heap_alloc_new w (.cells #[.int .u32 0, .int .u32 0, .int .i64 0, .int .i64 0, .int .i64 0, .slice none 0 0] 25))
  have B0 := Lib.hid hb0
  have LW : Hid (w.heap.size < (w.alloc (.cells #[.int .u32 0, .int .u32 0, .int .i64 0, .int .i64 0, .int .i64 0, .slice none 0 0] 25)).heap.size) := Lib.hid (by simp)
  have q44 : (44 : Int) ≤ c := by omega
  have n44 : ¬ (c : Int) = 44 := by omega
  have m44 : ¬ c = 44 := by omega
  have HN := Lib.hid hn1
  have HC2 := Lib.hid hc2
  have KR := Lib.hid (RowP.of_row ((hk.below hb0).more hb0.size))
  have LR := Lib.hid ((hl.below hb0).more hb0.size)
  have HL := Lib.hid h76
  clear hk hl hb0 hn1 h76
  go_enter Tryd.func16, Tryd.ntmps16
  go_upto_region 3 with fail
  generalize w.alloc (.cells #[.int .u32 0, .int .u32 0, .int .i64 0, .int .i64 0, .int .i64 0, .slice none 0 0] 25) = w0 at *
  have HK : Hid (∀ W, Below w0.heap.size w0 W → RowP W (fun _ => True) A1 n1 (bv key)) := Lib.hid fun W hW => KR.out.below hW
  have HT : Hid (∀ W, Below w0.heap.size w0 W → RowP W (fun _ => True) (some ⟨b, o, none⟩) 44 (bv (l.take 44))) := Lib.hid fun W hW => by rw [← bv_take]; exact RowP.of_row (((LR.out.below hW).more hW.size).head (by omega))
  have HD : Hid (∀ W, Below w0.heap.size w0 W → Row W W.heap.size (some ⟨b, o + 44, none⟩) 32 (bv (l.drop 44))) := Lib.hid fun W hW => by
    have h := ((LR.out.below hW).more hW.size).sub (k := 44) (m := 32) (A' := some ⟨b, o + 44, none⟩) (by omega) fun b' o' e _ => by injection e with e; injection e with e1 e2; subst e1 e2; rfl
    rwa [List.take_of_length_le (by rw [List.length_drop, bv_length, HL.out]; omega), bv_drop] at h
  have HCV : Hid (∀ W, Below w0.heap.size w0 W → (convert 23 9 (.slice (some ⟨b, o + 44, none⟩) 32 (c - 44))).run Tryd.prog W = .ok (.string ⟨(l.drop 44).toArray⟩) W) := Lib.hid fun W hW => run_string_row (P := Tryd.prog) (HD.out W hW) (c - 44) 23 9 5 Tryd.underlying23 Tryd.underlying5 Tryd.underlying9
  clear KR LR
  by_cases he : tagOf key (l.take 44) = l.drop 44
  · have hE : parE key l = readE (l.take 44) := by unfold parE; rw [if_pos HL.out, if_pos he]
    have hM : parM key l = readM (l.take 44) := by unfold parM; rw [if_pos ⟨HL.out, he⟩]
    have HEE := Lib.hid hE
    have HMM := Lib.hid hM
    clear hE hM
    have HEQ := Lib.hid he
    clear he
    refine wp_region_noPanic ?_
    refine wp_region_held_drew (S := (fun W => Below (w0.heap.size) w0 W)) (by kernel_rfl) (Below.refl _ _).drew (fun hH0 => ?_)
    have hH0 : Below (w0.heap.size) w0 w0.drew := hH0
    generalize w0.drew = wd3000 at *
    refine wpAnyH_take (i := 0) (oi := { dst := some 10, op := Op.move (Operand.tmp 0), type := 23, pos := "ref.go:319", after := #[], guard := none }) (v := ?tkv3001) rfl (by kernel_rfl) (by kernel_rfl) (by kernel_rfl) (fun _ _ _ h => h) (Or.inl ⟨by rfl, ?tky3001⟩) hH0 ?tkr3001
    case tky3001 => (intro w' hSw; clear hSw; go_simp; try with_reducible rfl)
    try simp only [Act.put, List.setIfInBounds_toArray, List.set_cons_zero, List.set_cons_succ]
    refine wpAnyH_take (i := 1) (oi := { dst := some 11, op := Op.move (Operand.tmp 1), type := 23, pos := "ref.go:319", after := #[], guard := none }) (v := ?tkv3002) rfl (by kernel_rfl) (by kernel_rfl) (by kernel_rfl) (fun _ _ _ h => h) (Or.inl ⟨by rfl, ?tky3002⟩) hH0 ?tkr3002
    case tky3002 => (intro w' hSw; clear hSw; go_simp; try with_reducible rfl)
    try simp only [Act.put, List.setIfInBounds_toArray, List.set_cons_zero, List.set_cons_succ]
    refine wpAnyH_take (i := 2) (oi := { dst := some 12, op := Op.slice 23 (Operand.tmp 11) none (some (Operand.const (Value.int IntKind.i64 44))) none, type := 23, pos := "ref.go:319", after := #[{ on := 1, ground := Ground.data }], guard := none }) (v := ?tkv3003) rfl (by kernel_rfl) (by kernel_rfl) (by kernel_rfl) (fun _ _ _ h => h) (Or.inl ⟨by rfl, ?tky3003⟩) hH0 ?tkr3003
    case tky3003 => (intro w' hSw; have z0 := HCV.out _ hSw; clear hSw; go_simp; try with_reducible rfl)
    try simp only [Act.put, List.setIfInBounds_toArray, List.set_cons_zero, List.set_cons_succ]
    refine wpAnyH_take (i := 5) (oi := { dst := some 15, op := Op.move (Operand.tmp 1), type := 23, pos := "ref.go:319", after := #[], guard := none }) (v := ?tkv3004) rfl (by kernel_rfl) (by kernel_rfl) (by kernel_rfl) (fun _ _ _ h => h) (Or.inl ⟨by rfl, ?tky3004⟩) hH0 ?tkr3004
    case tky3004 => (intro w' hSw; clear hSw; go_simp; try with_reducible rfl)
    try simp only [Act.put, List.setIfInBounds_toArray, List.set_cons_zero, List.set_cons_succ]
    refine wpAnyH_take (i := 6) (oi := { dst := some 16, op := Op.slice 23 (Operand.tmp 15) (some (Operand.const (Value.int IntKind.i64 44))) none none, type := 23, pos := "ref.go:319", after := #[{ on := 5, ground := Ground.data }], guard := none }) (v := ?tkv3005) rfl (by kernel_rfl) (by kernel_rfl) (by kernel_rfl) (fun _ _ _ h => h) (Or.inl ⟨by rfl, ?tky3005⟩) hH0 ?tkr3005
    case tky3005 => (intro w' hSw; have z0 := HCV.out _ hSw; clear hSw; go_simp; try with_reducible rfl)
    try simp only [Act.put, List.setIfInBounds_toArray, List.set_cons_zero, List.set_cons_succ]
    refine wpAnyH_take (i := 7) (oi := { dst := some 17, op := Op.convert 23 9 (Operand.tmp 16), type := 9, pos := "ref.go:319", after := #[{ on := 6, ground := Ground.data }], guard := none }) (v := ?tkv3006) rfl (by kernel_rfl) (by kernel_rfl) (by kernel_rfl) (fun _ _ _ h => h) (Or.inl ⟨by rfl, ?tky3006⟩) hH0 ?tkr3006
    case tky3006 => (intro w' hSw; have z0 := HCV.out _ hSw; clear hSw; go_simp; try with_reducible rfl)
    try simp only [Act.put, List.setIfInBounds_toArray, List.set_cons_zero, List.set_cons_succ]
    refine wpAnyH_ready (rs := [3]) (by kernel_rfl) (by simp) ?_
    refine AllReadyH.cons (o := { dst := some 13, op := Op.call { callee := Callee.value (Operand.func 14), args := #[Operand.tmp 10, Operand.tmp 12], argTypes := #[23, 23] }, type := 23, pos := "ref.go:319", after := #[{ on := 0, ground := Ground.data }, { on := 2, ground := Ground.data }], guard := none }) rfl (fun K hK => ?_) AllReadyH.nil
    go_simp
    refine (rtag_any n1 c1 A1 key 44 c (some ⟨b, o, none⟩) (l.take 44) wd3000 (HK.out _ (hH0)).row (HT.out _ (hH0)).row HN.out (by omega)).mono ?_
    rintro e' wn3007 ⟨A3007, c3007, rfl, ho3007, hbo3007⟩
    have hb3007 := hbo3007.out
    have RT3007 := Lib.hid (RowP.of_row (Row.of_own ho3007.out))
    rw [HEQ.out] at RT3007
    go_simp
    have hS3007 : Below (w0.heap.size) w0 wn3007 := (hH0).trans (hb3007.mono (hH0).size)
    refine hK.out _ _ hS3007 (fun hH3007 => ?_)
    have hH3007 : Below (w0.heap.size) w0 wn3007 := hH3007
    clear hK K hS3007
    try simp only [Act.put, List.setIfInBounds_toArray, List.set_cons_zero, List.set_cons_succ]
    refine wpAnyH_ready (rs := [4]) (by kernel_rfl) (by simp) ?_
    refine AllReadyH.cons (o := { dst := some 14, op := Op.convert 23 9 (Operand.tmp 13), type := 9, pos := "ref.go:319", after := #[{ on := 3, ground := Ground.data }], guard := none }) rfl (fun K hK => ?_) AllReadyH.nil
    have zq3008 := run_string_row (P := Tryd.prog) (RT3007.out.row) c3007 23 9 5 Tryd.underlying23 Tryd.underlying5 Tryd.underlying9
    go_simp
    clear zq3008
    have hS3008 : Below (w0.heap.size) w0 wn3007 := hH3007
    refine hK.out _ _ hS3008 (fun hH3008 => ?_)
    have hH3008 : Below (w0.heap.size) w0 wn3007 := hH3008
    clear hK K hS3008
    try simp only [Act.put, List.setIfInBounds_toArray, List.set_cons_zero, List.set_cons_succ]
    refine wpAnyH_take (i := 8) (oi := { dst := some 18, op := Op.binOp BinOp.neq 9 (Operand.tmp 14) (Operand.tmp 17) 9, type := 4, pos := "ref.go:319", after := #[{ on := 4, ground := Ground.data }, { on := 7, ground := Ground.data }], guard := none }) (v := ?tkv3009) rfl (by kernel_rfl) (by kernel_rfl) (by kernel_rfl) (fun _ _ _ h => h) (Or.inl ⟨by rfl, ?tky3009⟩) hH3008 ?tkr3009
    case tky3009 => (intro w' hSw; clear hSw; go_simp; try with_reducible rfl)
    try simp only [Act.put, List.setIfInBounds_toArray, List.set_cons_zero, List.set_cons_succ]
    refine wpAnyH_done (by kernel_rfl) ?_ _
    refine NoPanic.normal ?_
    have BE := Lib.hid (hH3008)
    go_wp2_with fail
    refine (rread_any (some ⟨b, o, none⟩) 44 c (l.take 44) wn3007 (HT.out _ BE.out).row (by omega) HC2.out).mono ?_
    rintro e w2 ⟨ms, rfl, hm2, hb2⟩
    have B2 := Lib.hid (B0.out.trans ((BE.out.trans (hb2.out.mono BE.out.size)).mono B0.out.size))
    have X2 := Lib.hid (((BE.out.trans (hb2.out.mono BE.out.size)).block w.heap.size LW.out).trans X0.out)
    have GE2 : Hid (w.heap.size < wn3007.heap.size) := Lib.hid (Nat.lt_of_lt_of_le LW.out BE.out.size)
    have I2 := Lib.hid hm2.out.inf
    have O2 := Lib.hid hm2.out.one
    have Z2 := Lib.hid hm2.out.size
    clear hb2
    go_wp2_with ((with_reducible show wpList _ _ _ _ _ _); refine wpList_store_row rfl _ (.tmp 4) (.tmp 23) rfl (w.heap.size) ms rfl rfl _ _ X2.out I2.out (by rw [Z2.out]; rfl) O2.out ?_)
    have hrow : (w2.setRow w.heap.size ms).heap[w.heap.size]? = some (.cells ms 25 (0, 0)) := setRow_heap _ _ _ _ _ _ X2.out
    refine bodyPost_ret (results_cell_tmp_row rfl _ _ (w.heap.size) _ _ (0, 0) _ rfl hrow Tryd.underlying25 rfl I2.out) rfl ?_
    have hfin := below_setRow2 B2.out (Nat.le_refl _) ms
    exact rpar_of HEE.out HMM.out ⟨ms, rfl, Lib.hid ((hm2.out.keep (by simp) fun b hb _ => setRow_other w2 w.heap.size b ms (by have h1 := GE2.out; have h2 : wn3007.heap.size ≤ b := hb; omega)).imp fun _ _ _ => trivial), Lib.hid hfin⟩
  · have hE : parE key l = 5 := by unfold parE; rw [if_pos HL.out, if_neg he]
    have hM : parM key l = LMan.zero := by unfold parM; rw [if_neg (fun h => he h.2)]
    have HEE := Lib.hid hE
    have HMM := Lib.hid hM
    clear hE hM
    have hbq : (tagOf key (l.take 44) == l.drop 44) = false := by simpa using he
    refine wp_region_noPanic ?_
    refine wp_region_held_drew (S := (fun W => Below (w0.heap.size) w0 W)) (by kernel_rfl) (Below.refl _ _).drew (fun hH0 => ?_)
    have hH0 : Below (w0.heap.size) w0 w0.drew := hH0
    generalize w0.drew = wd4000 at *
    refine wpAnyH_take (i := 0) (oi := { dst := some 10, op := Op.move (Operand.tmp 0), type := 23, pos := "ref.go:319", after := #[], guard := none }) (v := ?tkv4001) rfl (by kernel_rfl) (by kernel_rfl) (by kernel_rfl) (fun _ _ _ h => h) (Or.inl ⟨by rfl, ?tky4001⟩) hH0 ?tkr4001
    case tky4001 => (intro w' hSw; clear hSw; go_simp; try with_reducible rfl)
    try simp only [Act.put, List.setIfInBounds_toArray, List.set_cons_zero, List.set_cons_succ]
    refine wpAnyH_take (i := 1) (oi := { dst := some 11, op := Op.move (Operand.tmp 1), type := 23, pos := "ref.go:319", after := #[], guard := none }) (v := ?tkv4002) rfl (by kernel_rfl) (by kernel_rfl) (by kernel_rfl) (fun _ _ _ h => h) (Or.inl ⟨by rfl, ?tky4002⟩) hH0 ?tkr4002
    case tky4002 => (intro w' hSw; clear hSw; go_simp; try with_reducible rfl)
    try simp only [Act.put, List.setIfInBounds_toArray, List.set_cons_zero, List.set_cons_succ]
    refine wpAnyH_take (i := 2) (oi := { dst := some 12, op := Op.slice 23 (Operand.tmp 11) none (some (Operand.const (Value.int IntKind.i64 44))) none, type := 23, pos := "ref.go:319", after := #[{ on := 1, ground := Ground.data }], guard := none }) (v := ?tkv4003) rfl (by kernel_rfl) (by kernel_rfl) (by kernel_rfl) (fun _ _ _ h => h) (Or.inl ⟨by rfl, ?tky4003⟩) hH0 ?tkr4003
    case tky4003 => (intro w' hSw; have z0 := HCV.out _ hSw; clear hSw; go_simp; try with_reducible rfl)
    try simp only [Act.put, List.setIfInBounds_toArray, List.set_cons_zero, List.set_cons_succ]
    refine wpAnyH_take (i := 5) (oi := { dst := some 15, op := Op.move (Operand.tmp 1), type := 23, pos := "ref.go:319", after := #[], guard := none }) (v := ?tkv4004) rfl (by kernel_rfl) (by kernel_rfl) (by kernel_rfl) (fun _ _ _ h => h) (Or.inl ⟨by rfl, ?tky4004⟩) hH0 ?tkr4004
    case tky4004 => (intro w' hSw; clear hSw; go_simp; try with_reducible rfl)
    try simp only [Act.put, List.setIfInBounds_toArray, List.set_cons_zero, List.set_cons_succ]
    refine wpAnyH_take (i := 6) (oi := { dst := some 16, op := Op.slice 23 (Operand.tmp 15) (some (Operand.const (Value.int IntKind.i64 44))) none none, type := 23, pos := "ref.go:319", after := #[{ on := 5, ground := Ground.data }], guard := none }) (v := ?tkv4005) rfl (by kernel_rfl) (by kernel_rfl) (by kernel_rfl) (fun _ _ _ h => h) (Or.inl ⟨by rfl, ?tky4005⟩) hH0 ?tkr4005
    case tky4005 => (intro w' hSw; have z0 := HCV.out _ hSw; clear hSw; go_simp; try with_reducible rfl)
    try simp only [Act.put, List.setIfInBounds_toArray, List.set_cons_zero, List.set_cons_succ]
    refine wpAnyH_take (i := 7) (oi := { dst := some 17, op := Op.convert 23 9 (Operand.tmp 16), type := 9, pos := "ref.go:319", after := #[{ on := 6, ground := Ground.data }], guard := none }) (v := ?tkv4006) rfl (by kernel_rfl) (by kernel_rfl) (by kernel_rfl) (fun _ _ _ h => h) (Or.inl ⟨by rfl, ?tky4006⟩) hH0 ?tkr4006
    case tky4006 => (intro w' hSw; have z0 := HCV.out _ hSw; clear hSw; go_simp; try with_reducible rfl)
    try simp only [Act.put, List.setIfInBounds_toArray, List.set_cons_zero, List.set_cons_succ]
    refine wpAnyH_ready (rs := [3]) (by kernel_rfl) (by simp) ?_
    refine AllReadyH.cons (o := { dst := some 13, op := Op.call { callee := Callee.value (Operand.func 14), args := #[Operand.tmp 10, Operand.tmp 12], argTypes := #[23, 23] }, type := 23, pos := "ref.go:319", after := #[{ on := 0, ground := Ground.data }, { on := 2, ground := Ground.data }], guard := none }) rfl (fun K hK => ?_) AllReadyH.nil
    go_simp
    refine (rtag_any n1 c1 A1 key 44 c (some ⟨b, o, none⟩) (l.take 44) wd4000 (HK.out _ (hH0)).row (HT.out _ (hH0)).row HN.out (by omega)).mono ?_
    rintro e' wn4007 ⟨A4007, c4007, rfl, ho4007, hbo4007⟩
    have hb4007 := hbo4007.out
    have RT4007 := Lib.hid (RowP.of_row (Row.of_own ho4007.out))
    
    go_simp
    have hS4007 : Below (w0.heap.size) w0 wn4007 := (hH0).trans (hb4007.mono (hH0).size)
    refine hK.out _ _ hS4007 (fun hH4007 => ?_)
    have hH4007 : Below (w0.heap.size) w0 wn4007 := hH4007
    clear hK K hS4007
    try simp only [Act.put, List.setIfInBounds_toArray, List.set_cons_zero, List.set_cons_succ]
    refine wpAnyH_ready (rs := [4]) (by kernel_rfl) (by simp) ?_
    refine AllReadyH.cons (o := { dst := some 14, op := Op.convert 23 9 (Operand.tmp 13), type := 9, pos := "ref.go:319", after := #[{ on := 3, ground := Ground.data }], guard := none }) rfl (fun K hK => ?_) AllReadyH.nil
    have zq4008 := run_string_row (P := Tryd.prog) (RT4007.out.row) c4007 23 9 5 Tryd.underlying23 Tryd.underlying5 Tryd.underlying9
    go_simp
    clear zq4008
    have hS4008 : Below (w0.heap.size) w0 wn4007 := hH4007
    refine hK.out _ _ hS4008 (fun hH4008 => ?_)
    have hH4008 : Below (w0.heap.size) w0 wn4007 := hH4008
    clear hK K hS4008
    try simp only [Act.put, List.setIfInBounds_toArray, List.set_cons_zero, List.set_cons_succ]
    refine wpAnyH_take (i := 8) (oi := { dst := some 18, op := Op.binOp BinOp.neq 9 (Operand.tmp 14) (Operand.tmp 17) 9, type := 4, pos := "ref.go:319", after := #[{ on := 4, ground := Ground.data }, { on := 7, ground := Ground.data }], guard := none }) (v := ?tkv4009) rfl (by kernel_rfl) (by kernel_rfl) (by kernel_rfl) (fun _ _ _ h => h) (Or.inl ⟨by rfl, ?tky4009⟩) hH4008 ?tkr4009
    case tky4009 => (intro w' hSw; clear hSw; go_simp; try with_reducible rfl)
    try simp only [Act.put, List.setIfInBounds_toArray, List.set_cons_zero, List.set_cons_succ]
    refine wpAnyH_done (by kernel_rfl) ?_ _
    refine NoPanic.normal ?_
    have BE := Lib.hid (hH4008)
    have B2 := Lib.hid (B0.out.trans (BE.out.mono B0.out.size))
    have X2 := Lib.hid ((BE.out.block w.heap.size LW.out).trans X0.out)
    go_wp2_with ((with_reducible show wpList _ _ _ _ _ _); refine wpList_store_row rfl _ (.tmp 4) (.tmp 19) rfl (w.heap.size) #[.int .u32 0, .int .u32 0, .int .i64 0, .int .i64 0, .int .i64 0, .slice none 0 0] rfl rfl _ _ X2.out (by kernel_rfl) (by rfl) (by simp [Value.oneCell']) ?_)
    have hrow : (wn4007.setRow w.heap.size #[.int .u32 0, .int .u32 0, .int .i64 0, .int .i64 0, .int .i64 0, .slice none 0 0]).heap[w.heap.size]? = some (.cells #[.int .u32 0, .int .u32 0, .int .i64 0, .int .i64 0, .int .i64 0, .slice none 0 0] 25 (0, 0)) := setRow_heap _ _ _ _ _ _ X2.out
    refine bodyPost_ret (results_cell_tmp_row rfl _ _ (w.heap.size) _ _ (0, 0) _ rfl hrow Tryd.underlying25 rfl (by kernel_rfl)) rfl ?_
    exact rpar_of HEE.out HMM.out ⟨_, rfl, Lib.hid ⟨none, 0, rfl, .nil _ _ _⟩, Lib.hid (below_setRow2 B2.out (Nat.le_refl _) _)⟩
set_option maxRecDepth 100000 in
set_option maxHeartbeats 800000 in
theorem rpar_len (n1 c1 : Nat) (A1 : Option Addr) (key : List UInt8) (A : Option Addr) (n c : Nat) (l : List UInt8) (w : World) (hl : l.length = n) (hn : n ≠ 76) :
    Calls Tryd.prog 16 #[.slice A1 n1 c1, .slice A n c] w (RParOk key l w) := by
  have hE : parE key l = 3 := by unfold parE; rw [if_neg (fun h => hn (hl.symm.trans h))]
  have hM : parM key l = LMan.zero := by unfold parM; rw [if_neg (fun h => hn (hl.symm.trans h.1))]
  have q : ((n : Int) != 76) = true := by simp; omega
  unfold RParOk
  rw [hE, hM]
  clear hE hM hn hl
  have X0 := Lib.hid (heap_alloc_new w (.cells #[.int .u32 0, .int .u32 0, .int .i64 0, .int .i64 0, .int .i64 0, .slice none 0 0] 25))
  have B0 : Hid (Below w.heap.size w (w.alloc (.cells #[.int .u32 0, .int .u32 0, .int .i64 0, .int .i64 0, .int .i64 0, .slice none 0 0] 25))) := Lib.hid ((Below.refl _ _).alloc (Nat.le_refl _) _)
  go_enter Tryd.func16, Tryd.ntmps16
  go_upto_region 2 with fail
  generalize w.alloc (.cells #[.int .u32 0, .int .u32 0, .int .i64 0, .int .i64 0, .int .i64 0, .slice none 0 0] 25) = w0 at *
  go_wp2_with ((with_reducible show wpList _ _ _ _ _ _); refine wpList_store_row rfl _ (.tmp 4) (.tmp 9) rfl (w.heap.size) #[.int .u32 0, .int .u32 0, .int .i64 0, .int .i64 0, .int .i64 0, .slice none 0 0] rfl rfl _ _ X0.out (by kernel_rfl) (by rfl) (by simp [Value.oneCell']) ?_)
  have hrow : (w0.setRow w.heap.size #[.int .u32 0, .int .u32 0, .int .i64 0, .int .i64 0, .int .i64 0, .slice none 0 0]).heap[w.heap.size]? = some (.cells #[.int .u32 0, .int .u32 0, .int .i64 0, .int .i64 0, .int .i64 0, .slice none 0 0] 25 (0, 0)) := setRow_heap _ _ _ _ _ _ X0.out
  refine bodyPost_ret (results_cell_tmp_row rfl _ _ (w.heap.size) _ _ (0, 0) _ rfl hrow Tryd.underlying25 rfl (by kernel_rfl)) rfl ?_
  exact ⟨_, rfl, Lib.hid ⟨none, 0, rfl, .nil _ _ _⟩, Lib.hid (below_setRow2 B0.out (Nat.le_refl _) _)⟩
theorem rpar_all (n1 c1 : Nat) (A1 : Option Addr) (key : List UInt8) (A : Option Addr) (n c : Nat) (l : List UInt8) (w : World) (hk : Row w w.heap.size A1 n1 (bv key)) (hn1 : n1 ≤ 100000) (hl : Row w w.heap.size A n (bv l)) (hc : n ≤ c) (hc2 : c ≤ 9223372036854775807) :
    Calls Tryd.prog 16 #[.slice A1 n1 c1, .slice A n c] w (RParOk key l w) := by
  by_cases hn : n = 76
  · subst hn
    obtain ⟨b, o, rfl, _⟩ := hl.2 (by omega)
    exact rpar_76 n1 c1 A1 key c b o l w hk hn1 hl hc hc2
  · exact rpar_len n1 c1 A1 key A n c l w hl.blen hn
end Go.Proofs.YtcgcmfhidolohaaDoor
