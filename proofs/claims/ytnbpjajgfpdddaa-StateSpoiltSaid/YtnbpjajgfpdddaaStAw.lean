/- law 19's awake; what is written is read: by contract. -/
import Derived.Test.YtnbpjajgfpdddaaStParse
import Derived.Test.YtnbpjajgfpdddaaFirst
import Derived.Test.YtnbpjajgfpdddaaStEq
namespace Go.Proofs.Ytnbpjajgfpdddaa
open Go.RowKit
theorem bytesS_yes {cs : Array Value} {L : LSt} {w : World} {P : Nat → Prop} (h : IsSt w P cs L) (hm : L.may = true) (hw : L.w32) :
    Calls Try.prog 15 #[.agg cs] w (BytesOk L.bytes w) := by
  obtain ⟨A0, c0, A1, c1, A, c, rfl, r0, r1, r2⟩ := h
  obtain ⟨hok, ha, ht1, ht2⟩ := may_ok hm hw
  obtain ⟨act, trial, flo, gen, v0, l0, h0, v1, l1, h1, on, m⟩ := L
  simp only at ha ht1 ht2
  obtain ⟨a, rfl⟩ : ∃ a : Nat, act = a := ⟨act.toNat, by omega⟩
  obtain ⟨tr, rfl⟩ : ∃ a : Nat, trial = a := ⟨trial.toNat, by omega⟩
  exact bytesS_ex a tr flo gen v0 v1 l0 l1 h0 h1 on m A0 A1 A c0 c1 c w hm hw r0.row r1.row r2.row
theorem parse_bytes {L : LSt} (hm : L.may = true) (hw : L.w32) : parseE L.bytes = 0 ∧ parseL L.bytes = L := by
  have h := state_codec.fwd L [] (may_ok hm hw).1
  rw [List.append_nil] at h
  unfold parseE parseL
  rw [h]
  simp [hm]
theorem parse_more {L : LSt} (hm : L.may = true) (hw : L.w32) (x : UInt8) : parseE (L.bytes ++ [x]) = 3 := by
  have h := state_codec.fwd L [x] (may_ok hm hw).1
  unfold parseE
  rw [h]
  simp
theorem parse_cut {L : LSt} (hm : L.may = true) (hw : L.w32) {k : Nat} (hk : k < L.bytes.length) : parseE (L.bytes.take k) = 2 := by
  have h := state_codec.cut L (L.bytes.take k) (L.bytes.drop k) (may_ok hm hw).1 (List.take_append_drop k _).symm (fun e => by
    have := congrArg List.length e
    simp at this
    omega)
  unfold parseE
  rw [h]
  simp
def firstL0 : LSt := ⟨0, 0, 0, 0, 1, 3, n32, 0, 0, [], false, LMan.zero⟩
theorem firstL_may : firstL0.may = true := by decide +kernel
theorem firstL_w32 : firstL0.w32 := by unfold LSt.w32; decide +kernel
theorem firstL_len : firstL0.bytes.length = 51 := by decide +kernel
theorem firstS (w : World) : Calls Try.prog 29 #[] w (RetS firstL0 w) :=
  (first_any w).mono fun _ _ ⟨A, c, he, hr, hb⟩ => ⟨_, he, Lib.hid ⟨A, c, none, 0, none, 0, rfl, .of_f hr.out, .nil _ _ _, .nil _ _ _⟩, hb⟩
set_option maxRecDepth 100000 in
set_option maxHeartbeats 3200000 in
theorem awake19_any (w : World) : Calls Try.prog 14 #[] w fun e w' => e = .returned (.bool true) ∧ Below w.heap.size w w' := by
  go_enter Try.func14, Try.ntmps14
  go_wp2_with fail
  refine (firstS w).mono ?_
  rintro e w1 ⟨c1, rfl, S1, hb1⟩
  have B1 := Lib.hid hb1.out
  clear hb1
  go_wp2_with fail
  refine (bytesS_yes S1.out firstL_may firstL_w32).mono ?_
  rintro e w2 ⟨A2, n2, c2, rfl, hn2, O2, hb2⟩
  have e2 : n2 = 51 := by rw [hn2.out]; exact firstL_len
  subst e2
  have B2 := Lib.hid (B1.out.trans (hb2.out.mono B1.out.size))
  have R2 := Lib.hid (Row.of_own O2.out)
  have C2 := Lib.hid (own_cap O2.out)
  clear hb2 hn2 S1 B1 O2
  go_wp2_with fail
  refine (parse_any A2 51 c2 _ w2 R2.out C2.out.1 C2.out.2).mono ?_
  rintro e w3 ⟨c5, rfl, s5, hb3⟩
  rw [(parse_bytes firstL_may firstL_w32).1]
  have S5 : Hid (IsSt w3 (fun b => w2.heap.size ≤ b) c5 firstL0) := Lib.hid (by have := s5.out; rwa [(parse_bytes firstL_may firstL_w32).2] at this)
  have EC := Lib.hid (((((Env.start w).below B2.out).below hb3.out).addSt S5.out).alloc c5 30)
  have I5 := Lib.hid S5.out.inf
  have O5 := Lib.hid S5.out.one
  have Z5 : Hid (17 = c5.size) := Lib.hid S5.out.size.symm
  clear s5 hb3 S5 B2 R2 C2
  go_upto_region 3 with ((with_reducible show wpList _ _ _ _ _ _); refine wpList_store_new rfl rfl _ (.tmp 3) (.tmp 13) rfl _ _ c5 _ rfl rfl I5.out Z5.out O5.out ?_)
  generalize w3.alloc (.cells c5 30) = wC at *
  have HE : Hid (∀ W, Below wC.heap.size wC W → Env w W [(w3.heap.size, c5, 30)] [(c5, firstL0)] []) := Lib.hid fun W hW => EC.out.below hW
  clear EC
  refine wp_region_noPanic ?_
  refine wp_region_held_drew (S := (fun W => Below (wC.heap.size) wC W)) (by kernel_rfl) (Below.refl _ _).drew (fun hH0 => ?_)
  have hH0 : Below (wC.heap.size) wC wC.drew := hH0
  generalize wC.drew = wd3000 at *
  refine wpAnyH_take (i := 0) (oi := { dst := some 15, op := Op.move (Operand.tmp 2), type := 33, pos := "law.go:19", after := #[], guard := none }) (v := ?tkv3001) rfl (by kernel_rfl) (by kernel_rfl) (by kernel_rfl) (fun _ _ _ h => h) (Or.inl ⟨by rfl, ?tky3001⟩) hH0 ?tkr3001
  case tky3001 => (intro w' hSw; clear hSw; go_simp; try with_reducible rfl)
  try simp only [Act.put, List.setIfInBounds_toArray, List.set_cons_zero, List.set_cons_succ]
  refine wpAnyH_take (i := 1) (oi := { dst := some 16, op := Op.binOp BinOp.eql 33 (Operand.tmp 15) (Operand.const (Value.int IntKind.i64 0)) 33, type := 4, pos := "law.go:19", after := #[{ on := 0, ground := Ground.data }], guard := none }) (v := ?tkv3002) rfl (by kernel_rfl) (by kernel_rfl) (by kernel_rfl) (fun _ _ _ h => h) (Or.inl ⟨by rfl, ?tky3002⟩) hH0 ?tkr3002
  case tky3002 => (intro w' hSw; clear hSw; go_simp; try with_reducible rfl)
  try simp only [Act.put, List.setIfInBounds_toArray, List.set_cons_zero, List.set_cons_succ]
  refine wpAnyH_take (i := 2) (oi := { dst := some 17, op := Op.move (Operand.tmp 16), type := 4, pos := "law.go:19", after := #[{ on := 1, ground := Ground.data }], guard := none }) (v := ?tkv3003) rfl (by kernel_rfl) (by kernel_rfl) (by kernel_rfl) (fun _ _ _ h => h) (Or.inl ⟨by rfl, ?tky3003⟩) hH0 ?tkr3003
  case tky3003 => (intro w' hSw; clear hSw; go_simp; try with_reducible rfl)
  try simp only [Act.put, List.setIfInBounds_toArray, List.set_cons_zero, List.set_cons_succ]
  refine wpAnyH_take (i := 3) (oi := { dst := some 18, op := Op.move (Operand.tmp 1), type := 23, pos := "law.go:19", after := #[{ on := 2, ground := Ground.guard }], guard := some (2, true) }) (v := ?tkv3004) rfl (by kernel_rfl) (by kernel_rfl) (by kernel_rfl) (fun _ _ _ h => h) (Or.inl ⟨by rfl, ?tky3004⟩) hH0 ?tkr3004
  case tky3004 => (intro w' hSw; clear hSw; go_simp; try with_reducible rfl)
  try simp only [Act.put, List.setIfInBounds_toArray, List.set_cons_zero, List.set_cons_succ]
  refine wpAnyH_take (i := 4) (oi := { dst := some 19, op := Op.call { callee := Callee.builtin Builtin.len, args := #[Operand.tmp 18], argTypes := #[23] }, type := 3, pos := "law.go:19", after := #[{ on := 3, ground := Ground.data }, { on := 2, ground := Ground.guard }], guard := some (2, true) }) (v := ?tkv3005) rfl (by kernel_rfl) (by kernel_rfl) (by kernel_rfl) (fun _ _ _ h => h) (Or.inl ⟨by rfl, ?tky3005⟩) hH0 ?tkr3005
  case tky3005 => (intro w' hSw; clear hSw; go_simp; try with_reducible rfl)
  try simp only [Act.put, List.setIfInBounds_toArray, List.set_cons_zero, List.set_cons_succ]
  refine wpAnyH_take (i := 5) (oi := { dst := some 20, op := Op.binOp BinOp.eql 3 (Operand.tmp 19) (Operand.const (Value.int IntKind.i64 51)) 3, type := 4, pos := "law.go:19", after := #[{ on := 4, ground := Ground.data }, { on := 2, ground := Ground.guard }], guard := some (2, true) }) (v := ?tkv3006) rfl (by kernel_rfl) (by kernel_rfl) (by kernel_rfl) (fun _ _ _ h => h) (Or.inl ⟨by rfl, ?tky3006⟩) hH0 ?tkr3006
  case tky3006 => (intro w' hSw; clear hSw; go_simp; try with_reducible rfl)
  try simp only [Act.put, List.setIfInBounds_toArray, List.set_cons_zero, List.set_cons_succ]
  refine wpAnyH_take (i := 6) (oi := { dst := some 21, op := Op.pick (Operand.tmp 17) (Operand.tmp 20) (Operand.const (Value.bool false)), type := 4, pos := "law.go:19", after := #[{ on := 2, ground := Ground.data }, { on := 5, ground := Ground.data }], guard := none }) (v := ?tkv3007) rfl (by kernel_rfl) (by kernel_rfl) (by kernel_rfl) (fun _ _ _ h => h) (Or.inl ⟨by rfl, ?tky3007⟩) hH0 ?tkr3007
  case tky3007 => (intro w' hSw; clear hSw; go_simp; try with_reducible rfl)
  try simp only [Act.put, List.setIfInBounds_toArray, List.set_cons_zero, List.set_cons_succ]
  refine wpAnyH_take (i := 7) (oi := { dst := some 22, op := Op.move (Operand.tmp 21), type := 4, pos := "law.go:19", after := #[{ on := 6, ground := Ground.data }, { on := 2, ground := Ground.chain }], guard := none }) (v := ?tkv3008) rfl (by kernel_rfl) (by kernel_rfl) (by kernel_rfl) (fun _ _ _ h => h) (Or.inl ⟨by rfl, ?tky3008⟩) hH0 ?tkr3008
  case tky3008 => (intro w' hSw; clear hSw; go_simp; try with_reducible rfl)
  try simp only [Act.put, List.setIfInBounds_toArray, List.set_cons_zero, List.set_cons_succ]
  refine wpAnyH_take (i := 8) (oi := { dst := some 23, op := Op.move (Operand.tmp 4), type := 33, pos := "law.go:19", after := #[{ on := 7, ground := Ground.guard }], guard := some (7, true) }) (v := ?tkv3009) rfl (by kernel_rfl) (by kernel_rfl) (by kernel_rfl) (fun _ _ _ h => h) (Or.inl ⟨by rfl, ?tky3009⟩) hH0 ?tkr3009
  case tky3009 => (intro w' hSw; clear hSw; go_simp; try with_reducible rfl)
  try simp only [Act.put, List.setIfInBounds_toArray, List.set_cons_zero, List.set_cons_succ]
  refine wpAnyH_take (i := 9) (oi := { dst := some 24, op := Op.binOp BinOp.eql 33 (Operand.tmp 23) (Operand.const (Value.int IntKind.i64 0)) 33, type := 4, pos := "law.go:19", after := #[{ on := 8, ground := Ground.data }, { on := 7, ground := Ground.guard }], guard := some (7, true) }) (v := ?tkv3010) rfl (by kernel_rfl) (by kernel_rfl) (by kernel_rfl) (fun _ _ _ h => h) (Or.inl ⟨by rfl, ?tky3010⟩) hH0 ?tkr3010
  case tky3010 => (intro w' hSw; clear hSw; go_simp; try with_reducible rfl)
  try simp only [Act.put, List.setIfInBounds_toArray, List.set_cons_zero, List.set_cons_succ]
  refine wpAnyH_take (i := 10) (oi := { dst := some 25, op := Op.pick (Operand.tmp 22) (Operand.tmp 24) (Operand.const (Value.bool false)), type := 4, pos := "law.go:19", after := #[{ on := 7, ground := Ground.data }, { on := 9, ground := Ground.data }], guard := none }) (v := ?tkv3011) rfl (by kernel_rfl) (by kernel_rfl) (by kernel_rfl) (fun _ _ _ h => h) (Or.inl ⟨by rfl, ?tky3011⟩) hH0 ?tkr3011
  case tky3011 => (intro w' hSw; clear hSw; go_simp; try with_reducible rfl)
  try simp only [Act.put, List.setIfInBounds_toArray, List.set_cons_zero, List.set_cons_succ]
  refine wpAnyH_take (i := 11) (oi := { dst := some 26, op := Op.move (Operand.tmp 25), type := 4, pos := "law.go:19", after := #[{ on := 10, ground := Ground.data }, { on := 7, ground := Ground.chain }], guard := none }) (v := ?tkv3012) rfl (by kernel_rfl) (by kernel_rfl) (by kernel_rfl) (fun _ _ _ h => h) (Or.inl ⟨by rfl, ?tky3012⟩) hH0 ?tkr3012
  case tky3012 => (intro w' hSw; clear hSw; go_simp; try with_reducible rfl)
  try simp only [Act.put, List.setIfInBounds_toArray, List.set_cons_zero, List.set_cons_succ]
  refine wpAnyH_take (i := 12) (oi := { dst := some 27, op := Op.load 30 (Operand.tmp 3), type := 30, pos := "law.go:19", after := #[{ on := 11, ground := Ground.guard }], guard := some (11, true) }) (v := .agg c5) rfl (by kernel_rfl) (by kernel_rfl) (by kernel_rfl) (fun _ _ _ h => h) (yields_row (by rfl) _ _ rfl (w3.heap.size) rfl _ _ _ _ (fun W hW => (HE.out W hW).bx _ _ _ (.head _)) Try.underlying30 rfl I5.out) hH0 ?tkr3013
  try simp only [Act.put, List.setIfInBounds_toArray, List.set_cons_zero, List.set_cons_succ]
  refine wpAnyH_ready (rs := [13]) (by kernel_rfl) (by simp) ?_
  refine AllReadyH.cons (o := { dst := some 28, op := Op.call { callee := Callee.value (Operand.func 29), args := #[], argTypes := #[] }, type := 30, pos := "law.go:19", after := #[{ on := 11, ground := Ground.chain }, { on := 11, ground := Ground.guard }], guard := some (11, true) }) rfl (fun K hK => ?_) AllReadyH.nil
  go_simp
  refine (firstS wd3000).mono ?_
  rintro e' wn3014 ⟨cf3014, rfl, sf3014, hbo3014⟩
  have hb3014 := hbo3014.out
  have SF3014_ := Lib.hid sf3014.out
  clear hbo3014 sf3014
  go_simp
  have hS3014 : Below (wC.heap.size) wC wn3014 := (hH0).trans (hb3014.mono (hH0).size)
  refine hK.out _ _ hS3014 (fun hH3014 => ?_)
  have hH3014 : Below (wC.heap.size) wC wn3014 := hH3014
  clear hK K hS3014
  try simp only [Act.put, List.setIfInBounds_toArray, List.set_cons_zero, List.set_cons_succ]
  refine wpAnyH_ready (rs := [14]) (by kernel_rfl) (by simp) ?_
  refine AllReadyH.cons (o := { dst := some 29, op := Op.call { callee := Callee.value (Operand.func 19), args := #[Operand.tmp 27, Operand.tmp 28], argTypes := #[30, 30] }, type := 4, pos := "law.go:19", after := #[{ on := 12, ground := Ground.data }, { on := 13, ground := Ground.data }, { on := 13, ground := Ground.chain }, { on := 11, ground := Ground.guard }], guard := some (11, true) }) rfl (fun K hK => ?_) AllReadyH.nil
  go_simp
  refine (sameS ((HE.out wn3014 (hH3014)).st _ _ (.head _)) (SF3014_.out)).mono ?_
  rintro e' wn3015 ⟨rfl, hb3015⟩
  rw [eqb_refl]
  go_simp
  have SF3014_3015 := Lib.hid (SF3014_.out.below hb3015)
  have hS3015 : Below (wC.heap.size) wC wn3015 := (hH3014).trans (hb3015.mono (hH3014).size)
  refine hK.out _ _ hS3015 (fun hH3015 => ?_)
  have hH3015 : Below (wC.heap.size) wC wn3015 := hH3015
  clear hK K hS3015
  try simp only [Act.put, List.setIfInBounds_toArray, List.set_cons_zero, List.set_cons_succ]
  refine wpAnyH_take (i := 15) (oi := { dst := some 30, op := Op.pick (Operand.tmp 26) (Operand.tmp 29) (Operand.const (Value.bool false)), type := 4, pos := "law.go:19", after := #[{ on := 11, ground := Ground.data }, { on := 14, ground := Ground.data }], guard := none }) (v := ?tkv3016) rfl (by kernel_rfl) (by kernel_rfl) (by kernel_rfl) (fun _ _ _ h => h) (Or.inl ⟨by rfl, ?tky3016⟩) hH3015 ?tkr3016
  case tky3016 => (intro w' hSw; clear hSw; go_simp; try with_reducible rfl)
  try simp only [Act.put, List.setIfInBounds_toArray, List.set_cons_zero, List.set_cons_succ]
  refine wpAnyH_take (i := 16) (oi := { dst := some 0, op := Op.assign (Operand.tmp 30), type := 4, pos := "law.go:19", after := #[{ on := 15, ground := Ground.data }, { on := 14, ground := Ground.chain }, { on := 0, ground := Ground.phase }, { on := 1, ground := Ground.phase }, { on := 2, ground := Ground.phase }, { on := 3, ground := Ground.phase }, { on := 4, ground := Ground.phase }, { on := 5, ground := Ground.phase }, { on := 6, ground := Ground.phase }, { on := 7, ground := Ground.phase }, { on := 8, ground := Ground.phase }, { on := 9, ground := Ground.phase }, { on := 10, ground := Ground.phase }, { on := 11, ground := Ground.phase }, { on := 12, ground := Ground.phase }, { on := 13, ground := Ground.phase }, { on := 14, ground := Ground.phase }, { on := 15, ground := Ground.phase }], guard := none }) (v := ?tkv3017) rfl (by kernel_rfl) (by kernel_rfl) (by kernel_rfl) (fun _ _ _ h => h) (Or.inl ⟨by rfl, ?tky3017⟩) hH3015 ?tkr3017
  case tky3017 => (intro w' hSw; clear hSw; go_simp; try with_reducible rfl)
  try simp only [Act.put, List.setIfInBounds_toArray, List.set_cons_zero, List.set_cons_succ]
  refine wpAnyH_done (by kernel_rfl) ?_ _
  refine NoPanic.normal ?_
  have HEND := Lib.hid ((HE.out _ (hH3015)).b)
  go_wp2_with fail
  go_ret
  exact ⟨rfl, HEND.out⟩
end Go.Proofs.Ytnbpjajgfpdddaa
