/- slot.Of, Right: by contracts; what awake sees. -/
import Derived.Test.YtgfdpondnkcogaaDoorSl
import Derived.Test.YtgfdpondnkcogaaDoorShaSum
import Derived.Test.YtgfdpondnkcogaaDoorDgOnce
import Derived.Deep.RegionHeld3
namespace Go.Proofs.YtgfdpondnkcogaaDoor
open Go.RowKit Sh
theorem slr_row {P : Program} {fn : Func} {p u : Tmp} {ty : TypeId} (h : fn.results = #[.cell p ty, .tmp u]) (tmps : Array Value) (w : World) (g : Nat) (t : TypeId) (cs : Array Value) (fr : Nat × Nat) (d : TypeDesc)
    (hp : tmps.getD p undef = .pointer (some ⟨g, 0, none⟩)) (hg : w.heap[g]? = some (.cells cs t fr))
    (hu : P.underlying ty = some d) (hd : (match d with | .struct _ | .array _ _ => true | _ => false) = true) (hi : (P.info? ty).map (·.size) = some cs.size) :
    (results fn tmps).run P w = .ok (.tuple #[.agg cs, tmps.getD u undef]) w := by
  have hp' : tmps[p]?.getD undef = .pointer (some ⟨g, 0, none⟩) := by simpa using hp
  simp [results, h, hp', asAddr, run_loadVar_row w g t ty cs fr d hg hu hd hi]
theorem sl3 {w : World} {g : Nat} {a b c : Value} {t : TypeId} (h : w.heap[g]? = some (.cells #[a, b, c] t (0, 0))) (x y z : Value) : (((w.setCell ⟨g, 0, none⟩ x).setCell ⟨g, 1, none⟩ y).setCell ⟨g, 2, none⟩ z).heap[g]? = some (.cells #[x, y, z] t (0, 0)) :=
  heap_setCell_same _ g 2 _ t z (heap_setCell_same _ g 1 _ t y (heap_setCell_same w g 0 _ t x h))
theorem c3 {W : World} {g : Nat} {a b c : Value} {t : TypeId} {fr : Nat × Nat} (h : W.heap[g]? = some (.cells #[a, b, c] t fr)) : W.cell? ⟨g, 0, none⟩ = some a ∧ W.cell? ⟨g, 1, none⟩ = some b ∧ W.cell? ⟨g, 2, none⟩ = some c := by
  refine ⟨?_, ?_, ?_⟩ <;> (rw [cell_of_row W g _ _ _ fr h]; rfl)
def SOfOk (v n : Nat) (l : List UInt8) (w : World) (e : Ending) (w' : World) : Prop :=
  ∃ A c, e = .returned (.tuple #[.agg #[.int .u32 (v : Int), .int .i64 (n : Int), .slice A 32 c], .bool true]) ∧ Hid (Row w' w'.heap.size A 32 (bv (Sha.D l))) ∧ Hid (∀ b o, A = some ⟨b, o, none⟩ → w.heap.size ≤ b) ∧ Hid (32 ≤ c ∧ c ≤ 9223372036854775807) ∧ Hid (Below w.heap.size w w')
set_option maxRecDepth 100000 in
set_option maxHeartbeats 1600000 in
theorem sof_yes (v n B cap : Nat) (A : Option Addr) (l : List UInt8) (w : World) (ht : Tab w) (hl : Row w B A n (bv l)) (hB : B ≤ w.heap.size) (h1 : 1 ≤ n) (h2 : n ≤ 512) :
    Calls Tryd.prog 11 #[.int .u32 (v : Int), .slice A n cap] w (SOfOk v n l w) := by
  have hb0 : Below w.heap.size w (w.alloc (.cells #[.int .u32 0, .int .i64 0, .slice none 0 0] 33)) := (Below.refl _ _).alloc (Nat.le_refl _) _
  have HFT := Lib.hid (fits_yes n (w.alloc (.cells #[.int .u32 0, .int .i64 0, .slice none 0 0] 33)) h1 h2)
  have HSUM := Lib.hid (Sh.sum_any B n cap A l (w.alloc (.cells #[.int .u32 0, .int .i64 0, .slice none 0 0] 33)) (ht.below hb0 ht.1) (hl.alloc hB _) (by simp; omega) (by omega))
  have HZ := Lib.hid (heap_alloc_new w (.cells #[.int .u32 0, .int .i64 0, .slice none 0 0] 33))
  have HS : Hid ((w.alloc (.cells #[.int .u32 0, .int .i64 0, .slice none 0 0] 33)).heap.size = w.heap.size + 1) := by show _ = _; simp
  have HB0 := Lib.hid hb0
  clear hb0 ht hl h1 h2
  go_enter Tryd.func11, Tryd.ntmps11
  go_wp2_with fail
  refine HFT.out.mono ?_
  rintro e w' ⟨rfl, rfl⟩
  go_wp2_with fail
  refine HSUM.out.mono ?_
  rintro e w2 ⟨A2, c2, rfl, hown, hb2⟩
  have hz2 := (hb2.out.block w.heap.size (by have := HS.out; omega)).trans HZ.out
  obtain ⟨y0, y1, y2⟩ := c3 hz2
  have z0 := frozen_of_row w2 w.heap.size 0 _ _ hz2
  have z1 := frozen_of_row w2 w.heap.size 1 _ _ hz2
  have z2 := frozen_of_row w2 w.heap.size 2 _ _ hz2
  have HZ2 := Lib.hid hz2
  have HB2 : Hid (Below w.heap.size w w2) := HB0.out.trans (hb2.out.mono HB0.out.size)
  have HR2 := Lib.hid (Row.of_own hown.out)
  have hcc := own_cap hown.out
  have HAP : Hid (∀ b o, A2 = some ⟨b, o, none⟩ → b ≠ w.heap.size ∧ w.heap.size ≤ b) := by
    intro b' o' e
    obtain ⟨g2, c22, hv, hg2, _⟩ := hown.out.form (by omega)
    injection hv with e1 e2 e3
    rw [e] at e1
    injection e1 with e1
    injection e1 with e1
    have := HS.out
    omega
  clear hz2 hb2 hown HFT HSUM HZ HB0
  go_wp2_with fail
  have hrow := sl3 HZ2.out (.int .u32 (v : Int)) (.int .i64 (n : Int)) (.slice A2 32 c2)
  refine bodyPost_ret (slr_row rfl _ _ w.heap.size _ _ (0, 0) _ rfl hrow Tryd.underlying33 rfl (by kernel_rfl)) rfl ?_
  exact ⟨A2, c2, rfl, ((HR2.out.apart (fun _ b o e => (HAP.out b o e).1) (((grown_set w2 w.heap.size 0 _).trans (grown_set _ w.heap.size 1 _)).trans (grown_set _ w.heap.size 2 _)) (Nat.le_refl _)).more (by simp)), (fun b o e => (HAP.out b o e).2), hcc, ((HB2.out.setCell (Nat.le_refl _) _).setCell (Nat.le_refl _) _).setCell (Nat.le_refl _) _⟩
set_option maxRecDepth 100000 in
set_option maxHeartbeats 3200000 in
theorem right_any (g s a v n m c : Nat) (A : Option Addr) (h : List UInt8) (f : Fl) (w : World) (ht : Tab w) (hf : FlAt w g f) (hd : f.down = false) (hs : s = 0 ∨ s = 1) (ha : a = 2 + 2 * s) (hm1 : 1 ≤ m) (hm : m ≤ 512) (hh : Row w w.heap.size A n (bv h)) :
    Calls Tryd.prog 17 #[.pointer (some ⟨g, 0, none⟩), .int .i64 (s : Int), .agg #[.int .u32 (v : Int), .int .i64 (m : Int), .slice A n c]] w fun e w' => e = .returned (.bool (Sha.D (f.sub (256 * a) m) == h)) ∧ Hid (Below w.heap.size w w') := by
  have hb0 : Below w.heap.size w (w.alloc (.cells #[.int .u32 (v : Int), .int .i64 (m : Int), .slice A n c] 33)) := (Below.refl _ _).alloc (Nat.le_refl _) _
  have HFT := Lib.hid (fits_yes m (w.alloc (.cells #[.int .u32 (v : Int), .int .i64 (m : Int), .slice A n c] 33)) hm1 hm)
  have HRD := Lib.hid (sread_any g s a m f (w.alloc (.cells #[.int .u32 (v : Int), .int .i64 (m : Int), .slice A n c] 33)) (hf.below hb0) hd hs ha hm)
  have HZ := Lib.hid (heap_alloc_new w (.cells #[.int .u32 (v : Int), .int .i64 (m : Int), .slice A n c] 33))
  have HS : Hid ((w.alloc (.cells #[.int .u32 (v : Int), .int .i64 (m : Int), .slice A n c] 33)).heap.size = w.heap.size + 1) := by show _ = _; simp
  have HB0 := Lib.hid hb0
  have HHR := Lib.hid hh
  have HT := Lib.hid ht
  have HSL := Lib.hid (f.sub_length (256 * a) m)
  generalize f.sub (256 * a) m = L at *
  clear hb0 ht hf hd hs ha hm1 hh
  go_enter Tryd.func17, Tryd.ntmps17
  go_wp2_with fail
  refine HFT.out.mono ?_
  rintro e w' ⟨rfl, rfl⟩
  go_wp2_with fail
  refine HRD.out.mono ?_
  rintro e w1 ⟨A1, n1, c1, rfl, hn1, hown, hb1⟩
  obtain rfl : n1 = m := hn1.out.trans HSL.out
  have hz1 := (hb1.out.block w.heap.size (by have := HS.out; omega)).trans HZ.out
  have HW1 : Hid (Below w.heap.size w w1) := HB0.out.trans (hb1.out.mono HB0.out.size)
  have HR1 := Lib.hid (Row.of_own hown.out)
  have hgl : w.heap.size < w1.heap.size := by have := hb1.out.size; have := HS.out; omega
  have HBX : Hid (∀ W, Below w1.heap.size w1 W → W.cell? ⟨w.heap.size, 2, none⟩ = some (.slice A n c)) := Lib.hid fun W hW => (c3 ((hW.block w.heap.size hgl).trans hz1)).2.2
  have HSUM : Hid (∀ W, Below w1.heap.size w1 W → Calls Tryd.prog 28 #[.slice A1 n1 c1] W (SumOk L W)) := Lib.hid fun W hW => Sh.sum_any w1.heap.size n1 c1 A1 L W (HT.out.below (HW1.out.trans (hW.mono HW1.out.size)) HT.out.1) (HR1.out.below hW) hW.size (by omega)
  clear hz1 hb1 hown hn1 HFT HRD HZ HB0 HR1
  go_upto_region 4 with fail
  refine wp_region_noPanic ?_
  refine wp_region_held_drew (S := (fun W => Below (w1.heap.size) w1 W)) (by kernel_rfl) (Below.refl _ _).drew (fun hH0 => ?_)
  have hH0 : Below (w1.heap.size) w1 w1.drew := hH0
  generalize w1.drew = wd600 at *
  refine wpAnyH_take (i := 0) (oi := { dst := some 21, op := Op.move (Operand.tmp 8), type := 36, pos := "slot.go:46", after := #[], guard := none }) (v := ?tkv601) rfl (by kernel_rfl) (by kernel_rfl) (by kernel_rfl) (fun _ _ _ h => h) (Or.inl ⟨by rfl, ?tky601⟩) hH0 ?tkr601
  case tky601 => (intro w' hSw; clear hSw; go_simp; try with_reducible rfl)
  try simp only [Act.put, List.setIfInBounds_toArray, List.set_cons_zero, List.set_cons_succ]
  refine wpAnyH_take (i := 1) (oi := { dst := some 22, op := Op.binOp BinOp.eql 36 (Operand.tmp 21) (Operand.const (Value.int IntKind.i64 0)) 36, type := 4, pos := "slot.go:46", after := #[{ on := 0, ground := Ground.data }], guard := none }) (v := ?tkv602) rfl (by kernel_rfl) (by kernel_rfl) (by kernel_rfl) (fun _ _ _ h => h) (Or.inl ⟨by rfl, ?tky602⟩) hH0 ?tkr602
  case tky602 => (intro w' hSw; clear hSw; go_simp; try with_reducible rfl)
  try simp only [Act.put, List.setIfInBounds_toArray, List.set_cons_zero, List.set_cons_succ]
  refine wpAnyH_take (i := 2) (oi := { dst := some 23, op := Op.move (Operand.tmp 22), type := 4, pos := "slot.go:46", after := #[{ on := 1, ground := Ground.data }], guard := none }) (v := ?tkv603) rfl (by kernel_rfl) (by kernel_rfl) (by kernel_rfl) (fun _ _ _ h => h) (Or.inl ⟨by rfl, ?tky603⟩) hH0 ?tkr603
  case tky603 => (intro w' hSw; clear hSw; go_simp; try with_reducible rfl)
  try simp only [Act.put, List.setIfInBounds_toArray, List.set_cons_zero, List.set_cons_succ]
  refine wpAnyH_take (i := 3) (oi := { dst := some 24, op := Op.move (Operand.tmp 7), type := 28, pos := "slot.go:46", after := #[{ on := 2, ground := Ground.guard }], guard := some (2, true) }) (v := ?tkv604) rfl (by kernel_rfl) (by kernel_rfl) (by kernel_rfl) (fun _ _ _ h => h) (Or.inl ⟨by rfl, ?tky604⟩) hH0 ?tkr604
  case tky604 => (intro w' hSw; clear hSw; go_simp; try with_reducible rfl)
  try simp only [Act.put, List.setIfInBounds_toArray, List.set_cons_zero, List.set_cons_succ]
  refine wpAnyH_take (i := 5) (oi := { dst := some 26, op := Op.fieldAddr 33 (Operand.tmp 5) 2, type := 0, pos := "slot.go:46", after := #[{ on := 2, ground := Ground.guard }], guard := some (2, true) }) (v := ?tkv605) rfl (by kernel_rfl) (by kernel_rfl) (by kernel_rfl) (fun _ _ _ h => h) (Or.inl ⟨by rfl, ?tky605⟩) hH0 ?tkr605
  case tky605 => (intro w' hSw; clear hSw; go_simp; try with_reducible rfl)
  try simp only [Act.put, List.setIfInBounds_toArray, List.set_cons_zero, List.set_cons_succ]
  refine wpAnyH_take (i := 6) (oi := { dst := some 27, op := Op.load 28 (Operand.tmp 26), type := 28, pos := "slot.go:46", after := #[{ on := 5, ground := Ground.data }, { on := 2, ground := Ground.guard }], guard := some (2, true) }) (v := ?tkv606) rfl (by kernel_rfl) (by kernel_rfl) (by kernel_rfl) (fun _ _ _ h => h) (Or.inl ⟨by rfl, ?tky606⟩) hH0 ?tkr606
  case tky606 => (intro w' hSw; have z0 := HBX.out _ hSw; clear hSw; go_simp; try with_reducible rfl)
  try simp only [Act.put, List.setIfInBounds_toArray, List.set_cons_zero, List.set_cons_succ]
  refine wpAnyH_ready (rs := [4]) (by kernel_rfl) (by simp) ?_
  refine AllReadyH.cons (o := { dst := some 25, op := Op.call { callee := Callee.value (Operand.func 28), args := #[Operand.tmp 24], argTypes := #[28] }, type := 28, pos := "slot.go:46", after := #[{ on := 3, ground := Ground.data }, { on := 2, ground := Ground.chain }, { on := 2, ground := Ground.guard }], guard := some (2, true) }) rfl (fun K hK => ?_) AllReadyH.nil
  go_simp
  refine (HSUM.out wd600 (hH0)).mono ?_
  rintro e' wn607 ⟨Ah607, ch607, rfl, ho607, hx607⟩
  have hb607 := hx607.out
  have HSR607 : Hid (Row wn607 wn607.heap.size Ah607 32 (bv (Sha.D L))) := Lib.hid (Row.of_own ho607.out)
  clear ho607 hx607
  go_simp
  have hS607 : Below (w1.heap.size) w1 wn607 := (hH0).trans (hb607.mono (hH0).size)
  refine hK.out _ _ hS607 (fun hH607 => ?_)
  have hH607 : Below (w1.heap.size) w1 wn607 := hH607
  clear hK K hS607
  try simp only [Act.put, List.setIfInBounds_toArray, List.set_cons_zero, List.set_cons_succ]
  refine wpAnyH_ready (rs := [7]) (by kernel_rfl) (by simp) ?_
  refine AllReadyH.cons (o := { dst := some 28, op := Op.call { callee := Callee.value (Operand.func 40), args := #[Operand.tmp 25, Operand.tmp 27], argTypes := #[28, 28] }, type := 4, pos := "slot.go:46", after := #[{ on := 4, ground := Ground.data }, { on := 6, ground := Ground.data }, { on := 4, ground := Ground.chain }, { on := 2, ground := Ground.guard }], guard := some (2, true) }) rfl (fun K hK => ?_) AllReadyH.nil
  go_simp
  refine (equal_any _ 32 ch607 n c Ah607 A (Sha.D L) h wn607 HSR607.out ((HHR.out.below (HW1.out.trans (Below.mono (hH607) HW1.out.size))).more (Nat.le_trans HW1.out.size (hH607).size))).mono ?_
  rintro e' w' ⟨rfl, hww⟩
  obtain rfl : wn607 = w' := hww.symm
  go_simp
  have hS608 : Below (w1.heap.size) w1 wn607 := hH607
  refine hK.out _ _ hS608 (fun hH608 => ?_)
  have hH608 : Below (w1.heap.size) w1 wn607 := hH608
  clear hK K hS608
  try simp only [Act.put, List.setIfInBounds_toArray, List.set_cons_zero, List.set_cons_succ]
  refine wpAnyH_take (i := 8) (oi := { dst := some 29, op := Op.pick (Operand.tmp 23) (Operand.tmp 28) (Operand.const (Value.bool false)), type := 4, pos := "slot.go:46", after := #[{ on := 2, ground := Ground.data }, { on := 7, ground := Ground.data }], guard := none }) (v := ?tkv609) rfl (by kernel_rfl) (by kernel_rfl) (by kernel_rfl) (fun _ _ _ h => h) (Or.inl ⟨by rfl, ?tky609⟩) hH608 ?tkr609
  case tky609 => (intro w' hSw; clear hSw; go_simp; try with_reducible rfl)
  try simp only [Act.put, List.setIfInBounds_toArray, List.set_cons_zero, List.set_cons_succ]
  refine wpAnyH_take (i := 9) (oi := { dst := some 6, op := Op.assign (Operand.tmp 29), type := 4, pos := "slot.go:46", after := #[{ on := 8, ground := Ground.data }, { on := 7, ground := Ground.chain }, { on := 0, ground := Ground.phase }, { on := 1, ground := Ground.phase }, { on := 2, ground := Ground.phase }, { on := 3, ground := Ground.phase }, { on := 4, ground := Ground.phase }, { on := 5, ground := Ground.phase }, { on := 6, ground := Ground.phase }, { on := 7, ground := Ground.phase }, { on := 8, ground := Ground.phase }], guard := none }) (v := ?tkv610) rfl (by kernel_rfl) (by kernel_rfl) (by kernel_rfl) (fun _ _ _ h => h) (Or.inl ⟨by rfl, ?tky610⟩) hH608 ?tkr610
  case tky610 => (intro w' hSw; clear hSw; go_simp; try with_reducible rfl)
  try simp only [Act.put, List.setIfInBounds_toArray, List.set_cons_zero, List.set_cons_succ]
  refine wpAnyH_done (by kernel_rfl) ?_ _
  refine NoPanic.normal ?_
  have HBE : Hid (Below w.heap.size w wn607) := Lib.hid (HW1.out.trans (Below.mono (hH608) HW1.out.size))
  go_wp2_with fail
  go_ret
  exact ⟨rfl, HBE⟩

set_option maxRecDepth 100000 in
set_option maxHeartbeats 800000 in
theorem right_len (p : Option Addr) (x m : Int) (v n c : Nat) (A : Option Addr) (w : World) (hm : m < 1 ∨ 512 < m) :
    Calls Tryd.prog 17 #[.pointer p, .int .i64 x, .agg #[.int .u32 (v : Int), .int .i64 m, .slice A n c]] w fun e w' => e = .returned (.bool false) ∧ Hid (Below w.heap.size w w') := by
  have HB0 : Hid (Below w.heap.size w (w.alloc (.cells #[.int .u32 (v : Int), .int .i64 m, .slice A n c] 33))) := (Below.refl _ _).alloc (Nat.le_refl _) _
  have HFT := Lib.hid (fits_no m (w.alloc (.cells #[.int .u32 (v : Int), .int .i64 m, .slice A n c] 33)) hm)
  clear hm
  go_enter Tryd.func17, Tryd.ntmps17
  go_wp2_with fail
  refine HFT.out.mono ?_
  rintro e w' ⟨rfl, rfl⟩
  go_wp2_with fail
  go_ret
  exact ⟨rfl, HB0⟩
end Go.Proofs.YtgfdpondnkcogaaDoor
