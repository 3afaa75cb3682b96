/- Wheel: start, wide, per, number, blank: by contracts. Wheel: record: by contract. -/
import Derived.Test.YtekaoodagaplmaaWhM
import Derived.Test.YtekaoodagaplmaaFlFree
import Derived.Deep.RegionWith
import Derived.BigQuiet
import Derived.Deep.QuietTactic
namespace Go.Proofs.Ytekaoodagaplmaa
open Go.RowKit
theorem run_quo_nat {P : Program} (t : TypeId) (a b q : Nat) (hb : 0 < b) (ha : a ≤ 9223372036854775807) (hq : a / b = q) (W : World) : (binOp .quo t (.int .i64 (a : Int)) (.int .i64 (b : Int))).run P W = .ok (.int .i64 (q : Int)) W := by
  have h0 : ¬ b = 0 := by omega
  have hq2 : (a : Int).tdiv (b : Int) = (q : Int) := by rw [← hq]; rfl
  have hqb : q ≤ a := by rw [← hq]; exact Nat.div_le_self _ _
  have hw : IntKind.i64.wrap (q : Int) = (q : Int) := by
    have h1 : (q : Int) ≤ 9223372036854775807 := by omega
    have h2 : (0 : Int) ≤ (q : Int) := by omega
    simp [IntKind.wrap, IntKind.bits, IntKind.signed]
    omega
  simp [binOp, Op.intDiv, h0, hq2, hw]
theorem run_rem_nat {P : Program} (t : TypeId) (a b q : Nat) (hb : 0 < b) (hq : a % b = q) (W : World) : (binOp .rem t (.int .i64 (a : Int)) (.int .i64 (b : Int))).run P W = .ok (.int .i64 (q : Int)) W := by
  have h0 : ¬ b = 0 := by omega
  have hq2 : (a : Int).tmod (b : Int) = (q : Int) := by rw [← hq]; rfl
  simp [binOp, Op.intDiv, h0, hq2]
theorem wsame {P : Program} {f : FuncId} {args : Array Value} {w : World} {v : Value} (h : Calls P f args w fun e w' => e = .returned v ∧ w = w') : Calls P f args w fun e w' => e = .returned v ∧ w' = w := h.mono fun _ _ ⟨h1, h2⟩ => ⟨h1, h2.symm⟩
theorem wstart_any (s : Nat) (si : Int) (w : World) (hsi : si = (s : Int)) (h : s ≤ 8) :
    Calls Try.prog 23 #[.int .i64 si] w fun e w' => e = .returned (.int .i64 ((256 * (6 + s) : Nat) : Int)) ∧ w = w' := by
  subst hsi
  have h8 : (s : Int) ≤ 8 := by omega
  have h0 : (0 : Int) ≤ (s : Int) := by omega
  have HE : Hid ((6 + (s : Int)) * 256 = ((256 * (6 + s) : Nat) : Int)) := by show _ = _; omega
  clear h
  go_enter Try.func23, Try.ntmps23
  go_wp2_with fail
  go_ret
  exact ⟨congrArg (fun z => Ending.returned (.int .i64 z)) HE.out, rfl⟩
section
variable (gw size : Nat) (w : World)
theorem wwide_any (hc : w.cell? ⟨gw, 2, none⟩ = some (.int .i64 (size : Int))) (h : size ≤ 16) :
    Calls Try.prog 43 #[.pointer (some ⟨gw, 0, none⟩)] w fun e w' => e = .returned (.int .i64 ((size + 13 : Nat) : Int)) ∧ w = w' := by
  have h8 : (size : Int) ≤ 16 := by omega
  have HE : Hid ((size : Int) + 13 = ((size + 13 : Nat) : Int)) := by show _ = _; omega
  clear h
  go_enter Try.func43, Try.ntmps43
  go_wp2_with fail
  go_ret
  exact ⟨congrArg (fun z => Ending.returned (.int .i64 z)) HE.out, rfl⟩
set_option maxRecDepth 100000 in
theorem wper_any (hc : w.cell? ⟨gw, 2, none⟩ = some (.int .i64 (size : Int))) (h1 : 1 ≤ size) (h : size ≤ 16) :
    Calls Try.prog 33 #[.pointer (some ⟨gw, 0, none⟩)] w fun e w' => e = .returned (.int .i64 ((256 / (size + 13) : Nat) : Int)) ∧ w = w' := by
  have HW := Lib.hid (wwide_any gw size w hc h)
  clear hc
  have hcase : size = 1 ∨ size = 2 ∨ size = 3 ∨ size = 4 ∨ size = 5 ∨ size = 6 ∨ size = 7 ∨ size = 8 ∨ size = 9 ∨ size = 10 ∨ size = 11 ∨ size = 12 ∨ size = 13 ∨ size = 14 ∨ size = 15 ∨ size = 16 := by omega
  clear h h1
  rcases hcase with rfl | rfl | rfl | rfl | rfl | rfl | rfl | rfl | rfl | rfl | rfl | rfl | rfl | rfl | rfl | rfl
  all_goals
    go_enter Try.func33, Try.ntmps33
    go_wp2_with fail
    refine HW.out.mono ?_
    rintro e w' ⟨rfl, rfl⟩
    go_wp2_with fail
    go_ret
    exact ⟨rfl, rfl⟩
end
set_option maxRecDepth 100000 in
set_option maxHeartbeats 400000 in
theorem wnumber_any (B cap : Nat) (A : Option Addr) (l : List UInt8) (w : World) (hl : Row w B A 4 (bv l)) :
    Calls Try.prog 56 #[.slice A 4 cap] w fun e w' => e = .returned (.int .u32 (CrcM.number l : Nat)) ∧ w = w' := by
  have HS : Hid (isNum 0 0 l) := ⟨rfl, by decide⟩
  have HN := Lib.hid hl.blen
  go_enter Try.func56, Try.ntmps56
  go_wp2
  go_loop [3, 8] (fun v i => ∃ (k x : Nat), k ≤ 4 ∧ Hid (isNum k x l) ∧ i = .int .i64 k ∧ v = .int .u32 x) (fun _ i => 4 - (intOf i).toNat)
  case atStart => exact ⟨0, 0, by omega, HS, rfl, rfl⟩
  case round =>
    obtain ⟨k, x, hk, hx, rfl, rfl⟩ := hrel
    by_cases hlt : k < 4
    · obtain ⟨b, o, rfl, _, hkl, hcell⟩ := hl.byteAt hlt
      obtain ⟨y, hy, hr⟩ := isNum_next hx.out hkl hlt
      have HY := Lib.hid hy
      clear hy
      have hb : (l[k].toNat : Int) ≤ 255 := by have := CrcM.b_lt l[k]; omega
      go_wp2
      go_round
      case rel => exact ⟨k + 1, y, by omega, hr, by go_num, HY.out⟩
      case measure => simp [intOf]; omega
    · have : k = 4 := by omega
      subst this
      go_wp2
      go_ret
      refine ⟨?_, rfl⟩
      have e := hx.out.1
      rw [List.take_of_length_le (by rw [HN.out]; omega)] at e
      rw [e]; rfl
set_option maxRecDepth 100000 in
set_option maxHeartbeats 400000 in
theorem wblank_any (B n cap : Nat) (A : Option Addr) (L : List UInt8) (w : World) (hl : Row w B A n (bv L)) (hn : n ≤ 1000) :
    Calls Try.prog 44 #[.slice A n cap] w fun e w' => e = .returned (.bool (allFF L)) ∧ w = w' := by
  have HSL := Lib.hid hl.blen
  go_enter Try.func44, Try.ntmps44
  go_wp2_with fail
  go_loop [7] (fun i => ∃ k : Nat, k ≤ n ∧ i = .int .i64 k ∧ Hid (∀ j (hj : j < L.length), j < k → L[j] = 255)) (fun i => n - (intOf i).toNat)
  case atStart => exact ⟨0, by omega, rfl, (show ∀ j (hj : j < L.length), j < 0 → L[j] = 255 from fun j _ hj => absurd hj (by omega))⟩
  case round =>
    obtain ⟨k, hk, rfl, hall⟩ := hrel
    by_cases hlt : k < n
    · obtain ⟨b, o, rfl, _, hkl, hcell⟩ := hl.byteAt hlt
      by_cases hx : L[k] = 255
      · have e6 : ((L[k].toNat : Int) != 255) = false := by rw [hx]; rfl
        have hall2 : Hid (∀ j (hj : j < L.length), j < k + 1 → L[j] = 255) := by
          intro j hj hjk
          by_cases e : j < k
          · exact hall.out j hj e
          · obtain rfl : j = k := by omega
            exact hx
        clear hx hall
        go_wp2_with fail
        go_round
        case rel => exact ⟨k + 1, by omega, by go_num, hall2⟩
        case measure => simp [intOf]; omega
      · have e6 : ((L[k].toNat : Int) != 255) = true := bne_iff_ne.2 fun e => hx (UInt8.toNat.inj (by rw [show L[k].toNat = 255 by omega]; rfl))
        have HNO := Lib.hid (allFF_no hkl hx)
        clear hx hall
        go_wp2_with fail
        go_ret
        exact ⟨by rw [HNO.out]; rfl, rfl⟩
    · obtain rfl : n = k := by omega
      have HY : Hid (allFF L = true) := by
        show allFF L = true
        unfold allFF
        rw [List.all_eq_true]
        intro x hx
        obtain ⟨j, hj, rfl⟩ := List.getElem_of_mem hx
        have := hall.out j hj (by have := HSL.out; omega)
        simpa using this
      clear hall
      go_wp2_with fail
      go_ret
      exact ⟨by rw [HY.out]; rfl, rfl⟩
end Go.Proofs.Ytekaoodagaplmaa
namespace Go.Proofs.Ytekaoodagaplmaa
open Go.RowKit
def recZ : Obj := .cells #[.int .u32 0, .slice none 0 0] 77
/-- record's answer -/
def RecYes (p : List UInt8) (w : World) (e : Ending) (w' : World) : Prop :=
  ∃ g o m c, e = .returned (.tuple #[.agg #[.int .u32 ((plR p).1 : Nat), .slice (some ⟨g, o, none⟩) m c], .bool true]) ∧ Hid (m = (plR p).2.length) ∧ Hid (w.heap.size ≤ g ∧ g < w'.heap.size ∧ Row w' w'.heap.size (some ⟨g, o, none⟩) m (bv (plR p).2)) ∧ Hid (Below w.heap.size w w')
def RecNo (w : World) (e : Ending) (w' : World) : Prop := e = .returned (.tuple #[.agg #[.int .u32 0, .slice none 0 0], .bool false]) ∧ Hid (Below w.heap.size w w')
theorem results_ctw {P : Program} {fn : Func} {p u : Tmp} {ty : TypeId} (h : fn.results = #[.cell p ty, .tmp u]) (tmps : Array Value) (w : World) (g : Nat) (t : TypeId) (cs : Array Value) (fr : Nat × Nat) (d : TypeDesc)
    (hp : tmps.getD p undef = .pointer (some ⟨g, 0, none⟩)) (hg : w.heap[g]? = some (.cells cs t fr))
    (hu : P.underlying ty = some d) (hd : (match d with | .struct _ | .array _ _ => true | _ => false) = true) (hi : (P.info? ty).map (·.size) = some cs.size) :
    (results fn tmps).run P w = .ok (.tuple #[.agg cs, tmps.getD u undef]) w := by
  have hp' : tmps[p]?.getD undef = .pointer (some ⟨g, 0, none⟩) := by simpa using hp
  simp [results, h, hp', asAddr, run_loadVar_row w g t ty cs fr d hg hu hd hi]
theorem two_set {w : World} {g : Nat} {a b : Value} {t : TypeId} (h : w.heap[g]? = some (.cells #[a, b] t (0, 0))) (x y : Value) : ((w.setCell ⟨g, 0, none⟩ x).setCell ⟨g, 1, none⟩ y).heap[g]? = some (.cells #[x, y] t (0, 0)) :=
  heap_setCell_same _ g 1 _ t y (heap_setCell_same w g 0 _ t x h)
theorem rc2 {W : World} {g : Nat} {a b : Value} {t : TypeId} (h : W.heap[g]? = some (.cells #[a, b] t (0, 0))) : W.cell? ⟨g, 0, none⟩ = some a ∧ W.cell? ⟨g, 1, none⟩ = some b := by
  refine ⟨?_, ?_⟩ <;> (rw [cell_of_row W g _ _ _ (0, 0) h]; rfl)
theorem plB_yes {gen : Nat} {p : List UInt8} (h : plB gen p = true) : CrcM.right (p.take (p.length - 1)) ∧ p.getD (p.length - 1) 0 = 0 ∧ CrcM.number (p.take 4) = gen := of_decide_eq_true h
theorem plB_no {gen : Nat} {p : List UInt8} (h : plB gen p = false) : ¬ (CrcM.right (p.take (p.length - 1)) ∧ p.getD (p.length - 1) 0 = 0 ∧ CrcM.number (p.take 4) = gen) := of_decide_eq_false h
theorem hb_lt {B b : Nat} {n : Nat} (h : b < B) (hn : B ≤ n) : b < n := Nat.lt_of_lt_of_le h hn
set_option maxRecDepth 100000 in
set_option maxHeartbeats 1600000 in
theorem rec_no (gw B k cap gen : Nat) (A : Option Addr) (p : List UInt8) (w : World) (hl : Row w B A (k + 1) (bv p)) (hk1 : 13 ≤ k) (hk2 : k ≤ 1000) (hcap : k + 1 ≤ cap) (hcm : cap ≤ 9223372036854775807) (hB : B ≤ w.heap.size) (hgw : gw < w.heap.size)
    (hc : w.cell? ⟨gw, 1, none⟩ = some (.int .u32 (gen : Int))) (h : plB gen p = false) :
    Calls Try.prog 42 #[.pointer (some ⟨gw, 0, none⟩), .slice A (k + 1) cap] w (RecNo w) := by
  have hbl := hl.blen
  have hno := plB_no h
  rw [show p.length - 1 = k by omega] at hno
  have HNO := Lib.hid hno
  clear hno
  have HBL := Lib.hid hbl
  obtain ⟨b, o, rfl, _, hkl, hm⟩ := (hl.alloc hB recZ).byteAt (k := k) (by omega)
  have HHD : Hid (Row (w.alloc recZ) B (some ⟨b, o, none⟩) k (bv (p.take k))) := by
    have := (hl.alloc hB recZ).head (k := k) (by omega)
    rwa [bv_take] at this
  have HBA : Hid (Below w.heap.size w (w.alloc recZ)) := (Below.refl _ _).alloc (Nat.le_refl _) _
  have HZ := Lib.hid (heap_alloc_new w recZ)
  have hc' : (w.alloc recZ).cell? ⟨gw, 1, none⟩ = some (.int .u32 (gen : Int)) := (HBA.out.cell (p := ⟨gw, 1, none⟩) hgw).trans hc
  have HC := Lib.hid hc'
  have HM := Lib.hid hm
  have hki : (k : Int) ≤ cap := by omega
  have hkj : (k : Int) < (k : Int) + 1 := by omega
  have HSZ : Hid ((w.alloc recZ).heap.size = w.heap.size + 1) := by show _ = _; simp
  have HBB := Lib.hid (show B ≤ (w.alloc recZ).heap.size by have := HBA.out.size; omega)
  obtain ⟨x, hx⟩ : ∃ x, p[k] = x := ⟨_, rfl⟩
  rw [hx] at HM
  have HX := Lib.hid hx
  clear hl h hc hc' hbl hm hx
  by_cases hr : CrcM.right (p.take k)
  · have HY := Lib.hid (right_yes B k cap (some ⟨b, o, none⟩) (p.take k) (w.alloc recZ) HHD.out (by omega) hcm (by omega) HBB.out hr)
    have HRR := Lib.hid hr
    clear hr
    unfold recZ at HY HZ HBA HC HM HSZ HBB
    go_enter Try.func42, Try.ntmps42
    go_wp2_with fail
    refine HY.out.mono ?_
    rintro e w2 ⟨A2, n2, c2, rfl, hn2, hown2, hb2⟩
    have HZ2 : Hid (w2.heap[w.heap.size]? = some recZ) := (hb2.block w.heap.size (by have := HSZ.out; omega)).trans HZ.out
    have HB2 : Hid (Below w.heap.size w w2) := HBA.out.trans (hb2.mono HBA.out.size)
    have hgl : gw < (w.alloc recZ).heap.size := Nat.lt_of_lt_of_le hgw HBA.out.size
    have hc2 := (hb2.cell (p := ⟨gw, 1, none⟩) hgl).trans HC.out
    have hm2 := (hb2.cell (p := ⟨b, o + k, none⟩) (by have := HBB.out; simp only []; omega)).trans HM.out
    have y := rc2 (show w2.heap[w.heap.size]? = some (.cells #[.int .u32 0, .slice none 0 0] 77 (0, 0)) from HZ2.out)
    have y0 := y.1
    have y1 := y.2
    have z0 := frozen_of_row w2 w.heap.size 0 _ _ HZ2.out
    have z1 := frozen_of_row w2 w.heap.size 1 _ _ HZ2.out
    clear y
    obtain rfl : n2 = k - 4 := by have := hn2.out; rw [this]; simp; have := HBL.out; omega
    obtain ⟨G, cG, hv, hG1, hG2⟩ := hown2.form (by omega)
    injection hv with e1 e2 e3
    subst e1 e3
    have hcc := own_cap hown2
    have hrw := Row.of_own hown2
    have hml : (p.take k).take ((p.take k).length - 4) = p.take (k - 4) := by
      rw [List.length_take, HBL.out, Nat.min_eq_left (by omega), List.take_take, Nat.min_eq_left (by omega)]
    rw [hml] at hrw
    have h4r : Row w2 w2.heap.size (some ⟨G, 0, none⟩) 4 (bv (p.take 4)) := by
      have := hrw.head (k := 4) (by omega)
      rwa [bv_take, List.take_take, Nat.min_eq_left (by omega)] at this
    have HN4 := Lib.hid (fun q cap => wnumber_any w2.heap.size cap _ _ (w2.drewN q) (h4r.drewN q))
    have h4c : (4 : Int) ≤ c2 := by omega
    have h4k : (4 : Int) ≤ ((k - 4 : Nat) : Int) := by omega
    by_cases hx : x = 0
    · have hxb : ((x.toNat : Int) != 0) = false := by rw [hx]; rfl
      have hne : CrcM.number (p.take 4) ≠ gen := fun e => HNO.out ⟨HRR.out, by
        have := HX.out
        rw [hx] at this
        have hkp : k < p.length := by have := HBL.out; omega
        simp [List.getD, hkp, this], e⟩
      have hnb : (((CrcM.number (p.take 4) : Nat) : Int) != (gen : Int)) = true := bne_iff_ne.2 fun e => hne (Int.ofNat.inj e)
      have HNB := Lib.hid hnb
      generalize CrcM.number (p.take 4) = nm at *
      have hnb := HNB.out
      clear hx hne hb2 HY hcc hrw h4r hown2 hG1 hG2 HNB
      go_wp2_with fail
      go_quiet ((go_at_call 56; with_reducible exact Calls.quiet_of_same (wsame (HN4.out _ _))))
      go_wp2_with fail
      have hrow := two_set (show (w2.drewN nq).heap[w.heap.size]? = some _ from HZ2.out) (.int .u32 0) (.slice none 0 0)
      refine bodyPost_ret (results_ctw rfl _ _ w.heap.size _ _ (0, 0) _ rfl hrow Try.underlying77 rfl (by kernel_rfl)) rfl ?_
      exact ⟨rfl, ((below_drewN HB2.out nq).setCell (Nat.le_refl _) _).setCell (Nat.le_refl _) _⟩
    · have hxb : ((x.toNat : Int) != 0) = true := bne_iff_ne.2 fun e => hx (UInt8.toNat.inj (Int.ofNat.inj e))
      clear hx hb2 HY hcc hrw h4r hown2 hG1 hG2
      go_wp2_with fail
      go_quiet ((go_at_call 56; with_reducible exact Calls.quiet_of_same (wsame (HN4.out _ _))))
      go_wp2_with fail
      have hrow := two_set (show (w2.drewN nq).heap[w.heap.size]? = some _ from HZ2.out) (.int .u32 0) (.slice none 0 0)
      refine bodyPost_ret (results_ctw rfl _ _ w.heap.size _ _ (0, 0) _ rfl hrow Try.underlying77 rfl (by kernel_rfl)) rfl ?_
      exact ⟨rfl, ((below_drewN HB2.out nq).setCell (Nat.le_refl _) _).setCell (Nat.le_refl _) _⟩
  · have HN := Lib.hid (right_no B k cap (some ⟨b, o, none⟩) (p.take k) (w.alloc recZ) HHD.out (by omega) hcm HBB.out hr)
    clear hr
    unfold recZ at HN HZ HBA HC HM HSZ HBB
    go_enter Try.func42, Try.ntmps42
    go_wp2_with fail
    refine HN.out.mono ?_
    rintro e w2 ⟨rfl, hb2⟩
    have HZ2 : Hid (w2.heap[w.heap.size]? = some recZ) := (hb2.block w.heap.size (by have := HSZ.out; omega)).trans HZ.out
    have HB2 : Hid (Below w.heap.size w w2) := HBA.out.trans (hb2.mono HBA.out.size)
    have hgl : gw < (w.alloc recZ).heap.size := Nat.lt_of_lt_of_le hgw HBA.out.size
    have hc2 := (hb2.cell (p := ⟨gw, 1, none⟩) hgl).trans HC.out
    have hm2 := (hb2.cell (p := ⟨b, o + k, none⟩) (by have := HBB.out; simp only []; omega)).trans HM.out
    have y := rc2 (show w2.heap[w.heap.size]? = some (.cells #[.int .u32 0, .slice none 0 0] 77 (0, 0)) from HZ2.out)
    have y0 := y.1
    have y1 := y.2
    have z0 := frozen_of_row w2 w.heap.size 0 _ _ HZ2.out
    have z1 := frozen_of_row w2 w.heap.size 1 _ _ HZ2.out
    clear y
    clear hb2 HN
    go_wp2_with fail
    go_quiet (fail)
    go_wp2_with fail
    have hrow := two_set (show (w2.drewN nq).heap[w.heap.size]? = some _ from HZ2.out) (.int .u32 0) (.slice none 0 0)
    refine bodyPost_ret (results_ctw rfl _ _ w.heap.size _ _ (0, 0) _ rfl hrow Try.underlying77 rfl (by kernel_rfl)) rfl ?_
    exact ⟨rfl, ((below_drewN HB2.out nq).setCell (Nat.le_refl _) _).setCell (Nat.le_refl _) _⟩
set_option maxRecDepth 100000 in
set_option maxHeartbeats 3200000 in
theorem rec_yes (gw B k cap gen : Nat) (A : Option Addr) (p : List UInt8) (w : World) (hl : Row w B A (k + 1) (bv p)) (hk1 : 13 ≤ k) (hk2 : k ≤ 1000) (hcap : k + 1 ≤ cap) (hcm : cap ≤ 9223372036854775807) (hB : B ≤ w.heap.size) (hgw : gw < w.heap.size)
    (hc : w.cell? ⟨gw, 1, none⟩ = some (.int .u32 (gen : Int))) (h : plB gen p = true) :
    Calls Try.prog 42 #[.pointer (some ⟨gw, 0, none⟩), .slice A (k + 1) cap] w (RecYes p w) := by
  have hbl := hl.blen
  have HBL := Lib.hid hbl
  have hyes := plB_yes h
  rw [show p.length - 1 = k by omega] at hyes
  obtain ⟨hr, hx0, hg⟩ := hyes
  obtain ⟨b, o, rfl, _, hkl, hm⟩ := (hl.alloc hB recZ).byteAt (k := k) (by omega)
  have HHD : Hid (Row (w.alloc recZ) B (some ⟨b, o, none⟩) k (bv (p.take k))) := by
    have := (hl.alloc hB recZ).head (k := k) (by omega)
    rwa [bv_take] at this
  have HBA : Hid (Below w.heap.size w (w.alloc recZ)) := (Below.refl _ _).alloc (Nat.le_refl _) _
  have HZ := Lib.hid (heap_alloc_new w recZ)
  have hc' : (w.alloc recZ).cell? ⟨gw, 1, none⟩ = some (.int .u32 (gen : Int)) := (HBA.out.cell (p := ⟨gw, 1, none⟩) hgw).trans hc
  have HC := Lib.hid hc'
  have HM := Lib.hid hm
  have hki : (k : Int) ≤ cap := by omega
  have hkj : (k : Int) < (k : Int) + 1 := by omega
  have HSZ : Hid ((w.alloc recZ).heap.size = w.heap.size + 1) := by show _ = _; simp
  have HBB := Lib.hid (show B ≤ (w.alloc recZ).heap.size by have := HBA.out.size; omega)
  obtain ⟨x, hx⟩ : ∃ x, p[k] = x := ⟨_, rfl⟩
  rw [hx] at HM
  have HX := Lib.hid hx
  clear hl h hc hc' hbl hm hx
  have HY := Lib.hid (right_yes B k cap (some ⟨b, o, none⟩) (p.take k) (w.alloc recZ) HHD.out (by omega) hcm (by omega) HBB.out hr)
  have hxx : x = 0 := by
    have hkp : k < p.length := by have := HBL.out; omega
    rw [← HX.out]
    simpa [List.getD, hkp] using hx0
  have hxb : ((x.toNat : Int) != 0) = false := by rw [hxx]; rfl
  have hnb : (((CrcM.number (p.take 4) : Nat) : Int) != (gen : Int)) = false := by rw [hg]; exact bne_self_eq_false _
  have HNB := Lib.hid hnb
  clear hr hx0 hg hxx hnb
  unfold recZ at HY HZ HBA HC HM HSZ HBB
  go_enter Try.func42, Try.ntmps42
  go_wp2_with fail
  refine HY.out.mono ?_
  rintro e w2 ⟨A2, n2, c2, rfl, hn2, hown2, hb2⟩
  have HZ2 : Hid (w2.heap[w.heap.size]? = some recZ) := (hb2.block w.heap.size (by have := HSZ.out; omega)).trans HZ.out
  have HB2 : Hid (Below w.heap.size w w2) := HBA.out.trans (hb2.mono HBA.out.size)
  have hgl : gw < (w.alloc recZ).heap.size := Nat.lt_of_lt_of_le hgw HBA.out.size
  have hc2 := (hb2.cell (p := ⟨gw, 1, none⟩) hgl).trans HC.out
  have hm2 := (hb2.cell (p := ⟨b, o + k, none⟩) (by have := HBB.out; simp only []; omega)).trans HM.out
  have y := rc2 (show w2.heap[w.heap.size]? = some (.cells #[.int .u32 0, .slice none 0 0] 77 (0, 0)) from HZ2.out)
  have y0 := y.1
  have y1 := y.2
  have z0 := frozen_of_row w2 w.heap.size 0 _ _ HZ2.out
  have z1 := frozen_of_row w2 w.heap.size 1 _ _ HZ2.out
  clear y
  obtain rfl : n2 = k - 4 := by have := hn2.out; rw [this]; simp; have := HBL.out; omega
  obtain ⟨G, cG, hv, hG1, hG2⟩ := hown2.form (by omega)
  injection hv with e1 e2 e3
  subst e1 e3
  have hcc := own_cap hown2
  have hrw := Row.of_own hown2
  have hml : (p.take k).take ((p.take k).length - 4) = p.take (k - 4) := by
    rw [List.length_take, HBL.out, Nat.min_eq_left (by omega), List.take_take, Nat.min_eq_left (by omega)]
  rw [hml] at hrw
  have h4r : Row w2 w2.heap.size (some ⟨G, 0, none⟩) 4 (bv (p.take 4)) := by
    have := hrw.head (k := 4) (by omega)
    rwa [bv_take, List.take_take, Nat.min_eq_left (by omega)] at this
  have HN4 := Lib.hid (fun q cap => wnumber_any w2.heap.size cap _ _ (w2.drewN q) (h4r.drewN q))
  have h4c : (4 : Int) ≤ c2 := by omega
  have h4k : (4 : Int) ≤ ((k - 4 : Nat) : Int) := by omega
  have h8r : Row w2 w2.heap.size (some ⟨G, 4, none⟩) 4 (bv ((p.drop 4).take 4)) := by
    have := hrw.sub (k := 4) (m := 4) (A' := some ⟨G, 4, none⟩) (by omega) (fun b o e _ => by injection e with e; injection e with e1 e2; subst e1 e2; rfl)
    rwa [bv_drop, bv_take, List.drop_take, List.take_take, Nat.min_eq_left (by omega)] at this
  have hDr : Row w2 w2.heap.size (some ⟨G, 8, none⟩) (k - 4 - 8) (bv (plR p).2) := by
    have := hrw.sub (k := 8) (m := k - 4 - 8) (A' := some ⟨G, 8, none⟩) (by omega) (fun b o e _ => by injection e with e; injection e with e1 e2; subst e1 e2; rfl)
    rw [bv_drop, bv_take, List.take_of_length_le (by rw [List.length_drop, List.length_take]; have := HBL.out; omega)] at this
    unfold plR
    rwa [show p.length - 5 = k - 4 by have := HBL.out; omega]
  have HD := Lib.hid hDr
  have HPL : Hid (k - 4 - 8 = (plR p).2.length) := hDr.blen.symm
  have HN8 := Lib.hid (fun q cap => wnumber_any w2.heap.size cap _ _ (w2.drewN q) (h8r.drewN q))
  have HG := Lib.hid (And.intro hG1 hG2)
  have hnb := HNB.out
  have h8c : (8 : Int) ≤ c2 := by omega
  have h8k : (8 : Int) ≤ ((k - 4 : Nat) : Int) := by omega
  have hc8 : ¬ c2 = 8 := by omega
  generalize hK4 : k - 4 = K4 at *
  have HK4 := Lib.hid hK4
  generalize CrcM.number (p.take 4) = nm at *
  clear hb2 HY hrw h4r h8r hown2 hG1 hG2 HNB hDr hK4
  go_wp2_with fail
  go_quiet ((go_at_call 56; with_reducible exact Calls.quiet_of_same (wsame (HN4.out _ _))))
  go_wp2_with fail
  go_region_with (go_at_call 56; (with_reducible refine (HN8.out (nq + 1) _).mono ?_); rintro e w' ⟨rfl, rfl⟩)
  go_wp2_with fail
  have hrow := two_set (show (w2.drewN (nq + 1)).heap[w.heap.size]? = some _ from HZ2.out) (.int .u32 (CrcM.number ((p.drop 4).take 4) : Nat)) (.slice (some ⟨G, 8, none⟩) (K4 - 8) (c2 - 8))
  refine bodyPost_ret (results_ctw rfl _ _ w.heap.size _ _ (0, 0) _ rfl hrow Try.underlying77 rfl (by kernel_rfl)) rfl ?_
  refine ⟨G, 8, K4 - 8, c2 - 8, rfl, HPL, ?_, ((below_drewN HB2.out (nq + 1)).setCell (Nat.le_refl _) _).setCell (Nat.le_refl _) _⟩
  have hg1 := HG.out.1
  have hg2 := HG.out.2
  have hne : G ≠ w.heap.size := by have := HSZ.out; omega
  have hgr := (grown_set (w2.drewN (nq + 1)) w.heap.size 0 (.int .u32 (CrcM.number ((p.drop 4).take 4) : Nat))).trans (grown_set _ w.heap.size 1 (.slice (some ⟨G, 8, none⟩) (K4 - 8) (c2 - 8)))
  refine ⟨by have := HSZ.out; omega, by simpa using hg2, ?_⟩
  have hd := HD.out.drewN (nq + 1)
  exact (hd.apart (fun _ b o e => by injection e with e; injection e with e; omega) hgr (Nat.le_refl _)).more (by simp)
end Go.Proofs.Ytekaoodagaplmaa
