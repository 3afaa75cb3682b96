/- ElimUnits' walk. -/
import Derived.Test.YtdogbdbjagechaaDoorElUnitsM
import Derived.Test.YtdogbdbjagechaaDoorElAwake
import Derived.Test.YtdogbdbjagechaaDoorVecMore
namespace Go.Proofs.YtdogbdbjagechaaDoor.El
open Go.RowKit
open VecM Vc
def RowH (w : World) (A : Option Addr) (n : Nat) (xs : List Value) : Prop := Row w w.heap.size A n xs
theorem RowH.below {w w' : World} {A : Option Addr} {n : Nat} {xs : List Value} (h : RowH w A n xs) (hb : Below w.heap.size w w') : RowH w' A n xs := (Row.below h hb).more hb.size
def FrU (w : World) (F : Nat → Prop) (W : World) : Prop := Fr w W F
theorem ofL_one {n o : Nat} (ho : o < n) : ofL n [(o : Int)] = 2 ^ o := by
  apply Nat.eq_of_testBit_eq
  intro j
  rw [ofL_bit, pow_bit]
  by_cases h : o = j
  · subst h; simp [ho]
  · have h2 : ¬ ((j : Int) ∈ [(o : Int)]) := by simp; omega
    rw [decide_eq_false h2, decide_eq_false h]; simp
/-- where the law stands: the matrix of what was seen, and what was seen -/
structure UI (w W : World) (gs gm N : Nat) (xb : UInt8) (seen : List Bool) (k : Nat) : Prop where
  b : Below w.heap.size w W
  hg : w.heap.size ≤ gs ∧ gs < W.heap.size
  sl : seen.length = N
  sb : W.heap[gs]? = some (.cells (seen.map Value.bool).toArray 4 (0, 0))
  m : IsMat W (fun b => w.heap.size ≤ b ∧ b ≠ gs) gm N 1 (unitM N seen (fun i => [UInt8.ofNat i ^^^ xb]))
  r : rankM (unitM N seen (fun i => [UInt8.ofNat i ^^^ xb])) = k
theorem infoBo : (Tryd.prog.info? 4).map (fun i => (i.zero, i.size, i.bytes)) = some (some (.bool false), 1, 1) := by kernel_rfl
theorem nums_at {w : World} {B m : Nat} {A : Option Addr} {zs : List Int} (h : Row w B A m (nv zs)) {k : Nat} (hk : k < m) : ∃ z b o, A = some ⟨b, o, none⟩ ∧ w.cell? ⟨b, o + k, none⟩ = some (.int .i64 z) := by
  obtain ⟨b, o, e, _, hc⟩ := h.2 (by omega)
  have hl : k < zs.length := by have := h.1; rw [nv_length] at this; omega
  exact ⟨zs[k], b, o, e, hc k _ (by simp [nv, hl])⟩
theorem mk_bools (c : Nat) (hc : c ≤ 1000000000) (w : World) : (Instr.makeSlice 35 (.int .i64 (c : Int)) (.int .i64 (c : Int))).run Tryd.prog w = .ok (.slice (some ⟨w.heap.size, 0, none⟩) c c) (w.alloc (.cells (Array.replicate c (.bool false)) 4)) := by
  obtain ⟨i0, hi, hz0, hz1, hz2⟩ := info_parts infoBo
  have := run_make (P := Tryd.prog) w 35 4 i0 (.bool false) Tryd.underlying35 hi hz0 .i64 .i64 c c (by omega) (Int.le_refl _) (by rw [hz2]; omega) (by omega)
  have e : ∀ (v : Value) (n : Nat), madeCells #[v] n = Array.replicate n v := fun v n => by
    apply Array.toList_inj.1
    rw [toList_madeCells_one]; simp
  simpa [hz1, Value.cells, e] using this
theorem unitM_none (n : Nat) (d : Nat → List UInt8) : unitM n (List.replicate n false) d = List.replicate n none := by
  apply List.ext_getElem?
  intro i
  by_cases hi : i < n
  · rw [unitM_get hi, List.getElem?_replicate, if_pos hi]
    have : (List.replicate n false).getD i false = false := by simp [List.getD, List.getElem?_replicate]; split <;> rfl
    rw [this]; rfl
  · rw [List.getElem?_eq_none (by simp [unitM]; omega), List.getElem?_eq_none (by simp; omega)]
set_option maxRecDepth 100000 in
set_option maxHeartbeats 3200000 in
theorem elunits_walk (x : Int) (A : Option Addr) (mm cap : Nat) (zs : List Int) (xb : UInt8) (w : World) (ht : DTab w) (hr : Row w w.heap.size A mm (nv zs)) (hcap : mm ≤ cap) (hcm : cap ≤ 9223372036854775807) :
    Calls Tryd.prog 7 #[.int .i64 x, .slice A mm cap, .int .u8 (xb.toNat : Int)] w fun e w' => e = .returned (.bool true) ∧ Below w.heap.size w w' := by
  obtain ⟨k0, hk0, hpick⟩ := pick_in x 60 (by omega) (by omega)
  obtain ⟨N, hN⟩ : ∃ N : Nat, k0 + 1 = N := ⟨_, rfl⟩
  have HPK := Lib.hid hpick
  have HADD : Hid (wrap64 (1 + (k0 : Int)) = (N : Int)) := Lib.hid (by unfold wrap64; omega)
  have hN1 : 1 ≤ N := by omega
  have hN60 : N ≤ 60 := by omega
  have hk59 : (k0 : Int) ≤ 59 := by omega
  have e1k : (1 : Int) + (k0 : Int) = (N : Int) := by omega
  have HT := Lib.hid ht
  have HR := Lib.hid hr
  clear hpick hN ht hr
  go_enter Tryd.func7, Tryd.ntmps7
  go_upto_region 2 with (rw [HPK.out])
  clear e1k HPK HADD hk59 hk0
  go_wp2_with fail
  refine (newI N 1 w (by omega) (by omega)).mono ?_
  rintro e w1 ⟨gm, rfl, hm, hb⟩
  have hmk := mk_bools N (by omega)
  have ba : Below w1.heap.size w1 (w1.alloc (.cells (Array.replicate N (.bool false)) 4)) := (Below.refl _ _).alloc (Nat.le_refl _) _
  have hui : Hid (UI w (w1.alloc (.cells (Array.replicate N (.bool false)) 4)) w1.heap.size gm N xb (List.replicate N false) 0) := Lib.hid ⟨hb.out.trans (ba.mono hb.out.size), ⟨hb.out.size, by simp⟩, by simp, by rw [heap_alloc_new]; simp, by
      rw [unitM_none]
      exact (hm.out.below ba).more fun b hb => ⟨hb.1, by omega⟩, by rw [unitM_none]; simp [rankM]⟩
  clear hm hb ba
  go_wp2_with fail
  generalize (w1.alloc (.cells (Array.replicate N (.bool false)) 4)) = w2 at *
  generalize w1.heap.size = gs at *
  have HN256 : Hid (N ≤ 256) := Lib.hid (by omega)
  have HXN : Hid (IntKind.u64.wrap (N : Int) = (N : Int)) := Lib.hid (by rw [IntKind.wrap_u64]; omega)
  have HN1 := Lib.hid hN1
  go_loopw [25, 9] (fun i s wr => ∃ (t k : Nat) (seen : List Bool), t ≤ mm ∧ i = .int .i64 t ∧ s = .int .i64 (k : Int) ∧ Hid (UI w wr gs gm N xb seen k)) (fun i _ _ => mm - (intOf i).toNat)
  case atStart => exact ⟨0, 0, _, by omega, rfl, rfl, hui⟩
  case round =>
    clear hui
    obtain ⟨t, k, seen, ht, rfl, rfl, HU⟩ := hrel
    by_cases hlt : t < mm
    · have rw0 := HR.out.below (HU.out.b.mono (Nat.le_refl _))
      obtain ⟨z, bz, oz, hAz, hcz⟩ := nums_at rw0 hlt
      subst hAz
      by_cases h100 : 100 ≤ t
      · have q100 : decide ((t : Int) ≥ 100) = true := by simp; omega
        have q100b : (100 : Int) ≤ (t : Int) := by omega
        clear h100
        by_cases hf : k = N
        · have HSO := Lib.hid (units_full (z := 1) (n := N) (seen := seen) (d := fun i => [UInt8.ofNat i ^^^ xb]) (fun _ => rfl) (HU.out.r.trans hf))
          have HCS := Lib.hid (solveI HU.out.m (HU.out.r.trans hf))
          have HBB := Lib.hid HU.out.b
          clear hf HU
          go_wp2_with fail
          refine HCS.out.mono ?_
          rw [HSO.out]
          rintro e w5 ⟨gl, es, rfl, hes, hs⟩
          have HS := Lib.hid hs.out
          have HES := Lib.hid hes
          have HB5 := Lib.hid (HBB.out.trans (hs.out.b.mono HBB.out.size))
          clear hs hes HCS HSO HBB
          go_wp2_with fail
          go_loop [80] (fun i => ∃ t : Nat, t ≤ N ∧ i = .int .i64 t) (fun i => N - (intOf i).toNat)
          case atStart => exact ⟨0, by omega, rfl⟩
          case round =>
            obtain ⟨t, ht, rfl⟩ := hrel
            by_cases hlt : t < N
            · obtain ⟨r, hr, hrl⟩ : ∃ r, es[t]? = some r ∧ r.l = [UInt8.ofNat t ^^^ xb] := by
                have e := congrArg (fun l : List (List UInt8) => l[t]?) HES.out
                simp only [List.getElem?_map, List.getElem?_range hlt] at e
                cases hx : es[t]? with
                | none => rw [hx] at e; cases e
                | some r => rw [hx] at e; exact ⟨r, rfl, Option.some.inj e⟩
              obtain ⟨ccs, k1, k2, k3⟩ := HS.out.row
              obtain ⟨a1, a2, dd, a3, _⟩ := HS.out.at_ r (List.mem_of_getElem? hr)
              have q0 : w5.cell? ⟨gl, t, none⟩ = some (.slice (some ⟨dd, 0, none⟩) 1 r.c) := by
                rw [cell_of_row w5 gl t ccs _ (0, 0) k1, k3 t r hr]
                unfold BRow.val
                rw [a1, a3, hrl]
                rfl
              have q1 : w5.cell? ⟨dd, 0, none⟩ = some (.int .u8 ((UInt8.ofNat t ^^^ xb).toNat : Int)) := by
                have hrow := a2.row
                rw [hrl] at hrow
                obtain ⟨b, o, e, _, hc⟩ := hrow.cellAt (k := 0) (u := .int .u8 ((UInt8.ofNat t ^^^ xb).toNat : Int)) (by simp) rfl
                rw [a3] at e
                injection e with e
                injection e with e1 e2
                subst e1 e2
                exact hc
              have HXOR : Hid (bits .xor .u8 (IntKind.u8.wrap (t : Int)) (xb.toNat : Int) = ((UInt8.ofNat t ^^^ xb).toNat : Int)) := Lib.hid (by
                have := xor_int (UInt8.ofNat t) xb
                rw [show ((UInt8.ofNat t).toNat : Int) = IntKind.u8.wrap (t : Int) by rw [IntKind.wrap_u8]; simp] at this
                exact this)
              have hti : (t : Int) < (N : Int) := by omega
              have ht59 : (t : Int) ≤ 59 := by omega
              have HXOR2 : Hid (bits .xor .u8 (t : Int) (xb.toNat : Int) = ((UInt8.ofNat t ^^^ xb).toNat : Int)) := Lib.hid (by have := HXOR.out; rwa [IntWalk.u8_in _ (by omega)] at this)
              clear k1 k2 k3 a1 a2 a3 hr hrl
              go_wp2_with (first | rw [HXOR.out] | rw [HXOR2.out])
              go_round
              case rel => exact ⟨t + 1, by omega, by go_num⟩
              case measure => simp [intOf]; omega
            · have : N = t := by omega
              subst this
              go_wp2_with fail
              refine (awake6_any w5 (HT.out.grow HB5.out)).mono ?_
              rintro e w9 ⟨rfl, hb9⟩
              have HB9 := Lib.hid (HB5.out.trans (hb9.out.mono HB5.out.size))
              go_wp2_with fail
              go_ret
              exact ⟨rfl, HB9.out⟩
        · have HCS := Lib.hid (solveI_no HU.out.m (fun h => hf (HU.out.r.symm.trans h)))
          have HBB := Lib.hid HU.out.b
          clear hf HU
          go_wp2_with fail
          refine HCS.out.mono ?_
          rintro e w5 ⟨rfl, hb5⟩
          have HB5 := Lib.hid (HBB.out.trans (hb5.out.mono HBB.out.size))
          clear hb5 HCS HBB
          go_wp2_with fail
          go_loop [80] (fun i => i = .int .i64 0) (fun i => 0)
          case atStart => rfl
          case round =>
            subst hrel
            go_wp2_with fail
            refine (awake6_any w5 (HT.out.grow HB5.out)).mono ?_
            rintro e w9 ⟨rfl, hb9⟩
            have HB9 := Lib.hid (HB5.out.trans (hb9.out.mono HB5.out.size))
            go_wp2_with fail
            go_ret
            exact ⟨rfl, HB9.out⟩
      · have q100b : ¬ (100 : Int) ≤ (t : Int) := by omega
        obtain ⟨o, ho, hpo⟩ := pick_in z (N : Int) (by have := HN1.out; omega) (by have := HN256.out; omega)
        have HPO := Lib.hid hpo
        have HU64 := HXN
        have hoi : (o : Int) < (N : Int) := ho
        have hoi2 : (o : Int) ≤ 59 := by omega
        have ho : o < N := by omega
        have HSL := Lib.hid HU.out.sl
        have HSB := Lib.hid HU.out.sb
        have HGS := Lib.hid HU.out.hg.1
        have HGL := Lib.hid HU.out.hg.2
        have HRR := Lib.hid HU.out.r
        have HBB := Lib.hid HU.out.b
        have HINV := Lib.hid (unitM_inv N 1 seen (fun i => [UInt8.ofNat i ^^^ xb]) (fun _ => rfl))
        have HOF : Hid (ofL N [(o : Int)] = 2 ^ o) := Lib.hid (ofL_one ho)
        have HDT : Hid (∀ W, FrU wr (fun b => w.heap.size ≤ b ∧ b ≠ gs) W → DTab W) := Lib.hid fun W hW => DTab.fr (HT.out.grow HU.out.b) hW (fun h => by have := HT.out.1; have := h.1; omega)
        have HXOR : Hid (bits .xor .u8 (IntKind.u8.wrap (o : Int)) (xb.toNat : Int) = ((UInt8.ofNat o ^^^ xb).toNat : Int)) := Lib.hid (by
          have := xor_int (UInt8.ofNat o) xb
          rw [show ((UInt8.ofNat o).toNat : Int) = IntKind.u8.wrap (o : Int) by rw [IntKind.wrap_u8]; simp] at this
          exact this)
        have MM0_ := Lib.hid HU.out.m
        have hk60 : (k : Int) ≤ 60 := by
          have h1 := rank_le HINV.out
          rw [HRR.out] at h1
          omega
        clear hpo rw0 HU
        cases hs : seen.getD o false with
        | true =>
        have HADDM : Hid (addMx N (unitM N seen (fun i => [UInt8.ofNat i ^^^ xb])) (2 ^ o) [UInt8.ofNat o ^^^ xb] = (unitM N (seen.set o true) (fun i => [UInt8.ofNat i ^^^ xb]), false)) := Lib.hid (by
          have := units_add (z := 1) (d := fun i => [UInt8.ofNat i ^^^ xb]) (by have := HN256.out; omega) ho HSL.out (fun _ => rfl)
          rw [hs] at this
          exact this)
        have HSC : Hid (∀ W, FrU wr (fun b => w.heap.size ≤ b ∧ b ≠ gs) W → W.cell? ⟨gs, o, none⟩ = some (.bool true)) := Lib.hid fun W hW => by
          rw [cell_of_row W gs o _ _ (0, 0) ((hW.block gs HGL.out (fun h => h.2 rfl)).trans HSB.out)]
          have : (seen.map Value.bool)[o]? = some (.bool true) := by
            rw [List.getElem?_map, List.getElem?_eq_getElem (by rw [HSL.out]; exact ho)]
            have h2 := hs
            rw [List.getD_eq_getElem?_getD, List.getElem?_eq_getElem (by rw [HSL.out]; exact ho)] at h2
            exact congrArg (fun b => some (Value.bool b)) h2
          simpa using this
        have HRK : Hid (rankM (unitM N (seen.set o true) (fun i => [UInt8.ofNat i ^^^ xb])) = k) := Lib.hid (by
          have := rank_add (unitM_inv N 1 seen (fun i => [UInt8.ofNat i ^^^ xb]) (fun _ => rfl)) (by have := HN256.out; omega) (X := 2 ^ o) (l := [UInt8.ofNat o ^^^ xb]) (Nat.pow_lt_pow_right (by decide) ho) rfl
          rw [HADDM.out, HRR.out] at this
          exact this)
        have HSS : Hid ((seen.set o true).length = N) := Lib.hid (by rw [List.length_set]; exact HSL.out)
        have HSMP : Hid ((seen.set o true).map Value.bool = seen.map Value.bool) := Lib.hid (by
          congr 1; apply List.ext_getElem?; intro i; rw [List.getElem?_set]; by_cases h : o = i; · (subst h; rw [if_pos rfl, if_pos (by rw [HSL.out]; exact ho)]; rw [List.getD_eq_getElem?_getD, List.getElem?_eq_getElem (by rw [HSL.out]; exact ho)] at hs; rw [List.getElem?_eq_getElem (by rw [HSL.out]; exact ho)]; exact congrArg some hs.symm)
          · rw [if_neg h])
        clear hs
        go_upto_region 10 with (first | rw [HPO.out] | rw [HU64.out])
        go_cut [53] (fun s53 wx => s53 = .bool false ∧ Hid (FrU wr (fun b => w.heap.size ≤ b ∧ b ≠ gs) wx) ∧ Hid (IsMat wx (fun b => w.heap.size ≤ b ∧ b ≠ gs) gm N 1 (unitM N (seen.set o true) (fun i => [UInt8.ofNat i ^^^ xb]))))
        case first =>
          refine wp_region_noPanic ?_
          refine wp_region_held_drew (S := (fun W => FrU wr (fun b => w.heap.size ≤ b ∧ b ≠ gs) W)) (by kernel_rfl) (Fr.of_below (Below.refl _ _).drew : FrU _ _ _) (fun hH0 => ?_)
          have hH0 : FrU wr (fun b => w.heap.size ≤ b ∧ b ≠ gs) wr.drew := hH0
          have MM0_d := Lib.hid (MM0_.out.below ((Below.refl wr.heap.size wr).drew))
          generalize wr.drew = wd3000 at *
          refine wpAnyH_take (i := 0) (oi := { dst := some 38, op := Op.move (Operand.tmp 7), type := 25, pos := "more.go:21", after := #[], guard := none }) (v := ?tkv3001) rfl (by kernel_rfl) (by kernel_rfl) (by kernel_rfl) (fun _ _ _ h => h) (Or.inl ⟨by rfl, ?tky3001⟩) hH0 ?tkr3001
          case tky3001 => (intro w' hSw; clear hSw; go_simp; try with_reducible rfl)
          try simp only [Act.put, List.setIfInBounds_toArray, List.set_cons_zero, List.set_cons_succ]
          refine wpAnyH_take (i := 1) (oi := { dst := some 39, op := Op.move (Operand.tmp 0), type := 3, pos := "more.go:21", after := #[], guard := none }) (v := ?tkv3002) rfl (by kernel_rfl) (by kernel_rfl) (by kernel_rfl) (fun _ _ _ h => h) (Or.inl ⟨by rfl, ?tky3002⟩) hH0 ?tkr3002
          case tky3002 => (intro w' hSw; clear hSw; go_simp; try with_reducible rfl)
          try simp only [Act.put, List.setIfInBounds_toArray, List.set_cons_zero, List.set_cons_succ]
          refine wpAnyH_take (i := 2) (oi := { dst := some 40, op := Op.move (Operand.tmp 11), type := 3, pos := "more.go:21", after := #[], guard := none }) (v := ?tkv3003) rfl (by kernel_rfl) (by kernel_rfl) (by kernel_rfl) (fun _ _ _ h => h) (Or.inl ⟨by rfl, ?tky3003⟩) hH0 ?tkr3003
          case tky3003 => (intro w' hSw; clear hSw; go_simp; try with_reducible rfl)
          try simp only [Act.put, List.setIfInBounds_toArray, List.set_cons_zero, List.set_cons_succ]
          refine wpAnyH_take (i := 5) (oi := { dst := some 43, op := Op.move (Operand.tmp 11), type := 3, pos := "more.go:21", after := #[], guard := none }) (v := ?tkv3004) rfl (by kernel_rfl) (by kernel_rfl) (by kernel_rfl) (fun _ _ _ h => h) (Or.inl ⟨by rfl, ?tky3004⟩) hH0 ?tkr3004
          case tky3004 => (intro w' hSw; clear hSw; go_simp; try with_reducible rfl)
          try simp only [Act.put, List.setIfInBounds_toArray, List.set_cons_zero, List.set_cons_succ]
          refine wpAnyH_take (i := 6) (oi := { dst := some 44, op := Op.convert 3 5 (Operand.tmp 43), type := 5, pos := "more.go:21", after := #[{ on := 5, ground := Ground.data }], guard := none }) (v := ?tkv3005) rfl (by kernel_rfl) (by kernel_rfl) (by kernel_rfl) (fun _ _ _ h => h) (Or.inl ⟨by rfl, ?tky3005⟩) hH0 ?tkr3005
          case tky3005 => (intro w' hSw; have z0 := HSC.out _ hSw; clear hSw; go_simp; try with_reducible rfl)
          try simp only [Act.put, List.setIfInBounds_toArray, List.set_cons_zero, List.set_cons_succ]
          refine wpAnyH_take (i := 7) (oi := { dst := some 45, op := Op.move (Operand.tmp 2), type := 5, pos := "more.go:21", after := #[], guard := none }) (v := ?tkv3006) rfl (by kernel_rfl) (by kernel_rfl) (by kernel_rfl) (fun _ _ _ h => h) (Or.inl ⟨by rfl, ?tky3006⟩) hH0 ?tkr3006
          case tky3006 => (intro w' hSw; clear hSw; go_simp; try with_reducible rfl)
          try simp only [Act.put, List.setIfInBounds_toArray, List.set_cons_zero, List.set_cons_succ]
          refine wpAnyH_take (i := 8) (oi := { dst := some 46, op := Op.binOp BinOp.xor 5 (Operand.tmp 44) (Operand.tmp 45) 5, type := 5, pos := "more.go:21", after := #[{ on := 6, ground := Ground.data }, { on := 7, ground := Ground.data }], guard := none }) (v := ?tkv3007) rfl (by kernel_rfl) (by kernel_rfl) (by kernel_rfl) (fun _ _ _ h => h) (Or.inl ⟨by rfl, ?tky3007⟩) hH0 ?tkr3007
          case tky3007 => (intro w' hSw; clear hSw; go_simp; try with_reducible rfl)
          try simp only [Act.put, List.setIfInBounds_toArray, List.set_cons_zero, List.set_cons_succ]
          refine wpAnyH_take (i := 11) (oi := { dst := some 49, op := Op.move (Operand.tmp 8), type := 35, pos := "more.go:21", after := #[], guard := none }) (v := ?tkv3008) rfl (by kernel_rfl) (by kernel_rfl) (by kernel_rfl) (fun _ _ _ h => h) (Or.inl ⟨by rfl, ?tky3008⟩) hH0 ?tkr3008
          case tky3008 => (intro w' hSw; clear hSw; go_simp; try with_reducible rfl)
          try simp only [Act.put, List.setIfInBounds_toArray, List.set_cons_zero, List.set_cons_succ]
          refine wpAnyH_take (i := 12) (oi := { dst := some 50, op := Op.move (Operand.tmp 11), type := 3, pos := "more.go:21", after := #[], guard := none }) (v := ?tkv3009) rfl (by kernel_rfl) (by kernel_rfl) (by kernel_rfl) (fun _ _ _ h => h) (Or.inl ⟨by rfl, ?tky3009⟩) hH0 ?tkr3009
          case tky3009 => (intro w' hSw; clear hSw; go_simp; try with_reducible rfl)
          try simp only [Act.put, List.setIfInBounds_toArray, List.set_cons_zero, List.set_cons_succ]
          refine wpAnyH_take (i := 13) (oi := { dst := some 51, op := Op.indexAddr 35 (Operand.tmp 49) (Operand.tmp 50), type := 0, pos := "more.go:21", after := #[{ on := 11, ground := Ground.data }, { on := 12, ground := Ground.data }], guard := none }) (v := ?tkv3010) rfl (by kernel_rfl) (by kernel_rfl) (by kernel_rfl) (fun _ _ _ h => h) (Or.inl ⟨by rfl, ?tky3010⟩) hH0 ?tkr3010
          case tky3010 => (intro w' hSw; clear hSw; go_simp; try with_reducible rfl)
          try simp only [Act.put, List.setIfInBounds_toArray, List.set_cons_zero, List.set_cons_succ]
          refine wpAnyH_take (i := 14) (oi := { dst := some 52, op := Op.load 4 (Operand.tmp 51), type := 4, pos := "more.go:21", after := #[{ on := 13, ground := Ground.data }], guard := none }) (v := ?tkv3011) rfl (by kernel_rfl) (by kernel_rfl) (by kernel_rfl) (fun _ _ _ h => h) (Or.inl ⟨by rfl, ?tky3011⟩) hH0 ?tkr3011
          case tky3011 => (intro w' hSw; have z0 := HSC.out _ hSw; clear hSw; go_simp; try with_reducible rfl)
          try simp only [Act.put, List.setIfInBounds_toArray, List.set_cons_zero, List.set_cons_succ]
          refine wpAnyH_ready (rs := [3, 9]) (by kernel_rfl) (by simp) ?_
          refine AllReadyH.cons (o := { dst := some 41, op := Op.buildSlice 29 1 #[(0, Operand.tmp 40)], type := 29, pos := "more.go:21", after := #[{ on := 2, ground := Ground.data }], guard := none }) rfl (fun K hK => ?_) (AllReadyH.cons (o := { dst := some 47, op := Op.buildSlice 30 1 #[(0, Operand.tmp 46)], type := 30, pos := "more.go:21", after := #[{ on := 8, ground := Ground.data }], guard := none }) rfl (fun K hK => ?_) AllReadyH.nil)
          · go_simp
            have hb3012 : Below wd3000.heap.size wd3000 (wd3000.alloc (.cells #[.int .i64 (o : Int)] 3)) := (Below.refl _ _).alloc (Nat.le_refl _) _
            have RO3012_ : Hid (RowH (wd3000.alloc (.cells #[.int .i64 (o : Int)] 3)) (some ⟨wd3000.heap.size, 0, none⟩) 1 (nv [(o : Int)])) := Lib.hid ((row_new wd3000 #[.int .i64 (o : Int)] 3 (0, 0)).more (by simp))
            generalize (wd3000.alloc (.cells #[.int .i64 (o : Int)] 3)) = wn3012 at *
            have MM0_3012 := Lib.hid (MM0_d.out.below hb3012)
            have hS3012 : FrU wr (fun b => w.heap.size ≤ b ∧ b ≠ gs) wn3012 := (Fr.trans (hH0) (Fr.of_below hb3012) (fun _ _ h => h))
            refine hK.out _ _ hS3012 (fun hH3012 => ?_)
            have hH3012 : FrU wr (fun b => w.heap.size ≤ b ∧ b ≠ gs) wn3012 := hH3012
            clear hK K hS3012
            try simp only [Act.put, List.setIfInBounds_toArray, List.set_cons_zero, List.set_cons_succ]
            refine wpAnyH_ready (rs := [4, 9]) (by kernel_rfl) (by simp) ?_
            refine AllReadyH.cons (o := { dst := some 42, op := Op.call { callee := Callee.value (Operand.func 13), args := #[Operand.tmp 39, Operand.tmp 41], argTypes := #[3, 29] }, type := 33, pos := "more.go:21", after := #[{ on := 1, ground := Ground.data }, { on := 3, ground := Ground.data }], guard := none }) rfl (fun K hK => ?_) (AllReadyH.cons (o := { dst := some 47, op := Op.buildSlice 30 1 #[(0, Operand.tmp 46)], type := 30, pos := "more.go:21", after := #[{ on := 8, ground := Ground.data }], guard := none }) rfl (fun K hK => ?_) AllReadyH.nil)
            · go_simp
              refine (of_any N _ 1 1 _ [(o : Int)] wn3012 RO3012_.out (Nat.le_refl _) (by omega) HN256.out).mono ?_
              rw [HOF.out]
              rintro e' wn3013 ⟨g3013, h3013, rfl, _, _, hv3013, hbo3013⟩
              have hb3013 := hbo3013.out
              have VE3013_ := Lib.hid hv3013.out
              clear hv3013 hbo3013
              go_simp
              have MM0_3013 := Lib.hid (MM0_3012.out.below hb3013)
              have RO3012_3013 := Lib.hid (RO3012_.out.below hb3013)
              have hS3013 : FrU wr (fun b => w.heap.size ≤ b ∧ b ≠ gs) wn3013 := (Fr.trans (hH3012) (Fr.of_below hb3013) (fun _ _ h => h))
              refine hK.out _ _ hS3013 (fun hH3013 => ?_)
              have hH3013 : FrU wr (fun b => w.heap.size ≤ b ∧ b ≠ gs) wn3013 := hH3013
              clear hK K hS3013
              try simp only [Act.put, List.setIfInBounds_toArray, List.set_cons_zero, List.set_cons_succ]
              refine wpAnyH_ready (rs := [9]) (by kernel_rfl) (by simp) ?_
              refine AllReadyH.cons (o := { dst := some 47, op := Op.buildSlice 30 1 #[(0, Operand.tmp 46)], type := 30, pos := "more.go:21", after := #[{ on := 8, ground := Ground.data }], guard := none }) rfl (fun K hK => ?_) AllReadyH.nil
              go_simp
              rw [HXOR.out]
              have hb3014 : Below wn3013.heap.size wn3013 (wn3013.alloc (.cells #[.int .u8 ((UInt8.ofNat o ^^^ xb).toNat : Int)] 5)) := (Below.refl _ _).alloc (Nat.le_refl _) _
              have RD3014_ : Hid (RowH (wn3013.alloc (.cells #[.int .u8 ((UInt8.ofNat o ^^^ xb).toNat : Int)] 5)) (some ⟨wn3013.heap.size, 0, none⟩) 1 (bv [UInt8.ofNat o ^^^ xb])) := Lib.hid ((row_new wn3013 #[.int .u8 ((UInt8.ofNat o ^^^ xb).toNat : Int)] 5 (0, 0)).more (by simp))
              generalize (wn3013.alloc (.cells #[.int .u8 ((UInt8.ofNat o ^^^ xb).toNat : Int)] 5)) = wn3014 at *
              have MM0_3014 := Lib.hid (MM0_3013.out.below hb3014)
              have RO3012_3014 := Lib.hid (RO3012_3013.out.below hb3014)
              have VE3013_3014 := Lib.hid (VE3013_.out.below hb3014)
              have hS3014 : FrU wr (fun b => w.heap.size ≤ b ∧ b ≠ gs) wn3014 := (Fr.trans (hH3013) (Fr.of_below hb3014) (fun _ _ h => h))
              refine hK.out _ _ hS3014 (fun hH3014 => ?_)
              have hH3014 : FrU wr (fun b => w.heap.size ≤ b ∧ b ≠ gs) wn3014 := hH3014
              clear hK K hS3014
              try simp only [Act.put, List.setIfInBounds_toArray, List.set_cons_zero, List.set_cons_succ]
              refine wpAnyH_ready (rs := [10]) (by kernel_rfl) (by simp) ?_
              refine AllReadyH.cons (o := { dst := some 48, op := Op.call { callee := Callee.value (Operand.func 17), args := #[Operand.tmp 38, Operand.tmp 42, Operand.tmp 47], argTypes := #[25, 33, 30] }, type := 4, pos := "more.go:21", after := #[{ on := 0, ground := Ground.data }, { on := 4, ground := Ground.data }, { on := 9, ground := Ground.data }, { on := 4, ground := Ground.chain }], guard := none }) rfl (fun K hK => ?_) AllReadyH.nil
              go_simp
              refine (addI MM0_3014.out HINV.out VE3013_3014.out RD3014_.out rfl (HDT.out _ (hH3014))).mono ?_
              rw [HADDM.out]
              rintro e' wn3015 ⟨rfl, hm3015, hf3015⟩
              have HF3015 := Lib.hid hf3015.out
              have MA3015_ : Hid (IsMat wn3015 (fun b => w.heap.size ≤ b ∧ b ≠ gs) gm N 1 (unitM N (seen.set o true) (fun i => [UInt8.ofNat i ^^^ xb]))) := Lib.hid (hm3015.out.more fun b hb => hb.elim id fun hb => ⟨by have := HGS.out; have := HGL.out; have := (hH3014).size; omega, by have := HGS.out; have := HGL.out; have := (hH3014).size; omega⟩)
              clear hm3015 hf3015
              go_simp
              have hS3015 : FrU wr (fun b => w.heap.size ≤ b ∧ b ≠ gs) wn3015 := (Fr.trans (hH3014) HF3015.out (fun _ _ h => h))
              refine hK.out _ _ hS3015 (fun hH3015 => ?_)
              have hH3015 : FrU wr (fun b => w.heap.size ≤ b ∧ b ≠ gs) wn3015 := hH3015
              clear hK K hS3015
              try simp only [Act.put, List.setIfInBounds_toArray, List.set_cons_zero, List.set_cons_succ]
              refine wpAnyH_take (i := 15) (oi := { dst := some 53, op := Op.binOp BinOp.eql 4 (Operand.tmp 48) (Operand.tmp 52) 4, type := 4, pos := "more.go:21", after := #[{ on := 10, ground := Ground.data }, { on := 14, ground := Ground.data }], guard := none }) (v := ?tkv3016) rfl (by kernel_rfl) (by kernel_rfl) (by kernel_rfl) (fun _ _ _ h => h) (Or.inl ⟨by rfl, ?tky3016⟩) hH3015 ?tkr3016
              case tky3016 => (intro w' hSw; clear hSw; go_simp; try with_reducible rfl)
              try simp only [Act.put, List.setIfInBounds_toArray, List.set_cons_zero, List.set_cons_succ]
              refine wpAnyH_done (by kernel_rfl) ?_ _
              refine NoPanic.normal ?_
              have HEND := Lib.hid (hH3015)
              go_wp2_with fail
              go_meet
              exact ⟨rfl, HEND, MA3015_⟩
            · go_simp
              rw [HXOR.out]
              have hb3017 : Below wn3012.heap.size wn3012 (wn3012.alloc (.cells #[.int .u8 ((UInt8.ofNat o ^^^ xb).toNat : Int)] 5)) := (Below.refl _ _).alloc (Nat.le_refl _) _
              have RD3017_ : Hid (RowH (wn3012.alloc (.cells #[.int .u8 ((UInt8.ofNat o ^^^ xb).toNat : Int)] 5)) (some ⟨wn3012.heap.size, 0, none⟩) 1 (bv [UInt8.ofNat o ^^^ xb])) := Lib.hid ((row_new wn3012 #[.int .u8 ((UInt8.ofNat o ^^^ xb).toNat : Int)] 5 (0, 0)).more (by simp))
              generalize (wn3012.alloc (.cells #[.int .u8 ((UInt8.ofNat o ^^^ xb).toNat : Int)] 5)) = wn3017 at *
              have MM0_3017 := Lib.hid (MM0_3012.out.below hb3017)
              have RO3012_3017 := Lib.hid (RO3012_.out.below hb3017)
              have hS3017 : FrU wr (fun b => w.heap.size ≤ b ∧ b ≠ gs) wn3017 := (Fr.trans (hH3012) (Fr.of_below hb3017) (fun _ _ h => h))
              refine hK.out _ _ hS3017 (fun hH3017 => ?_)
              have hH3017 : FrU wr (fun b => w.heap.size ≤ b ∧ b ≠ gs) wn3017 := hH3017
              clear hK K hS3017
              try simp only [Act.put, List.setIfInBounds_toArray, List.set_cons_zero, List.set_cons_succ]
              refine wpAnyH_ready (rs := [4]) (by kernel_rfl) (by simp) ?_
              refine AllReadyH.cons (o := { dst := some 42, op := Op.call { callee := Callee.value (Operand.func 13), args := #[Operand.tmp 39, Operand.tmp 41], argTypes := #[3, 29] }, type := 33, pos := "more.go:21", after := #[{ on := 1, ground := Ground.data }, { on := 3, ground := Ground.data }], guard := none }) rfl (fun K hK => ?_) AllReadyH.nil
              go_simp
              refine (of_any N _ 1 1 _ [(o : Int)] wn3017 RO3012_3017.out (Nat.le_refl _) (by omega) HN256.out).mono ?_
              rw [HOF.out]
              rintro e' wn3018 ⟨g3018, h3018, rfl, _, _, hv3018, hbo3018⟩
              have hb3018 := hbo3018.out
              have VE3018_ := Lib.hid hv3018.out
              clear hv3018 hbo3018
              go_simp
              have MM0_3018 := Lib.hid (MM0_3017.out.below hb3018)
              have RO3012_3018 := Lib.hid (RO3012_3017.out.below hb3018)
              have RD3017_3018 := Lib.hid (RD3017_.out.below hb3018)
              have hS3018 : FrU wr (fun b => w.heap.size ≤ b ∧ b ≠ gs) wn3018 := (Fr.trans (hH3017) (Fr.of_below hb3018) (fun _ _ h => h))
              refine hK.out _ _ hS3018 (fun hH3018 => ?_)
              have hH3018 : FrU wr (fun b => w.heap.size ≤ b ∧ b ≠ gs) wn3018 := hH3018
              clear hK K hS3018
              try simp only [Act.put, List.setIfInBounds_toArray, List.set_cons_zero, List.set_cons_succ]
              refine wpAnyH_ready (rs := [10]) (by kernel_rfl) (by simp) ?_
              refine AllReadyH.cons (o := { dst := some 48, op := Op.call { callee := Callee.value (Operand.func 17), args := #[Operand.tmp 38, Operand.tmp 42, Operand.tmp 47], argTypes := #[25, 33, 30] }, type := 4, pos := "more.go:21", after := #[{ on := 0, ground := Ground.data }, { on := 4, ground := Ground.data }, { on := 9, ground := Ground.data }, { on := 4, ground := Ground.chain }], guard := none }) rfl (fun K hK => ?_) AllReadyH.nil
              go_simp
              refine (addI MM0_3018.out HINV.out VE3018_.out RD3017_3018.out rfl (HDT.out _ (hH3018))).mono ?_
              rw [HADDM.out]
              rintro e' wn3019 ⟨rfl, hm3019, hf3019⟩
              have HF3019 := Lib.hid hf3019.out
              have MA3019_ : Hid (IsMat wn3019 (fun b => w.heap.size ≤ b ∧ b ≠ gs) gm N 1 (unitM N (seen.set o true) (fun i => [UInt8.ofNat i ^^^ xb]))) := Lib.hid (hm3019.out.more fun b hb => hb.elim id fun hb => ⟨by have := HGS.out; have := HGL.out; have := (hH3018).size; omega, by have := HGS.out; have := HGL.out; have := (hH3018).size; omega⟩)
              clear hm3019 hf3019
              go_simp
              have hS3019 : FrU wr (fun b => w.heap.size ≤ b ∧ b ≠ gs) wn3019 := (Fr.trans (hH3018) HF3019.out (fun _ _ h => h))
              refine hK.out _ _ hS3019 (fun hH3019 => ?_)
              have hH3019 : FrU wr (fun b => w.heap.size ≤ b ∧ b ≠ gs) wn3019 := hH3019
              clear hK K hS3019
              try simp only [Act.put, List.setIfInBounds_toArray, List.set_cons_zero, List.set_cons_succ]
              refine wpAnyH_take (i := 15) (oi := { dst := some 53, op := Op.binOp BinOp.eql 4 (Operand.tmp 48) (Operand.tmp 52) 4, type := 4, pos := "more.go:21", after := #[{ on := 10, ground := Ground.data }, { on := 14, ground := Ground.data }], guard := none }) (v := ?tkv3020) rfl (by kernel_rfl) (by kernel_rfl) (by kernel_rfl) (fun _ _ _ h => h) (Or.inl ⟨by rfl, ?tky3020⟩) hH3019 ?tkr3020
              case tky3020 => (intro w' hSw; clear hSw; go_simp; try with_reducible rfl)
              try simp only [Act.put, List.setIfInBounds_toArray, List.set_cons_zero, List.set_cons_succ]
              refine wpAnyH_done (by kernel_rfl) ?_ _
              refine NoPanic.normal ?_
              have HEND := Lib.hid (hH3019)
              go_wp2_with fail
              go_meet
              exact ⟨rfl, HEND, MA3019_⟩
          · go_simp
            rw [HXOR.out]
            have hb3021 : Below wd3000.heap.size wd3000 (wd3000.alloc (.cells #[.int .u8 ((UInt8.ofNat o ^^^ xb).toNat : Int)] 5)) := (Below.refl _ _).alloc (Nat.le_refl _) _
            have RD3021_ : Hid (RowH (wd3000.alloc (.cells #[.int .u8 ((UInt8.ofNat o ^^^ xb).toNat : Int)] 5)) (some ⟨wd3000.heap.size, 0, none⟩) 1 (bv [UInt8.ofNat o ^^^ xb])) := Lib.hid ((row_new wd3000 #[.int .u8 ((UInt8.ofNat o ^^^ xb).toNat : Int)] 5 (0, 0)).more (by simp))
            generalize (wd3000.alloc (.cells #[.int .u8 ((UInt8.ofNat o ^^^ xb).toNat : Int)] 5)) = wn3021 at *
            have MM0_3021 := Lib.hid (MM0_d.out.below hb3021)
            have hS3021 : FrU wr (fun b => w.heap.size ≤ b ∧ b ≠ gs) wn3021 := (Fr.trans (hH0) (Fr.of_below hb3021) (fun _ _ h => h))
            refine hK.out _ _ hS3021 (fun hH3021 => ?_)
            have hH3021 : FrU wr (fun b => w.heap.size ≤ b ∧ b ≠ gs) wn3021 := hH3021
            clear hK K hS3021
            try simp only [Act.put, List.setIfInBounds_toArray, List.set_cons_zero, List.set_cons_succ]
            refine wpAnyH_ready (rs := [3]) (by kernel_rfl) (by simp) ?_
            refine AllReadyH.cons (o := { dst := some 41, op := Op.buildSlice 29 1 #[(0, Operand.tmp 40)], type := 29, pos := "more.go:21", after := #[{ on := 2, ground := Ground.data }], guard := none }) rfl (fun K hK => ?_) AllReadyH.nil
            go_simp
            have hb3022 : Below wn3021.heap.size wn3021 (wn3021.alloc (.cells #[.int .i64 (o : Int)] 3)) := (Below.refl _ _).alloc (Nat.le_refl _) _
            have RO3022_ : Hid (RowH (wn3021.alloc (.cells #[.int .i64 (o : Int)] 3)) (some ⟨wn3021.heap.size, 0, none⟩) 1 (nv [(o : Int)])) := Lib.hid ((row_new wn3021 #[.int .i64 (o : Int)] 3 (0, 0)).more (by simp))
            generalize (wn3021.alloc (.cells #[.int .i64 (o : Int)] 3)) = wn3022 at *
            have MM0_3022 := Lib.hid (MM0_3021.out.below hb3022)
            have RD3021_3022 := Lib.hid (RD3021_.out.below hb3022)
            have hS3022 : FrU wr (fun b => w.heap.size ≤ b ∧ b ≠ gs) wn3022 := (Fr.trans (hH3021) (Fr.of_below hb3022) (fun _ _ h => h))
            refine hK.out _ _ hS3022 (fun hH3022 => ?_)
            have hH3022 : FrU wr (fun b => w.heap.size ≤ b ∧ b ≠ gs) wn3022 := hH3022
            clear hK K hS3022
            try simp only [Act.put, List.setIfInBounds_toArray, List.set_cons_zero, List.set_cons_succ]
            refine wpAnyH_ready (rs := [4]) (by kernel_rfl) (by simp) ?_
            refine AllReadyH.cons (o := { dst := some 42, op := Op.call { callee := Callee.value (Operand.func 13), args := #[Operand.tmp 39, Operand.tmp 41], argTypes := #[3, 29] }, type := 33, pos := "more.go:21", after := #[{ on := 1, ground := Ground.data }, { on := 3, ground := Ground.data }], guard := none }) rfl (fun K hK => ?_) AllReadyH.nil
            go_simp
            refine (of_any N _ 1 1 _ [(o : Int)] wn3022 RO3022_.out (Nat.le_refl _) (by omega) HN256.out).mono ?_
            rw [HOF.out]
            rintro e' wn3023 ⟨g3023, h3023, rfl, _, _, hv3023, hbo3023⟩
            have hb3023 := hbo3023.out
            have VE3023_ := Lib.hid hv3023.out
            clear hv3023 hbo3023
            go_simp
            have MM0_3023 := Lib.hid (MM0_3022.out.below hb3023)
            have RD3021_3023 := Lib.hid (RD3021_3022.out.below hb3023)
            have RO3022_3023 := Lib.hid (RO3022_.out.below hb3023)
            have hS3023 : FrU wr (fun b => w.heap.size ≤ b ∧ b ≠ gs) wn3023 := (Fr.trans (hH3022) (Fr.of_below hb3023) (fun _ _ h => h))
            refine hK.out _ _ hS3023 (fun hH3023 => ?_)
            have hH3023 : FrU wr (fun b => w.heap.size ≤ b ∧ b ≠ gs) wn3023 := hH3023
            clear hK K hS3023
            try simp only [Act.put, List.setIfInBounds_toArray, List.set_cons_zero, List.set_cons_succ]
            refine wpAnyH_ready (rs := [10]) (by kernel_rfl) (by simp) ?_
            refine AllReadyH.cons (o := { dst := some 48, op := Op.call { callee := Callee.value (Operand.func 17), args := #[Operand.tmp 38, Operand.tmp 42, Operand.tmp 47], argTypes := #[25, 33, 30] }, type := 4, pos := "more.go:21", after := #[{ on := 0, ground := Ground.data }, { on := 4, ground := Ground.data }, { on := 9, ground := Ground.data }, { on := 4, ground := Ground.chain }], guard := none }) rfl (fun K hK => ?_) AllReadyH.nil
            go_simp
            refine (addI MM0_3023.out HINV.out VE3023_.out RD3021_3023.out rfl (HDT.out _ (hH3023))).mono ?_
            rw [HADDM.out]
            rintro e' wn3024 ⟨rfl, hm3024, hf3024⟩
            have HF3024 := Lib.hid hf3024.out
            have MA3024_ : Hid (IsMat wn3024 (fun b => w.heap.size ≤ b ∧ b ≠ gs) gm N 1 (unitM N (seen.set o true) (fun i => [UInt8.ofNat i ^^^ xb]))) := Lib.hid (hm3024.out.more fun b hb => hb.elim id fun hb => ⟨by have := HGS.out; have := HGL.out; have := (hH3023).size; omega, by have := HGS.out; have := HGL.out; have := (hH3023).size; omega⟩)
            clear hm3024 hf3024
            go_simp
            have hS3024 : FrU wr (fun b => w.heap.size ≤ b ∧ b ≠ gs) wn3024 := (Fr.trans (hH3023) HF3024.out (fun _ _ h => h))
            refine hK.out _ _ hS3024 (fun hH3024 => ?_)
            have hH3024 : FrU wr (fun b => w.heap.size ≤ b ∧ b ≠ gs) wn3024 := hH3024
            clear hK K hS3024
            try simp only [Act.put, List.setIfInBounds_toArray, List.set_cons_zero, List.set_cons_succ]
            refine wpAnyH_take (i := 15) (oi := { dst := some 53, op := Op.binOp BinOp.eql 4 (Operand.tmp 48) (Operand.tmp 52) 4, type := 4, pos := "more.go:21", after := #[{ on := 10, ground := Ground.data }, { on := 14, ground := Ground.data }], guard := none }) (v := ?tkv3025) rfl (by kernel_rfl) (by kernel_rfl) (by kernel_rfl) (fun _ _ _ h => h) (Or.inl ⟨by rfl, ?tky3025⟩) hH3024 ?tkr3025
            case tky3025 => (intro w' hSw; clear hSw; go_simp; try with_reducible rfl)
            try simp only [Act.put, List.setIfInBounds_toArray, List.set_cons_zero, List.set_cons_succ]
            refine wpAnyH_done (by kernel_rfl) ?_ _
            refine NoPanic.normal ?_
            have HEND := Lib.hid (hH3024)
            go_wp2_with fail
            go_meet
            exact ⟨rfl, HEND, MA3024_⟩
        case rest =>
          obtain ⟨rfl, hfr, hma⟩ := hcut
          have kx := HSC.out _ hfr.out
          obtain ⟨wD, rfl⟩ : ∃ W : World, W = wc := ⟨_, rfl⟩
          have HM2 := Lib.hid hma.out
          have HFR2 : Hid (FrU wr (fun b => w.heap.size ≤ b ∧ b ≠ gs) wD) := Lib.hid hfr.out
          have HB2 : Hid (Below w.heap.size w wD) := Lib.hid (HBB.out.trans (Fr.below hfr.out (fun b h => h.1) HBB.out.size))
          have HS2 : Hid (wD.heap[gs]? = some (.cells ((seen.set o true).map Value.bool).toArray 4 (0, 0))) := Lib.hid (by rw [HSMP.out]; exact (hfr.out.block gs HGL.out (fun h => h.2 rfl)).trans HSB.out)
          have HG2 : Hid (gs < wD.heap.size) := Lib.hid (Nat.lt_of_lt_of_le HGL.out hfr.out.size)
          clear hma hfr
          go_upto_region 15 with fail
          obtain ⟨bN, hbN⟩ : ∃ bN, decide (k = N) = bN := ⟨_, rfl⟩
          have q2 : ((k : Int) == (N : Int)) = bN := by rw [← hbN]; by_cases h : k = N <;> simp [h] <;> omega
          have HBN := Lib.hid hbN
          clear hbN
          go_wp2_with fail
          refine (rankI HM2.out).mono ?_
          rintro e w5 ⟨rfl, rfl⟩
          rw [HRK.out]
          go_wp2_with fail
          refine (fullI HM2.out).mono ?_
          rintro e w5 ⟨rfl, hb5⟩
          rw [HRK.out, HBN.out]
          have HNX : Hid (UI w w5 gs gm N xb (seen.set o true) k) := Lib.hid ⟨HB2.out.trans (hb5.out.mono HB2.out.size), ⟨HGS.out, Nat.lt_of_lt_of_le HG2.out hb5.out.size⟩, HSS.out, (hb5.out.block gs HG2.out).trans HS2.out, HM2.out.below hb5.out, HRK.out⟩
          clear hb5 HM2 HB2 HS2 HG2
          go_wp2_with fail
          go_roundw
          case rel => exact ⟨t + 1, k, seen.set o true, by omega, by go_num, by go_num, HNX⟩
          case measure => simp [intOf]; omega
        | false =>
        have HADDM : Hid (addMx N (unitM N seen (fun i => [UInt8.ofNat i ^^^ xb])) (2 ^ o) [UInt8.ofNat o ^^^ xb] = (unitM N (seen.set o true) (fun i => [UInt8.ofNat i ^^^ xb]), true)) := Lib.hid (by
          have := units_add (z := 1) (d := fun i => [UInt8.ofNat i ^^^ xb]) (by have := HN256.out; omega) ho HSL.out (fun _ => rfl)
          rw [hs] at this
          exact this)
        have HSC : Hid (∀ W, FrU wr (fun b => w.heap.size ≤ b ∧ b ≠ gs) W → W.cell? ⟨gs, o, none⟩ = some (.bool false)) := Lib.hid fun W hW => by
          rw [cell_of_row W gs o _ _ (0, 0) ((hW.block gs HGL.out (fun h => h.2 rfl)).trans HSB.out)]
          have : (seen.map Value.bool)[o]? = some (.bool false) := by
            rw [List.getElem?_map, List.getElem?_eq_getElem (by rw [HSL.out]; exact ho)]
            have h2 := hs
            rw [List.getD_eq_getElem?_getD, List.getElem?_eq_getElem (by rw [HSL.out]; exact ho)] at h2
            exact congrArg (fun b => some (Value.bool b)) h2
          simpa using this
        have HRK : Hid (rankM (unitM N (seen.set o true) (fun i => [UInt8.ofNat i ^^^ xb])) = k + 1) := Lib.hid (by
          have := rank_add (unitM_inv N 1 seen (fun i => [UInt8.ofNat i ^^^ xb]) (fun _ => rfl)) (by have := HN256.out; omega) (X := 2 ^ o) (l := [UInt8.ofNat o ^^^ xb]) (Nat.pow_lt_pow_right (by decide) ho) rfl
          rw [HADDM.out, HRR.out] at this
          exact this)
        have HSS : Hid ((seen.set o true).length = N) := Lib.hid (by rw [List.length_set]; exact HSL.out)
        have HSMP : Hid ((seen.set o true).map Value.bool = (seen.map Value.bool).set o (.bool true)) := Lib.hid (by
          rw [List.map_set]
          )
        clear hs
        go_upto_region 10 with (first | rw [HPO.out] | rw [HU64.out])
        go_cut [53] (fun s53 wx => s53 = .bool false ∧ Hid (FrU wr (fun b => w.heap.size ≤ b ∧ b ≠ gs) wx) ∧ Hid (IsMat wx (fun b => w.heap.size ≤ b ∧ b ≠ gs) gm N 1 (unitM N (seen.set o true) (fun i => [UInt8.ofNat i ^^^ xb]))))
        case first =>
          refine wp_region_noPanic ?_
          refine wp_region_held_drew (S := (fun W => FrU wr (fun b => w.heap.size ≤ b ∧ b ≠ gs) W)) (by kernel_rfl) (Fr.of_below (Below.refl _ _).drew : FrU _ _ _) (fun hH0 => ?_)
          have hH0 : FrU wr (fun b => w.heap.size ≤ b ∧ b ≠ gs) wr.drew := hH0
          have MM0_d := Lib.hid (MM0_.out.below ((Below.refl wr.heap.size wr).drew))
          generalize wr.drew = wd4000 at *
          refine wpAnyH_take (i := 0) (oi := { dst := some 38, op := Op.move (Operand.tmp 7), type := 25, pos := "more.go:21", after := #[], guard := none }) (v := ?tkv4001) rfl (by kernel_rfl) (by kernel_rfl) (by kernel_rfl) (fun _ _ _ h => h) (Or.inl ⟨by rfl, ?tky4001⟩) hH0 ?tkr4001
          case tky4001 => (intro w' hSw; clear hSw; go_simp; try with_reducible rfl)
          try simp only [Act.put, List.setIfInBounds_toArray, List.set_cons_zero, List.set_cons_succ]
          refine wpAnyH_take (i := 1) (oi := { dst := some 39, op := Op.move (Operand.tmp 0), type := 3, pos := "more.go:21", after := #[], guard := none }) (v := ?tkv4002) rfl (by kernel_rfl) (by kernel_rfl) (by kernel_rfl) (fun _ _ _ h => h) (Or.inl ⟨by rfl, ?tky4002⟩) hH0 ?tkr4002
          case tky4002 => (intro w' hSw; clear hSw; go_simp; try with_reducible rfl)
          try simp only [Act.put, List.setIfInBounds_toArray, List.set_cons_zero, List.set_cons_succ]
          refine wpAnyH_take (i := 2) (oi := { dst := some 40, op := Op.move (Operand.tmp 11), type := 3, pos := "more.go:21", after := #[], guard := none }) (v := ?tkv4003) rfl (by kernel_rfl) (by kernel_rfl) (by kernel_rfl) (fun _ _ _ h => h) (Or.inl ⟨by rfl, ?tky4003⟩) hH0 ?tkr4003
          case tky4003 => (intro w' hSw; clear hSw; go_simp; try with_reducible rfl)
          try simp only [Act.put, List.setIfInBounds_toArray, List.set_cons_zero, List.set_cons_succ]
          refine wpAnyH_take (i := 5) (oi := { dst := some 43, op := Op.move (Operand.tmp 11), type := 3, pos := "more.go:21", after := #[], guard := none }) (v := ?tkv4004) rfl (by kernel_rfl) (by kernel_rfl) (by kernel_rfl) (fun _ _ _ h => h) (Or.inl ⟨by rfl, ?tky4004⟩) hH0 ?tkr4004
          case tky4004 => (intro w' hSw; clear hSw; go_simp; try with_reducible rfl)
          try simp only [Act.put, List.setIfInBounds_toArray, List.set_cons_zero, List.set_cons_succ]
          refine wpAnyH_take (i := 6) (oi := { dst := some 44, op := Op.convert 3 5 (Operand.tmp 43), type := 5, pos := "more.go:21", after := #[{ on := 5, ground := Ground.data }], guard := none }) (v := ?tkv4005) rfl (by kernel_rfl) (by kernel_rfl) (by kernel_rfl) (fun _ _ _ h => h) (Or.inl ⟨by rfl, ?tky4005⟩) hH0 ?tkr4005
          case tky4005 => (intro w' hSw; have z0 := HSC.out _ hSw; clear hSw; go_simp; try with_reducible rfl)
          try simp only [Act.put, List.setIfInBounds_toArray, List.set_cons_zero, List.set_cons_succ]
          refine wpAnyH_take (i := 7) (oi := { dst := some 45, op := Op.move (Operand.tmp 2), type := 5, pos := "more.go:21", after := #[], guard := none }) (v := ?tkv4006) rfl (by kernel_rfl) (by kernel_rfl) (by kernel_rfl) (fun _ _ _ h => h) (Or.inl ⟨by rfl, ?tky4006⟩) hH0 ?tkr4006
          case tky4006 => (intro w' hSw; clear hSw; go_simp; try with_reducible rfl)
          try simp only [Act.put, List.setIfInBounds_toArray, List.set_cons_zero, List.set_cons_succ]
          refine wpAnyH_take (i := 8) (oi := { dst := some 46, op := Op.binOp BinOp.xor 5 (Operand.tmp 44) (Operand.tmp 45) 5, type := 5, pos := "more.go:21", after := #[{ on := 6, ground := Ground.data }, { on := 7, ground := Ground.data }], guard := none }) (v := ?tkv4007) rfl (by kernel_rfl) (by kernel_rfl) (by kernel_rfl) (fun _ _ _ h => h) (Or.inl ⟨by rfl, ?tky4007⟩) hH0 ?tkr4007
          case tky4007 => (intro w' hSw; clear hSw; go_simp; try with_reducible rfl)
          try simp only [Act.put, List.setIfInBounds_toArray, List.set_cons_zero, List.set_cons_succ]
          refine wpAnyH_take (i := 11) (oi := { dst := some 49, op := Op.move (Operand.tmp 8), type := 35, pos := "more.go:21", after := #[], guard := none }) (v := ?tkv4008) rfl (by kernel_rfl) (by kernel_rfl) (by kernel_rfl) (fun _ _ _ h => h) (Or.inl ⟨by rfl, ?tky4008⟩) hH0 ?tkr4008
          case tky4008 => (intro w' hSw; clear hSw; go_simp; try with_reducible rfl)
          try simp only [Act.put, List.setIfInBounds_toArray, List.set_cons_zero, List.set_cons_succ]
          refine wpAnyH_take (i := 12) (oi := { dst := some 50, op := Op.move (Operand.tmp 11), type := 3, pos := "more.go:21", after := #[], guard := none }) (v := ?tkv4009) rfl (by kernel_rfl) (by kernel_rfl) (by kernel_rfl) (fun _ _ _ h => h) (Or.inl ⟨by rfl, ?tky4009⟩) hH0 ?tkr4009
          case tky4009 => (intro w' hSw; clear hSw; go_simp; try with_reducible rfl)
          try simp only [Act.put, List.setIfInBounds_toArray, List.set_cons_zero, List.set_cons_succ]
          refine wpAnyH_take (i := 13) (oi := { dst := some 51, op := Op.indexAddr 35 (Operand.tmp 49) (Operand.tmp 50), type := 0, pos := "more.go:21", after := #[{ on := 11, ground := Ground.data }, { on := 12, ground := Ground.data }], guard := none }) (v := ?tkv4010) rfl (by kernel_rfl) (by kernel_rfl) (by kernel_rfl) (fun _ _ _ h => h) (Or.inl ⟨by rfl, ?tky4010⟩) hH0 ?tkr4010
          case tky4010 => (intro w' hSw; clear hSw; go_simp; try with_reducible rfl)
          try simp only [Act.put, List.setIfInBounds_toArray, List.set_cons_zero, List.set_cons_succ]
          refine wpAnyH_take (i := 14) (oi := { dst := some 52, op := Op.load 4 (Operand.tmp 51), type := 4, pos := "more.go:21", after := #[{ on := 13, ground := Ground.data }], guard := none }) (v := ?tkv4011) rfl (by kernel_rfl) (by kernel_rfl) (by kernel_rfl) (fun _ _ _ h => h) (Or.inl ⟨by rfl, ?tky4011⟩) hH0 ?tkr4011
          case tky4011 => (intro w' hSw; have z0 := HSC.out _ hSw; clear hSw; go_simp; try with_reducible rfl)
          try simp only [Act.put, List.setIfInBounds_toArray, List.set_cons_zero, List.set_cons_succ]
          refine wpAnyH_ready (rs := [3, 9]) (by kernel_rfl) (by simp) ?_
          refine AllReadyH.cons (o := { dst := some 41, op := Op.buildSlice 29 1 #[(0, Operand.tmp 40)], type := 29, pos := "more.go:21", after := #[{ on := 2, ground := Ground.data }], guard := none }) rfl (fun K hK => ?_) (AllReadyH.cons (o := { dst := some 47, op := Op.buildSlice 30 1 #[(0, Operand.tmp 46)], type := 30, pos := "more.go:21", after := #[{ on := 8, ground := Ground.data }], guard := none }) rfl (fun K hK => ?_) AllReadyH.nil)
          · go_simp
            have hb4012 : Below wd4000.heap.size wd4000 (wd4000.alloc (.cells #[.int .i64 (o : Int)] 3)) := (Below.refl _ _).alloc (Nat.le_refl _) _
            have RO4012_ : Hid (RowH (wd4000.alloc (.cells #[.int .i64 (o : Int)] 3)) (some ⟨wd4000.heap.size, 0, none⟩) 1 (nv [(o : Int)])) := Lib.hid ((row_new wd4000 #[.int .i64 (o : Int)] 3 (0, 0)).more (by simp))
            generalize (wd4000.alloc (.cells #[.int .i64 (o : Int)] 3)) = wn4012 at *
            have MM0_4012 := Lib.hid (MM0_d.out.below hb4012)
            have hS4012 : FrU wr (fun b => w.heap.size ≤ b ∧ b ≠ gs) wn4012 := (Fr.trans (hH0) (Fr.of_below hb4012) (fun _ _ h => h))
            refine hK.out _ _ hS4012 (fun hH4012 => ?_)
            have hH4012 : FrU wr (fun b => w.heap.size ≤ b ∧ b ≠ gs) wn4012 := hH4012
            clear hK K hS4012
            try simp only [Act.put, List.setIfInBounds_toArray, List.set_cons_zero, List.set_cons_succ]
            refine wpAnyH_ready (rs := [4, 9]) (by kernel_rfl) (by simp) ?_
            refine AllReadyH.cons (o := { dst := some 42, op := Op.call { callee := Callee.value (Operand.func 13), args := #[Operand.tmp 39, Operand.tmp 41], argTypes := #[3, 29] }, type := 33, pos := "more.go:21", after := #[{ on := 1, ground := Ground.data }, { on := 3, ground := Ground.data }], guard := none }) rfl (fun K hK => ?_) (AllReadyH.cons (o := { dst := some 47, op := Op.buildSlice 30 1 #[(0, Operand.tmp 46)], type := 30, pos := "more.go:21", after := #[{ on := 8, ground := Ground.data }], guard := none }) rfl (fun K hK => ?_) AllReadyH.nil)
            · go_simp
              refine (of_any N _ 1 1 _ [(o : Int)] wn4012 RO4012_.out (Nat.le_refl _) (by omega) HN256.out).mono ?_
              rw [HOF.out]
              rintro e' wn4013 ⟨g4013, h4013, rfl, _, _, hv4013, hbo4013⟩
              have hb4013 := hbo4013.out
              have VE4013_ := Lib.hid hv4013.out
              clear hv4013 hbo4013
              go_simp
              have MM0_4013 := Lib.hid (MM0_4012.out.below hb4013)
              have RO4012_4013 := Lib.hid (RO4012_.out.below hb4013)
              have hS4013 : FrU wr (fun b => w.heap.size ≤ b ∧ b ≠ gs) wn4013 := (Fr.trans (hH4012) (Fr.of_below hb4013) (fun _ _ h => h))
              refine hK.out _ _ hS4013 (fun hH4013 => ?_)
              have hH4013 : FrU wr (fun b => w.heap.size ≤ b ∧ b ≠ gs) wn4013 := hH4013
              clear hK K hS4013
              try simp only [Act.put, List.setIfInBounds_toArray, List.set_cons_zero, List.set_cons_succ]
              refine wpAnyH_ready (rs := [9]) (by kernel_rfl) (by simp) ?_
              refine AllReadyH.cons (o := { dst := some 47, op := Op.buildSlice 30 1 #[(0, Operand.tmp 46)], type := 30, pos := "more.go:21", after := #[{ on := 8, ground := Ground.data }], guard := none }) rfl (fun K hK => ?_) AllReadyH.nil
              go_simp
              rw [HXOR.out]
              have hb4014 : Below wn4013.heap.size wn4013 (wn4013.alloc (.cells #[.int .u8 ((UInt8.ofNat o ^^^ xb).toNat : Int)] 5)) := (Below.refl _ _).alloc (Nat.le_refl _) _
              have RD4014_ : Hid (RowH (wn4013.alloc (.cells #[.int .u8 ((UInt8.ofNat o ^^^ xb).toNat : Int)] 5)) (some ⟨wn4013.heap.size, 0, none⟩) 1 (bv [UInt8.ofNat o ^^^ xb])) := Lib.hid ((row_new wn4013 #[.int .u8 ((UInt8.ofNat o ^^^ xb).toNat : Int)] 5 (0, 0)).more (by simp))
              generalize (wn4013.alloc (.cells #[.int .u8 ((UInt8.ofNat o ^^^ xb).toNat : Int)] 5)) = wn4014 at *
              have MM0_4014 := Lib.hid (MM0_4013.out.below hb4014)
              have RO4012_4014 := Lib.hid (RO4012_4013.out.below hb4014)
              have VE4013_4014 := Lib.hid (VE4013_.out.below hb4014)
              have hS4014 : FrU wr (fun b => w.heap.size ≤ b ∧ b ≠ gs) wn4014 := (Fr.trans (hH4013) (Fr.of_below hb4014) (fun _ _ h => h))
              refine hK.out _ _ hS4014 (fun hH4014 => ?_)
              have hH4014 : FrU wr (fun b => w.heap.size ≤ b ∧ b ≠ gs) wn4014 := hH4014
              clear hK K hS4014
              try simp only [Act.put, List.setIfInBounds_toArray, List.set_cons_zero, List.set_cons_succ]
              refine wpAnyH_ready (rs := [10]) (by kernel_rfl) (by simp) ?_
              refine AllReadyH.cons (o := { dst := some 48, op := Op.call { callee := Callee.value (Operand.func 17), args := #[Operand.tmp 38, Operand.tmp 42, Operand.tmp 47], argTypes := #[25, 33, 30] }, type := 4, pos := "more.go:21", after := #[{ on := 0, ground := Ground.data }, { on := 4, ground := Ground.data }, { on := 9, ground := Ground.data }, { on := 4, ground := Ground.chain }], guard := none }) rfl (fun K hK => ?_) AllReadyH.nil
              go_simp
              refine (addI MM0_4014.out HINV.out VE4013_4014.out RD4014_.out rfl (HDT.out _ (hH4014))).mono ?_
              rw [HADDM.out]
              rintro e' wn4015 ⟨rfl, hm4015, hf4015⟩
              have HF4015 := Lib.hid hf4015.out
              have MA4015_ : Hid (IsMat wn4015 (fun b => w.heap.size ≤ b ∧ b ≠ gs) gm N 1 (unitM N (seen.set o true) (fun i => [UInt8.ofNat i ^^^ xb]))) := Lib.hid (hm4015.out.more fun b hb => hb.elim id fun hb => ⟨by have := HGS.out; have := HGL.out; have := (hH4014).size; omega, by have := HGS.out; have := HGL.out; have := (hH4014).size; omega⟩)
              clear hm4015 hf4015
              go_simp
              have hS4015 : FrU wr (fun b => w.heap.size ≤ b ∧ b ≠ gs) wn4015 := (Fr.trans (hH4014) HF4015.out (fun _ _ h => h))
              refine hK.out _ _ hS4015 (fun hH4015 => ?_)
              have hH4015 : FrU wr (fun b => w.heap.size ≤ b ∧ b ≠ gs) wn4015 := hH4015
              clear hK K hS4015
              try simp only [Act.put, List.setIfInBounds_toArray, List.set_cons_zero, List.set_cons_succ]
              refine wpAnyH_take (i := 15) (oi := { dst := some 53, op := Op.binOp BinOp.eql 4 (Operand.tmp 48) (Operand.tmp 52) 4, type := 4, pos := "more.go:21", after := #[{ on := 10, ground := Ground.data }, { on := 14, ground := Ground.data }], guard := none }) (v := ?tkv4016) rfl (by kernel_rfl) (by kernel_rfl) (by kernel_rfl) (fun _ _ _ h => h) (Or.inl ⟨by rfl, ?tky4016⟩) hH4015 ?tkr4016
              case tky4016 => (intro w' hSw; clear hSw; go_simp; try with_reducible rfl)
              try simp only [Act.put, List.setIfInBounds_toArray, List.set_cons_zero, List.set_cons_succ]
              refine wpAnyH_done (by kernel_rfl) ?_ _
              refine NoPanic.normal ?_
              have HEND := Lib.hid (hH4015)
              go_wp2_with fail
              go_meet
              exact ⟨rfl, HEND, MA4015_⟩
            · go_simp
              rw [HXOR.out]
              have hb4017 : Below wn4012.heap.size wn4012 (wn4012.alloc (.cells #[.int .u8 ((UInt8.ofNat o ^^^ xb).toNat : Int)] 5)) := (Below.refl _ _).alloc (Nat.le_refl _) _
              have RD4017_ : Hid (RowH (wn4012.alloc (.cells #[.int .u8 ((UInt8.ofNat o ^^^ xb).toNat : Int)] 5)) (some ⟨wn4012.heap.size, 0, none⟩) 1 (bv [UInt8.ofNat o ^^^ xb])) := Lib.hid ((row_new wn4012 #[.int .u8 ((UInt8.ofNat o ^^^ xb).toNat : Int)] 5 (0, 0)).more (by simp))
              generalize (wn4012.alloc (.cells #[.int .u8 ((UInt8.ofNat o ^^^ xb).toNat : Int)] 5)) = wn4017 at *
              have MM0_4017 := Lib.hid (MM0_4012.out.below hb4017)
              have RO4012_4017 := Lib.hid (RO4012_.out.below hb4017)
              have hS4017 : FrU wr (fun b => w.heap.size ≤ b ∧ b ≠ gs) wn4017 := (Fr.trans (hH4012) (Fr.of_below hb4017) (fun _ _ h => h))
              refine hK.out _ _ hS4017 (fun hH4017 => ?_)
              have hH4017 : FrU wr (fun b => w.heap.size ≤ b ∧ b ≠ gs) wn4017 := hH4017
              clear hK K hS4017
              try simp only [Act.put, List.setIfInBounds_toArray, List.set_cons_zero, List.set_cons_succ]
              refine wpAnyH_ready (rs := [4]) (by kernel_rfl) (by simp) ?_
              refine AllReadyH.cons (o := { dst := some 42, op := Op.call { callee := Callee.value (Operand.func 13), args := #[Operand.tmp 39, Operand.tmp 41], argTypes := #[3, 29] }, type := 33, pos := "more.go:21", after := #[{ on := 1, ground := Ground.data }, { on := 3, ground := Ground.data }], guard := none }) rfl (fun K hK => ?_) AllReadyH.nil
              go_simp
              refine (of_any N _ 1 1 _ [(o : Int)] wn4017 RO4012_4017.out (Nat.le_refl _) (by omega) HN256.out).mono ?_
              rw [HOF.out]
              rintro e' wn4018 ⟨g4018, h4018, rfl, _, _, hv4018, hbo4018⟩
              have hb4018 := hbo4018.out
              have VE4018_ := Lib.hid hv4018.out
              clear hv4018 hbo4018
              go_simp
              have MM0_4018 := Lib.hid (MM0_4017.out.below hb4018)
              have RO4012_4018 := Lib.hid (RO4012_4017.out.below hb4018)
              have RD4017_4018 := Lib.hid (RD4017_.out.below hb4018)
              have hS4018 : FrU wr (fun b => w.heap.size ≤ b ∧ b ≠ gs) wn4018 := (Fr.trans (hH4017) (Fr.of_below hb4018) (fun _ _ h => h))
              refine hK.out _ _ hS4018 (fun hH4018 => ?_)
              have hH4018 : FrU wr (fun b => w.heap.size ≤ b ∧ b ≠ gs) wn4018 := hH4018
              clear hK K hS4018
              try simp only [Act.put, List.setIfInBounds_toArray, List.set_cons_zero, List.set_cons_succ]
              refine wpAnyH_ready (rs := [10]) (by kernel_rfl) (by simp) ?_
              refine AllReadyH.cons (o := { dst := some 48, op := Op.call { callee := Callee.value (Operand.func 17), args := #[Operand.tmp 38, Operand.tmp 42, Operand.tmp 47], argTypes := #[25, 33, 30] }, type := 4, pos := "more.go:21", after := #[{ on := 0, ground := Ground.data }, { on := 4, ground := Ground.data }, { on := 9, ground := Ground.data }, { on := 4, ground := Ground.chain }], guard := none }) rfl (fun K hK => ?_) AllReadyH.nil
              go_simp
              refine (addI MM0_4018.out HINV.out VE4018_.out RD4017_4018.out rfl (HDT.out _ (hH4018))).mono ?_
              rw [HADDM.out]
              rintro e' wn4019 ⟨rfl, hm4019, hf4019⟩
              have HF4019 := Lib.hid hf4019.out
              have MA4019_ : Hid (IsMat wn4019 (fun b => w.heap.size ≤ b ∧ b ≠ gs) gm N 1 (unitM N (seen.set o true) (fun i => [UInt8.ofNat i ^^^ xb]))) := Lib.hid (hm4019.out.more fun b hb => hb.elim id fun hb => ⟨by have := HGS.out; have := HGL.out; have := (hH4018).size; omega, by have := HGS.out; have := HGL.out; have := (hH4018).size; omega⟩)
              clear hm4019 hf4019
              go_simp
              have hS4019 : FrU wr (fun b => w.heap.size ≤ b ∧ b ≠ gs) wn4019 := (Fr.trans (hH4018) HF4019.out (fun _ _ h => h))
              refine hK.out _ _ hS4019 (fun hH4019 => ?_)
              have hH4019 : FrU wr (fun b => w.heap.size ≤ b ∧ b ≠ gs) wn4019 := hH4019
              clear hK K hS4019
              try simp only [Act.put, List.setIfInBounds_toArray, List.set_cons_zero, List.set_cons_succ]
              refine wpAnyH_take (i := 15) (oi := { dst := some 53, op := Op.binOp BinOp.eql 4 (Operand.tmp 48) (Operand.tmp 52) 4, type := 4, pos := "more.go:21", after := #[{ on := 10, ground := Ground.data }, { on := 14, ground := Ground.data }], guard := none }) (v := ?tkv4020) rfl (by kernel_rfl) (by kernel_rfl) (by kernel_rfl) (fun _ _ _ h => h) (Or.inl ⟨by rfl, ?tky4020⟩) hH4019 ?tkr4020
              case tky4020 => (intro w' hSw; clear hSw; go_simp; try with_reducible rfl)
              try simp only [Act.put, List.setIfInBounds_toArray, List.set_cons_zero, List.set_cons_succ]
              refine wpAnyH_done (by kernel_rfl) ?_ _
              refine NoPanic.normal ?_
              have HEND := Lib.hid (hH4019)
              go_wp2_with fail
              go_meet
              exact ⟨rfl, HEND, MA4019_⟩
          · go_simp
            rw [HXOR.out]
            have hb4021 : Below wd4000.heap.size wd4000 (wd4000.alloc (.cells #[.int .u8 ((UInt8.ofNat o ^^^ xb).toNat : Int)] 5)) := (Below.refl _ _).alloc (Nat.le_refl _) _
            have RD4021_ : Hid (RowH (wd4000.alloc (.cells #[.int .u8 ((UInt8.ofNat o ^^^ xb).toNat : Int)] 5)) (some ⟨wd4000.heap.size, 0, none⟩) 1 (bv [UInt8.ofNat o ^^^ xb])) := Lib.hid ((row_new wd4000 #[.int .u8 ((UInt8.ofNat o ^^^ xb).toNat : Int)] 5 (0, 0)).more (by simp))
            generalize (wd4000.alloc (.cells #[.int .u8 ((UInt8.ofNat o ^^^ xb).toNat : Int)] 5)) = wn4021 at *
            have MM0_4021 := Lib.hid (MM0_d.out.below hb4021)
            have hS4021 : FrU wr (fun b => w.heap.size ≤ b ∧ b ≠ gs) wn4021 := (Fr.trans (hH0) (Fr.of_below hb4021) (fun _ _ h => h))
            refine hK.out _ _ hS4021 (fun hH4021 => ?_)
            have hH4021 : FrU wr (fun b => w.heap.size ≤ b ∧ b ≠ gs) wn4021 := hH4021
            clear hK K hS4021
            try simp only [Act.put, List.setIfInBounds_toArray, List.set_cons_zero, List.set_cons_succ]
            refine wpAnyH_ready (rs := [3]) (by kernel_rfl) (by simp) ?_
            refine AllReadyH.cons (o := { dst := some 41, op := Op.buildSlice 29 1 #[(0, Operand.tmp 40)], type := 29, pos := "more.go:21", after := #[{ on := 2, ground := Ground.data }], guard := none }) rfl (fun K hK => ?_) AllReadyH.nil
            go_simp
            have hb4022 : Below wn4021.heap.size wn4021 (wn4021.alloc (.cells #[.int .i64 (o : Int)] 3)) := (Below.refl _ _).alloc (Nat.le_refl _) _
            have RO4022_ : Hid (RowH (wn4021.alloc (.cells #[.int .i64 (o : Int)] 3)) (some ⟨wn4021.heap.size, 0, none⟩) 1 (nv [(o : Int)])) := Lib.hid ((row_new wn4021 #[.int .i64 (o : Int)] 3 (0, 0)).more (by simp))
            generalize (wn4021.alloc (.cells #[.int .i64 (o : Int)] 3)) = wn4022 at *
            have MM0_4022 := Lib.hid (MM0_4021.out.below hb4022)
            have RD4021_4022 := Lib.hid (RD4021_.out.below hb4022)
            have hS4022 : FrU wr (fun b => w.heap.size ≤ b ∧ b ≠ gs) wn4022 := (Fr.trans (hH4021) (Fr.of_below hb4022) (fun _ _ h => h))
            refine hK.out _ _ hS4022 (fun hH4022 => ?_)
            have hH4022 : FrU wr (fun b => w.heap.size ≤ b ∧ b ≠ gs) wn4022 := hH4022
            clear hK K hS4022
            try simp only [Act.put, List.setIfInBounds_toArray, List.set_cons_zero, List.set_cons_succ]
            refine wpAnyH_ready (rs := [4]) (by kernel_rfl) (by simp) ?_
            refine AllReadyH.cons (o := { dst := some 42, op := Op.call { callee := Callee.value (Operand.func 13), args := #[Operand.tmp 39, Operand.tmp 41], argTypes := #[3, 29] }, type := 33, pos := "more.go:21", after := #[{ on := 1, ground := Ground.data }, { on := 3, ground := Ground.data }], guard := none }) rfl (fun K hK => ?_) AllReadyH.nil
            go_simp
            refine (of_any N _ 1 1 _ [(o : Int)] wn4022 RO4022_.out (Nat.le_refl _) (by omega) HN256.out).mono ?_
            rw [HOF.out]
            rintro e' wn4023 ⟨g4023, h4023, rfl, _, _, hv4023, hbo4023⟩
            have hb4023 := hbo4023.out
            have VE4023_ := Lib.hid hv4023.out
            clear hv4023 hbo4023
            go_simp
            have MM0_4023 := Lib.hid (MM0_4022.out.below hb4023)
            have RD4021_4023 := Lib.hid (RD4021_4022.out.below hb4023)
            have RO4022_4023 := Lib.hid (RO4022_.out.below hb4023)
            have hS4023 : FrU wr (fun b => w.heap.size ≤ b ∧ b ≠ gs) wn4023 := (Fr.trans (hH4022) (Fr.of_below hb4023) (fun _ _ h => h))
            refine hK.out _ _ hS4023 (fun hH4023 => ?_)
            have hH4023 : FrU wr (fun b => w.heap.size ≤ b ∧ b ≠ gs) wn4023 := hH4023
            clear hK K hS4023
            try simp only [Act.put, List.setIfInBounds_toArray, List.set_cons_zero, List.set_cons_succ]
            refine wpAnyH_ready (rs := [10]) (by kernel_rfl) (by simp) ?_
            refine AllReadyH.cons (o := { dst := some 48, op := Op.call { callee := Callee.value (Operand.func 17), args := #[Operand.tmp 38, Operand.tmp 42, Operand.tmp 47], argTypes := #[25, 33, 30] }, type := 4, pos := "more.go:21", after := #[{ on := 0, ground := Ground.data }, { on := 4, ground := Ground.data }, { on := 9, ground := Ground.data }, { on := 4, ground := Ground.chain }], guard := none }) rfl (fun K hK => ?_) AllReadyH.nil
            go_simp
            refine (addI MM0_4023.out HINV.out VE4023_.out RD4021_4023.out rfl (HDT.out _ (hH4023))).mono ?_
            rw [HADDM.out]
            rintro e' wn4024 ⟨rfl, hm4024, hf4024⟩
            have HF4024 := Lib.hid hf4024.out
            have MA4024_ : Hid (IsMat wn4024 (fun b => w.heap.size ≤ b ∧ b ≠ gs) gm N 1 (unitM N (seen.set o true) (fun i => [UInt8.ofNat i ^^^ xb]))) := Lib.hid (hm4024.out.more fun b hb => hb.elim id fun hb => ⟨by have := HGS.out; have := HGL.out; have := (hH4023).size; omega, by have := HGS.out; have := HGL.out; have := (hH4023).size; omega⟩)
            clear hm4024 hf4024
            go_simp
            have hS4024 : FrU wr (fun b => w.heap.size ≤ b ∧ b ≠ gs) wn4024 := (Fr.trans (hH4023) HF4024.out (fun _ _ h => h))
            refine hK.out _ _ hS4024 (fun hH4024 => ?_)
            have hH4024 : FrU wr (fun b => w.heap.size ≤ b ∧ b ≠ gs) wn4024 := hH4024
            clear hK K hS4024
            try simp only [Act.put, List.setIfInBounds_toArray, List.set_cons_zero, List.set_cons_succ]
            refine wpAnyH_take (i := 15) (oi := { dst := some 53, op := Op.binOp BinOp.eql 4 (Operand.tmp 48) (Operand.tmp 52) 4, type := 4, pos := "more.go:21", after := #[{ on := 10, ground := Ground.data }, { on := 14, ground := Ground.data }], guard := none }) (v := ?tkv4025) rfl (by kernel_rfl) (by kernel_rfl) (by kernel_rfl) (fun _ _ _ h => h) (Or.inl ⟨by rfl, ?tky4025⟩) hH4024 ?tkr4025
            case tky4025 => (intro w' hSw; clear hSw; go_simp; try with_reducible rfl)
            try simp only [Act.put, List.setIfInBounds_toArray, List.set_cons_zero, List.set_cons_succ]
            refine wpAnyH_done (by kernel_rfl) ?_ _
            refine NoPanic.normal ?_
            have HEND := Lib.hid (hH4024)
            go_wp2_with fail
            go_meet
            exact ⟨rfl, HEND, MA4024_⟩
        case rest =>
          obtain ⟨rfl, hfr, hma⟩ := hcut
          have kx := HSC.out _ hfr.out
          obtain ⟨wD, rfl⟩ : ∃ W : World, W = wc := ⟨_, rfl⟩
          have hsx := (hfr.out.block gs HGL.out (fun h => h.2 rfl)).trans HSB.out
          have fx := frozen_of_row wD gs o _ _ hsx
          have HM2 : Hid (IsMat (wD.setCell ⟨gs, o, none⟩ (.bool true)) (fun b => w.heap.size ≤ b ∧ b ≠ gs) gm N 1 (unitM N (seen.set o true) (fun i => [UInt8.ofNat i ^^^ xb]))) := Lib.hid (hma.out.keep fun b hb _ => heap_setCell_other _ _ _ _ hb.2)
          have HB2 : Hid (Below w.heap.size w (wD.setCell ⟨gs, o, none⟩ (.bool true))) := Lib.hid ((HBB.out.trans (Fr.below hfr.out (fun b h => h.1) HBB.out.size)).setCell HGS.out _)
          have HS2 : Hid (((wD.setCell ⟨gs, o, none⟩ (.bool true))).heap[gs]? = some (.cells ((seen.set o true).map Value.bool).toArray 4 (0, 0))) := Lib.hid (by rw [HSMP.out, heap_setCell_same wD gs o _ _ (.bool true) hsx]; simp)
          have HG2 : Hid (gs < ((wD.setCell ⟨gs, o, none⟩ (.bool true))).heap.size) := Lib.hid (by simpa using Nat.lt_of_lt_of_le HGL.out hfr.out.size)
          clear hma hfr hsx
          go_upto_region 15 with fail
          obtain ⟨kk, hkk⟩ : ∃ kk, k + 1 = kk := ⟨_, rfl⟩
          rw [show (k : Int) + 1 = (kk : Int) by omega]
          rw [hkk] at HRK
          clear hkk
          generalize (wD.setCell ⟨gs, o, none⟩ (.bool true)) = wE at *
          clear kx fx
          obtain ⟨wD, rfl⟩ : ∃ W : World, W = wE := ⟨_, rfl⟩
          obtain ⟨bN, hbN⟩ : ∃ bN, decide (kk = N) = bN := ⟨_, rfl⟩
          have q2 : ((kk : Int) == (N : Int)) = bN := by rw [← hbN]; by_cases h : kk = N <;> simp [h] <;> omega
          have HBN := Lib.hid hbN
          clear hbN
          go_wp2_with fail
          refine (rankI HM2.out).mono ?_
          rintro e w5 ⟨rfl, rfl⟩
          rw [HRK.out]
          go_wp2_with fail
          refine (fullI HM2.out).mono ?_
          rintro e w5 ⟨rfl, hb5⟩
          rw [HRK.out, HBN.out]
          have HNX : Hid (UI w w5 gs gm N xb (seen.set o true) kk) := Lib.hid ⟨HB2.out.trans (hb5.out.mono HB2.out.size), ⟨HGS.out, Nat.lt_of_lt_of_le HG2.out hb5.out.size⟩, HSS.out, (hb5.out.block gs HG2.out).trans HS2.out, HM2.out.below hb5.out, HRK.out⟩
          clear hb5 HM2 HB2 HS2 HG2
          go_wp2_with fail
          go_roundw
          case rel => exact ⟨t + 1, kk, seen.set o true, by omega, by go_num, by go_num, HNX⟩
          case measure => simp [intOf]; omega
    · have : mm = t := by omega
      subst this
      by_cases hf : k = N
      · have HSO := Lib.hid (units_full (z := 1) (n := N) (seen := seen) (d := fun i => [UInt8.ofNat i ^^^ xb]) (fun _ => rfl) (HU.out.r.trans hf))
        have HCS := Lib.hid (solveI HU.out.m (HU.out.r.trans hf))
        have HBB := Lib.hid HU.out.b
        clear hf HU
        go_wp2_with fail
        refine HCS.out.mono ?_
        rw [HSO.out]
        rintro e w5 ⟨gl, es, rfl, hes, hs⟩
        have HS := Lib.hid hs.out
        have HES := Lib.hid hes
        have HB5 := Lib.hid (HBB.out.trans (hs.out.b.mono HBB.out.size))
        clear hs hes HCS HSO HBB
        go_wp2_with fail
        go_loop [80] (fun i => ∃ t : Nat, t ≤ N ∧ i = .int .i64 t) (fun i => N - (intOf i).toNat)
        case atStart => exact ⟨0, by omega, rfl⟩
        case round =>
          obtain ⟨t, ht, rfl⟩ := hrel
          by_cases hlt : t < N
          · obtain ⟨r, hr, hrl⟩ : ∃ r, es[t]? = some r ∧ r.l = [UInt8.ofNat t ^^^ xb] := by
              have e := congrArg (fun l : List (List UInt8) => l[t]?) HES.out
              simp only [List.getElem?_map, List.getElem?_range hlt] at e
              cases hx : es[t]? with
              | none => rw [hx] at e; cases e
              | some r => rw [hx] at e; exact ⟨r, rfl, Option.some.inj e⟩
            obtain ⟨ccs, k1, k2, k3⟩ := HS.out.row
            obtain ⟨a1, a2, dd, a3, _⟩ := HS.out.at_ r (List.mem_of_getElem? hr)
            have q0 : w5.cell? ⟨gl, t, none⟩ = some (.slice (some ⟨dd, 0, none⟩) 1 r.c) := by
              rw [cell_of_row w5 gl t ccs _ (0, 0) k1, k3 t r hr]
              unfold BRow.val
              rw [a1, a3, hrl]
              rfl
            have q1 : w5.cell? ⟨dd, 0, none⟩ = some (.int .u8 ((UInt8.ofNat t ^^^ xb).toNat : Int)) := by
              have hrow := a2.row
              rw [hrl] at hrow
              obtain ⟨b, o, e, _, hc⟩ := hrow.cellAt (k := 0) (u := .int .u8 ((UInt8.ofNat t ^^^ xb).toNat : Int)) (by simp) rfl
              rw [a3] at e
              injection e with e
              injection e with e1 e2
              subst e1 e2
              exact hc
            have HXOR : Hid (bits .xor .u8 (IntKind.u8.wrap (t : Int)) (xb.toNat : Int) = ((UInt8.ofNat t ^^^ xb).toNat : Int)) := Lib.hid (by
              have := xor_int (UInt8.ofNat t) xb
              rw [show ((UInt8.ofNat t).toNat : Int) = IntKind.u8.wrap (t : Int) by rw [IntKind.wrap_u8]; simp] at this
              exact this)
            have hti : (t : Int) < (N : Int) := by omega
            have ht59 : (t : Int) ≤ 59 := by omega
            have HXOR2 : Hid (bits .xor .u8 (t : Int) (xb.toNat : Int) = ((UInt8.ofNat t ^^^ xb).toNat : Int)) := Lib.hid (by have := HXOR.out; rwa [IntWalk.u8_in _ (by omega)] at this)
            clear k1 k2 k3 a1 a2 a3 hr hrl
            go_wp2_with (first | rw [HXOR.out] | rw [HXOR2.out])
            go_round
            case rel => exact ⟨t + 1, by omega, by go_num⟩
            case measure => simp [intOf]; omega
          · have : N = t := by omega
            subst this
            go_wp2_with fail
            refine (awake6_any w5 (HT.out.grow HB5.out)).mono ?_
            rintro e w9 ⟨rfl, hb9⟩
            have HB9 := Lib.hid (HB5.out.trans (hb9.out.mono HB5.out.size))
            go_wp2_with fail
            go_ret
            exact ⟨rfl, HB9.out⟩
      · have HCS := Lib.hid (solveI_no HU.out.m (fun h => hf (HU.out.r.symm.trans h)))
        have HBB := Lib.hid HU.out.b
        clear hf HU
        go_wp2_with fail
        refine HCS.out.mono ?_
        rintro e w5 ⟨rfl, hb5⟩
        have HB5 := Lib.hid (HBB.out.trans (hb5.out.mono HBB.out.size))
        clear hb5 HCS HBB
        go_wp2_with fail
        go_loop [80] (fun i => i = .int .i64 0) (fun i => 0)
        case atStart => rfl
        case round =>
          subst hrel
          go_wp2_with fail
          refine (awake6_any w5 (HT.out.grow HB5.out)).mono ?_
          rintro e w9 ⟨rfl, hb9⟩
          have HB9 := Lib.hid (HB5.out.trans (hb9.out.mono HB5.out.size))
          go_wp2_with fail
          go_ret
          exact ⟨rfl, HB9.out⟩
end Go.Proofs.YtdogbdbjagechaaDoor.El
