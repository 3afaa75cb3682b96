/- WheelPlays: any records, any fuses, other generations and sizes over them: each answer, all records, all bytes, as the reference has them. Its walk. -/
import Derived.Test.YtekaoodagaplmaaWPlM
import Derived.Test.YtekaoodagaplmaaLaw
import Derived.Deep.CutBlock
import Derived.Deep.DeepCutAuto
import Derived.Deep.RegionHeld3
namespace Go.Proofs.Ytekaoodagaplmaa
open Go.ChangeShapes Go.WideShapes Go.ChangeAt Go.RowKit
theorem conv_own {w : World} {base n : Nat} {A : Option Addr} {l : List UInt8} (c : Nat) (h : w.ownsRow base 5 1 (.slice A n c) n (bv l)) : ∀ W, Below w.heap.size w W → (convert 37 9 (.slice A n c)).run Try.prog W = .ok (.string ⟨l.toArray⟩) W := fun _W hW =>
  run_string_row (Row.of_own (own_below h hW)) c 37 9 5 Try.underlying37 Try.underlying5 Try.underlying9
theorem conv_row {w : World} {B n : Nat} {A : Option Addr} {l : List UInt8} (c : Nat) (h : Row w B A n (bv l)) (hB : B ≤ w.heap.size) : ∀ W, Below w.heap.size w W → (convert 37 9 (.slice A n c)).run Try.prog W = .ok (.string ⟨l.toArray⟩) W := fun _W hW =>
  run_string_row (h.below (hW.mono hB)) c 37 9 5 Try.underlying37 Try.underlying5 Try.underlying9
def BoxW (gc : Nat) (cs : Array Value) (W : World) : Prop := W.heap[gc]? = some (.cells cs 39 (0, 0))
theorem PS.at_box {w0 w1 W : World} {gf gm gB gw gr gc : Nat} {x1 x2 : Wh} {f1 f2 : Fl} {cs : Array Value} (h : PS w0 w1 (fun b => b = gc) gf gm gB gw gr x1 f1 x2 f2 W) (hb : BoxW gc cs w1) : BoxW gc cs W := by
  obtain ⟨_, _, h⟩ := h
  exact (h.box gc rfl).trans hb
theorem PS.box_size {w0 w1 W : World} {gf gm gB gw gr gc : Nat} {x1 x2 : Wh} {f1 f2 : Fl} (h : PS w0 w1 (fun b => b = gc) gf gm gB gw gr x1 f1 x2 f2 W) : gc < W.heap.size := by
  obtain ⟨_, _, h⟩ := h
  exact (h.g gc rfl).1
set_option maxRecDepth 100000 in
set_option maxHeartbeats 25600000 in
theorem wplays_walk (wear : Int) (_ : -9223372036854775808 ≤ wear) (_ : wear ≤ 9223372036854775807) (size : Int) (_ : -9223372036854775808 ≤ size) (_ : size ≤ 9223372036854775807) (gen : Nat) (hgen : gen < 4294967296) (A : Option Addr) (n cap : Nat) (ys : List WCall) (w : World) (hl : WCalls w A n ys) :
    Calls Try.prog 3 #[.int .i64 wear, .int .i64 size, .int .u32 (gen : Int), .slice A n cap] w fun e w' => e = .returned (.bool true) ∧ Below w.heap.size w w' := by
  have HL := Lib.hid hl
  have HN := Lib.hid hl.1
  have HFEW := Lib.hid (few18_any A n cap ys w hl)
  clear hl
  go_enter Try.func3, Try.ntmps3
  go_wp2_with fail
  refine HFEW.out.mono ?_
  rintro e w0 ⟨r, rfl, hr, hb0⟩
  cases r with
  | false =>
    go_wp2_with fail
    refine (awake18_any _).mono ?_
    rintro e w4 ⟨rfl, hb4⟩
    go_wp2_with fail
    go_ret
    exact ⟨rfl, hb0.out.trans (hb4.out.mono hb0.out.size)⟩
  | true =>
  have HM := Lib.hid (hr.out rfl)
  have hn80 : n ≤ 80 := by have := HM.out.1; have := HN.out; omega
  clear hr HFEW
  obtain ⟨v, hv1, hv2, hnew⟩ := new_all wear w0
  have hrnew := fun W => rnew_all wear W v hv2
  have HNEW := Lib.hid hnew
  have HRNEW := Lib.hid hrnew
  have HOK0 : Hid (((flNew v).fill 0 3584).Ok 0) := Lib.hid (new_ok v hv1)
  have HD0 : Hid (((flNew v).fill 0 3584).down = false) := rfl
  clear hnew hrnew hv1 hv2
  go_wp2_with fail
  refine HNEW.out.mono ?_
  rintro e w1 ⟨gf, rfl, hg, hf, hb1⟩
  have hs0 := hb0.out.size
  have HB1 := Lib.hid (hb0.out.trans (hb1.out.mono hs0))
  have hg1 := hf.out.lt
  go_wp2_with fail
  refine (HRNEW.out w1).mono ?_
  rintro e w2 ⟨gm, gB, rfl, hgm, hgB, hrf, hb2⟩
  have HF2 := Lib.hid (hf.out.below hb2.out)
  have HR2 := Lib.hid hrf.out
  generalize (flNew v).fill 0 3584 = f0 at *
  have hs1 := HB1.out.size
  have HB2 := Lib.hid (HB1.out.trans (hb2.out.mono hs1))
  have HGG : Hid (gm ≠ gf ∧ gB ≠ gf ∧ w.heap.size ≤ gf ∧ w.heap.size ≤ gm ∧ w.heap.size ≤ gB) := ⟨by omega, by omega, by omega, by omega, by omega⟩
  clear hb0 hb1 hf hrf hb2 HB1 HNEW HRNEW hg hg1 hgm hgB hs0 hs1
  by_cases hsz : size < 1 ∨ 16 < size
  · have HO1 := Lib.hid (open_arg (some ⟨gf, 0, none⟩) gen size w2 (.inr hsz))
    have HO2 := Lib.hid (ropen_arg (.pointer (some ⟨gm, 0, none⟩)) gen size w2 hsz)
    clear hsz HF2 HR2
    go_wp2_with fail
    refine HO1.out.mono ?_
    rintro e w3 ⟨rfl, rfl⟩
    go_wp2_with fail
    refine HO2.out.mono ?_
    rintro e w3 ⟨rfl, rfl⟩
    go_wp2_with fail
    refine (awake18_any _).mono ?_
    rintro e w4 ⟨rfl, hb4⟩
    go_wp2_with fail
    go_ret
    exact ⟨rfl, HB2.out.trans (hb4.out.mono HB2.out.size)⟩
  obtain ⟨sz, rfl⟩ : ∃ z : Nat, size = z := ⟨size.toNat, by omega⟩
  have hz1 : 1 ≤ sz := by omega
  have hz2 : sz ≤ 16 := by omega
  have HO1 := Lib.hid (open_any gf gen sz f0 w2 HF2.out HD0.out hz1 hz2)
  have HO2 := Lib.hid (fun W (hW : Below w2.heap.size w2 W) => ropen_x gm gB gen sz f0 W (HR2.out.below hW) HD0.out hz1 hz2 (HR2.out.below hW).ltm)
  have HXI0 := Lib.hid (XI.opW f0 gen sz 0 hgen hz1 hz2)
  generalize opW f0 gen sz 8 = x0 at *
  clear hsz
  go_wp2_with fail
  refine HO1.out.mono ?_
  rintro e w3 ⟨gw, rfl, -, hw3, hb3⟩
  have HW3 := Lib.hid hw3.out
  have HB3 := Lib.hid hb3.out
  clear hw3 hb3 HO1
  go_wp2_with fail
  refine (HO2.out w3 HB3.out).mono ?_
  rintro e w4 ⟨gr, rfl, hw4, hb4⟩
  have HPS0 := Lib.hid (px_mk HB2.out HF2.out HR2.out HGG.out HW3.out HB3.out hw4.out hb4.out)
  clear hw4 hb4 HO2 HW3 HB3 HF2 HR2 HB2 HD0
  go_wp2_with fail
  go_loopw [1, 2, 11, 12, 13, 14, 57] (fun s1 s2 s11 s12 s13 s14 i wr => ∃ (k gw gr gen sz : Nat) (e1 e2 : Int) (x : Wh) (f : Fl), k ≤ n ∧ s1 = .int .i64 (sz : Int) ∧ s2 = .int .u32 (gen : Int) ∧ s11 = .pointer (some ⟨gw, 0, none⟩) ∧ s12 = .int .i64 e1 ∧ s13 = .pointer (some ⟨gr, 0, none⟩) ∧ s14 = .int .i64 e2 ∧ i = .int .i64 (k : Int) ∧ gen < 4294967296 ∧ 1 ≤ sz ∧ sz ≤ 16 ∧ Hid (PS w w (fun _ => False) gf gm gB gw gr x f x f wr) ∧ Hid (XI k x) ∧ Hid (f.Ok (400 * (k : Int)))) (fun _ _ _ _ _ _ i _ => n - (intOf i).toNat)
  case atStart => exact ⟨0, gw, gr, gen, sz, 0, 0, x0, f0, by omega, rfl, rfl, rfl, rfl, rfl, rfl, rfl, hgen, hz1, hz2, HPS0, HXI0, HOK0⟩
  case round =>
    clear HPS0 HXI0 HOK0 hgen hz1 hz2
    obtain ⟨k, gw, gr, gen, sz, e1, e2, x, f, hk, rfl, rfl, rfl, rfl, rfl, rfl, rfl, hgen, hz1, hz2, HPS, HXI, HOK⟩ := hrel
    by_cases hlt : k < n
    · obtain ⟨b, o, y, rfl, hbl, hym, hyk, hyg, c0, c1, c2, c3, c4⟩ := HL.out.at_ HPS.out.bel hlt
      have hm3 := HM.out.2 y hym
      obtain ⟨d, s, a, yn, yA, ym, yc, yl⟩ := y
      dsimp only at c0 c1 c2 c3 c4 hm3
      have HROW : Hid (Row w w.heap.size yA ym (bv yl)) := Lib.hid hyg.1
      have HYS : Hid (-9223372036854775808 ≤ s ∧ s ≤ 9223372036854775807) := Lib.hid hyg.2.2.2.2.1
      have HYN : Hid (yn < 4294967296) := Lib.hid hyg.2.2.2.2.2.2
      clear hyg hym hyk
      obtain ⟨CS, hCS⟩ : ∃ CS : Array Value, CS = #[.int .i64 d, .int .i64 s, .int .i64 a, .int .u32 (yn : Int), .slice yA ym yc] := ⟨_, rfl⟩
      have HFB : Hid (∀ W, BoxW wr.heap.size CS W → W.cell? ⟨wr.heap.size, 0, none⟩ = some (.int .i64 d) ∧ W.cell? ⟨wr.heap.size, 1, none⟩ = some (.int .i64 s) ∧ W.cell? ⟨wr.heap.size, 2, none⟩ = some (.int .i64 a) ∧ W.cell? ⟨wr.heap.size, 3, none⟩ = some (.int .u32 (yn : Int)) ∧ W.cell? ⟨wr.heap.size, 4, none⟩ = some (.slice yA ym yc)) := Lib.hid fun W hW => by
        unfold BoxW at hW
        rw [hCS] at hW
        refine ⟨?_, ?_, ?_, ?_, ?_⟩ <;> (rw [cell_of_row W _ _ _ _ (0, 0) hW]; rfl)
      obtain ⟨W0, hW0⟩ : ∃ W0, wr.alloc (.cells #[.int .i64 d, .int .i64 s, .int .i64 a, .int .u32 (yn : Int), .slice yA ym yc] 39) = W0 := ⟨_, rfl⟩
      have hbW : Below wr.heap.size wr W0 := by rw [← hW0]; exact (Below.refl _ _).alloc (Nat.le_refl _) _
      have hxW : BoxW wr.heap.size CS W0 := by rw [← hW0, hCS]; exact heap_alloc_new wr _
      have hlW : wr.heap.size < W0.heap.size := by rw [← hW0]; simp
      have HPB := Lib.hid (HPS.out.boxed hbW hlW)
      have HW0 := Lib.hid hW0
      have HBOX := Lib.hid hxW
      obtain ⟨gc, hgc⟩ : ∃ gc, wr.heap.size = gc := ⟨_, rfl⟩
      clear hW0 hbW hxW hlW hCS HPS
      go_upto_region 13 with fail
      rw [HW0.out]
      rw [hgc] at HBOX HFB HPB
      clear HW0 c0 c1 c2 c3 c4 hbl
      try rw [hgc]
      clear hgc
      obtain ⟨c0, c1, c2, c3, c4⟩ := HFB.out _ HBOX.out
      go_upto_block 2 with fail
      go_cut [1, 2, 17] (fun s1 s2 s17 wx => ∃ (an : Bool) (gen8 sz8 : Nat) (x8 : Wh) (f8 : Fl), s1 = .int .i64 (sz8 : Int) ∧ s2 = .int .u32 (gen8 : Int) ∧ s17 = .bool an ∧ Hid (PS w w (fun _ => False) gf gm gB gw gr x8 f8 x8 f8 wx) ∧ Hid (XI (k + 1) x8) ∧ Hid (f8.Ok (400 * ((k + 1 : Nat) : Int))) ∧ gen8 < 4294967296 ∧ 1 ≤ sz8 ∧ sz8 ≤ 16)
      case first =>
        by_cases k0 : d = 0
        · subst k0
          have HP1 := Lib.hid (px_fuse HPB.out s a)
          have HP2 := Lib.hid (fun W (hW : PS w W0 (fun b => b = gc) gf gm gB gw gr x { f with there := decide (0 ≤ s), left := s, torn := a } x f W) => px_rfuse hW s a HYS.out)
          have HOC : Hid (Fl.Ok { f with there := decide (0 ≤ s), left := s, torn := a } (400 * ((k + 1 : Nat) : Int))) := by
            have h := HOK.out
            exact ⟨h.1, by have := h.2.1; show f.steps ≤ _; push_cast; omega, HYS.out, h.2.2.2.1, h.2.2.2.2⟩
          have HXC := Lib.hid (HXI.out.more (show k ≤ k + 1 by omega))
          generalize ({ f with there := decide (0 ≤ s), left := s, torn := a } : Fl) = f9 at *
          go_wp2_with fail
          refine HP1.out.mono ?_
          rintro e w3 ⟨rfl, hp3⟩
          have HP3 := Lib.hid hp3
          obtain ⟨d0, d1, d2, d3, d4⟩ := HFB.out _ (HP3.out.at_box HBOX.out)
          clear hp3 c0 c1 c2 c3 c4
          go_wp2_with fail
          refine (HP2.out w3 HP3.out).mono ?_
          rintro e w4 ⟨rfl, hp4⟩
          have HPC := Lib.hid hp4.bare
          clear hp4 HP1 HP2 HP3 d0 d1 d2 d3 d4
          go_wp2_with fail
          go_meet
          case rel => exact ⟨false, gen, sz, x, f9, rfl, rfl, rfl, HPC, HXC, HOC, by omega, by omega, by omega⟩
        by_cases k1 : d = 1
        · subst k1
          have HOC : Hid (f.Ok (400 * ((k + 1 : Nat) : Int))) := Lib.hid (HOK.out.more (by push_cast; omega))
          have HXC := Lib.hid (HXI.out.more (show k ≤ k + 1 by omega))
          have HPC := Lib.hid HPB.out.bare
          obtain ⟨gn2, hgn2⟩ : ∃ g, (gen + 1) % 4294967296 = g := ⟨_, rfl⟩
          have hgl2 : gn2 < 4294967296 := by omega
          have HG2 : Hid (IntKind.u32.wrap ((gen : Int) + 1) = (gn2 : Int)) := Lib.hid (by rw [IntKind.wrap_u32]; omega)
          have HGM : Hid (((gen : Int) + 1) % 4294967296 = (gn2 : Int)) := Lib.hid (by omega)
          clear hgn2
          go_wp2_with (rw [HG2.out])
          go_meet
          case rel => exact ⟨true, gn2, sz, x, f, rfl, (by first | rfl | exact congrArg (Value.int IntKind.u32) HGM.out | exact congrArg (Value.int IntKind.u32) HG2.out), rfl, HPC, HXC, HOC, by omega, by omega, by omega⟩
        by_cases k2 : d = 2
        · subst k2
          have HOC : Hid (f.Ok (400 * ((k + 1 : Nat) : Int))) := Lib.hid (HOK.out.more (by push_cast; omega))
          have HXC := Lib.hid (HXI.out.more (show k ≤ k + 1 by omega))
          have HPC := Lib.hid HPB.out.bare
          go_wp2_with fail
          go_meet
          case rel => exact ⟨true, gen, sz, x, f, rfl, rfl, rfl, HPC, HXC, HOC, by omega, by omega, by omega⟩
        by_cases k3 : d = 3
        · subst k3
          have HOC : Hid (f.Ok (400 * ((k + 1 : Nat) : Int))) := Lib.hid (HOK.out.more (by push_cast; omega))
          have HXC := Lib.hid (HXI.out.more (show k ≤ k + 1 by omega))
          have HPC := Lib.hid HPB.out.bare
          obtain ⟨gn2, hgn2⟩ : ∃ g, (gen + 1) % 4294967296 = g := ⟨_, rfl⟩
          have hgl2 : gn2 < 4294967296 := by omega
          have HG2 : Hid (IntKind.u32.wrap ((gen : Int) + 1) = (gn2 : Int)) := Lib.hid (by rw [IntKind.wrap_u32]; omega)
          have HGM : Hid (((gen : Int) + 1) % 4294967296 = (gn2 : Int)) := Lib.hid (by omega)
          clear hgn2
          obtain ⟨p, hp, hnp⟩ := pick_in s 16 (by omega) (by omega)
          obtain ⟨sz2, hsz2⟩ : ∃ n : Nat, p + 1 = n := ⟨_, rfl⟩
          have hz1 : 1 ≤ sz2 := by omega
          have hz2 : sz2 ≤ 16 := by omega
          have HNP := Lib.hid hnp
          have HW1 : Hid (wrap64 (1 + (p : Int)) = (sz2 : Int)) := Lib.hid (by rw [IntWalk.wrap64_in _ ⟨by omega, by omega⟩]; omega)
          clear hnp hp hsz2
          go_upto_region 27 with fail
          have HFW : Hid (∀ W, Below W0.heap.size W0 W → W.cell? ⟨gc, 1, none⟩ = some (.int .i64 s)) := Lib.hid (fun W hW => (HFB.out W ((hW.block gc HPB.out.box_size).trans HBOX.out)).2.1)
          refine wp_region_noPanic ?_
          refine wp_region_held_drew (S := (fun W => Below W0.heap.size W0 W)) (by kernel_rfl) (Below.refl _ _).drew (fun hH0 => ?_)
          have hH0 : Below W0.heap.size W0 W0.drew := hH0
          generalize W0.drew = wd at *
          refine wpAnyH_take (i := 0) (oi := { dst := some 102, op := Op.move (Operand.tmp 2), type := 22, pos := "law.go:61", after := #[], guard := none }) (v := ?tkv3001) rfl (by kernel_rfl) (by kernel_rfl) (by kernel_rfl) (fun _ _ _ h => h) (Or.inl ⟨by rfl, ?tky3001⟩) hH0 ?tkr3001
          case tky3001 => (intro w' hSw; clear hSw; go_simp; try with_reducible rfl)
          try simp only [Act.put, List.setIfInBounds_toArray, List.set_cons_zero, List.set_cons_succ]
          refine wpAnyH_take (i := 1) (oi := { dst := some 103, op := Op.binOp BinOp.add 22 (Operand.tmp 102) (Operand.const (Value.int IntKind.u32 1)) 22, type := 22, pos := "law.go:61", after := #[{ on := 0, ground := Ground.data }], guard := none }) (v := ?tkv3002) rfl (by kernel_rfl) (by kernel_rfl) (by kernel_rfl) (fun _ _ _ h => h) (Or.inl ⟨by rfl, ?tky3002⟩) hH0 ?tkr3002
          case tky3002 => (intro w' hSw; clear hSw; go_simp; try with_reducible rfl)
          try simp only [Act.put, List.setIfInBounds_toArray, List.set_cons_zero, List.set_cons_succ]
          refine wpAnyH_take (i := 2) (oi := { dst := some 104, op := Op.fieldAddr 39 (Operand.tmp 16) 1, type := 0, pos := "law.go:61", after := #[{ on := 8, ground := Ground.gcOnly Departure.lateStores }], guard := none }) (v := ?tkv3003) rfl (by kernel_rfl) (by kernel_rfl) (by kernel_rfl) (fun _ _ _ h => h) (Or.inl ⟨by rfl, ?tky3003⟩) hH0 ?tkr3003
          case tky3003 => (intro w' hSw; clear hSw; go_simp; try with_reducible rfl)
          try simp only [Act.put, List.setIfInBounds_toArray, List.set_cons_zero, List.set_cons_succ]
          refine wpAnyH_take (i := 3) (oi := { dst := some 105, op := Op.load 3 (Operand.tmp 104), type := 3, pos := "law.go:61", after := #[{ on := 2, ground := Ground.data }, { on := 8, ground := Ground.gcOnly Departure.lateStores }], guard := none }) (v := ?tkv3004) rfl (by kernel_rfl) (by kernel_rfl) (by kernel_rfl) (fun _ _ _ h => h) (Or.inl ⟨by rfl, ?tky3004⟩) hH0 ?tkr3004
          case tky3004 => (intro w' hSw; have z0 := HFW.out _ hSw; clear hSw; go_simp; try with_reducible rfl)
          try simp only [Act.put, List.setIfInBounds_toArray, List.set_cons_zero, List.set_cons_succ]
          refine wpAnyH_take (i := 4) (oi := { dst := some 106, op := Op.convert 3 41 (Operand.tmp 105), type := 41, pos := "law.go:61", after := #[{ on := 3, ground := Ground.data }, { on := 8, ground := Ground.gcOnly Departure.lateStores }], guard := none }) (v := ?tkv3005) rfl (by kernel_rfl) (by kernel_rfl) (by kernel_rfl) (fun _ _ _ h => h) (Or.inl ⟨by rfl, ?tky3005⟩) hH0 ?tkr3005
          case tky3005 => (intro w' hSw; have z0 := HFW.out _ hSw; clear hSw; go_simp; try with_reducible rfl)
          try simp only [Act.put, List.setIfInBounds_toArray, List.set_cons_zero, List.set_cons_succ]
          refine wpAnyH_take (i := 5) (oi := { dst := some 107, op := Op.binOp BinOp.rem 41 (Operand.tmp 106) (Operand.const (Value.int IntKind.u64 16)) 41, type := 41, pos := "law.go:61", after := #[{ on := 4, ground := Ground.data }, { on := 8, ground := Ground.gcOnly Departure.lateStores }], guard := none }) (v := ?tkv3006) rfl (by kernel_rfl) (by kernel_rfl) (by kernel_rfl) (fun _ _ _ h => h) (Or.inl ⟨by rfl, ?tky3006⟩) hH0 ?tkr3006
          case tky3006 => (intro w' hSw; clear hSw; go_simp; try with_reducible rfl)
          try simp only [Act.put, List.setIfInBounds_toArray, List.set_cons_zero, List.set_cons_succ]
          refine wpAnyH_take (i := 6) (oi := { dst := some 108, op := Op.convert 41 3 (Operand.tmp 107), type := 3, pos := "law.go:61", after := #[{ on := 5, ground := Ground.data }, { on := 8, ground := Ground.gcOnly Departure.lateStores }], guard := none }) (v := ?tkv3007) rfl (by kernel_rfl) (by kernel_rfl) (by kernel_rfl) (fun _ _ _ h => h) (Or.inl ⟨by rfl, ?tky3007⟩) hH0 ?tkr3007
          case tky3007 => (intro w' hSw; have z0 := HFW.out _ hSw; clear hSw; go_simp; try with_reducible rfl)
          try simp only [Act.put, List.setIfInBounds_toArray, List.set_cons_zero, List.set_cons_succ]
          refine wpAnyH_take (i := 7) (oi := { dst := some 109, op := Op.binOp BinOp.add 3 (Operand.const (Value.int IntKind.i64 1)) (Operand.tmp 108) 3, type := 3, pos := "law.go:61", after := #[{ on := 6, ground := Ground.data }, { on := 8, ground := Ground.gcOnly Departure.lateStores }], guard := none }) (v := ?tkv3008) rfl (by kernel_rfl) (by kernel_rfl) (by kernel_rfl) (fun _ _ _ h => h) (Or.inl ⟨by rfl, ?tky3008⟩) hH0 ?tkr3008
          case tky3008 => (intro w' hSw; clear hSw; go_simp; try with_reducible rfl)
          try simp only [Act.put, List.setIfInBounds_toArray, List.set_cons_zero, List.set_cons_succ]
          refine wpAnyH_take (i := 8) (oi := { dst := some 2, op := Op.assign (Operand.tmp 103), type := 22, pos := "law.go:61", after := #[{ on := 1, ground := Ground.data }, { on := 0, ground := Ground.phase }, { on := 1, ground := Ground.phase }, { on := 2, ground := Ground.textOnly Departure.lateStores }, { on := 3, ground := Ground.textOnly Departure.lateStores }, { on := 4, ground := Ground.textOnly Departure.lateStores }, { on := 5, ground := Ground.textOnly Departure.lateStores }, { on := 6, ground := Ground.textOnly Departure.lateStores }, { on := 7, ground := Ground.textOnly Departure.lateStores }], guard := none }) (v := ?tkv3009) rfl (by kernel_rfl) (by kernel_rfl) (by kernel_rfl) (fun _ _ _ h => h) (Or.inl ⟨by rfl, ?tky3009⟩) hH0 ?tkr3009
          case tky3009 => (intro w' hSw; clear hSw; go_simp; try with_reducible rfl)
          try simp only [Act.put, List.setIfInBounds_toArray, List.set_cons_zero, List.set_cons_succ]
          refine wpAnyH_take (i := 9) (oi := { dst := some 1, op := Op.assign (Operand.tmp 109), type := 3, pos := "law.go:61", after := #[{ on := 7, ground := Ground.data }, { on := 8, ground := Ground.chain }, { on := 0, ground := Ground.phase }, { on := 1, ground := Ground.phase }, { on := 2, ground := Ground.phase }, { on := 3, ground := Ground.phase }, { on := 4, ground := Ground.phase }, { on := 5, ground := Ground.phase }, { on := 6, ground := Ground.phase }, { on := 7, ground := Ground.phase }, { on := 8, ground := Ground.phase }], guard := none }) (v := ?tkv3010) rfl (by kernel_rfl) (by kernel_rfl) (by kernel_rfl) (fun _ _ _ h => h) (Or.inl ⟨by rfl, ?tky3010⟩) hH0 ?tkr3010
          case tky3010 => (intro w' hSw; clear hSw; go_simp; try with_reducible rfl)
          try simp only [Act.put, List.setIfInBounds_toArray, List.set_cons_zero, List.set_cons_succ]
          refine wpAnyH_take (i := 10) (oi := { dst := some 17, op := Op.assign (Operand.const (Value.bool true)), type := 4, pos := "law.go:61", after := #[{ on := 9, ground := Ground.chain }, { on := 0, ground := Ground.phase }, { on := 1, ground := Ground.phase }, { on := 2, ground := Ground.phase }, { on := 3, ground := Ground.phase }, { on := 4, ground := Ground.phase }, { on := 5, ground := Ground.phase }, { on := 6, ground := Ground.phase }, { on := 7, ground := Ground.phase }, { on := 8, ground := Ground.phase }, { on := 9, ground := Ground.phase }], guard := none }) (v := ?tkv3011) rfl (by kernel_rfl) (by kernel_rfl) (by kernel_rfl) (fun _ _ _ h => h) (Or.inl ⟨by rfl, ?tky3011⟩) hH0 ?tkr3011
          case tky3011 => (intro w' hSw; clear hSw; go_simp; try with_reducible rfl)
          try simp only [Act.put, List.setIfInBounds_toArray, List.set_cons_zero, List.set_cons_succ]
          refine wpAnyH_done (by kernel_rfl) ?_ _
          refine NoPanic.normal ?_
          have hEnd : Below W0.heap.size W0 _ := hH0
          have HPC := Lib.hid (HPB.out.below hEnd).bare
          (try rw [HG2.out]); (try rw [HNP.out]); (try rw [HW1.out])
          go_wp2_with fail
          go_meet
          case rel => exact ⟨true, gn2, sz2, x, f, (by rw [IntWalk.i64_left, IntWalk.i64_left, HNP.out, HW1.out]), (by first | rfl | exact congrArg (Value.int IntKind.u32) HGM.out | exact congrArg (Value.int IntKind.u32) HG2.out), rfl, HPC, HXC, HOC, by omega, by omega, by omega⟩
        have HC1 := Lib.hid (fun W (hW : PS w W0 (fun b => b = gc) gf gm gB gw gr x f x f W) => px_add hW HXI.out.ok _ HOK.out (by omega) yn ym yc yA yl HROW.out (by omega) HYN.out)
        have HC2 := Lib.hid (fun W (hW : PS w W0 (fun b => b = gc) gf gm gB gw gr (x.add f yn yl).1 (x.add f yn yl).2.1 x f W) => px_radd hW HXI.out.ok _ HOK.out (by omega) yn ym yc yA yl HROW.out (by omega) HYN.out)
        have HXC := Lib.hid (HXI.out.add (by omega) f yn yl)
        have HOC : Hid ((x.add f yn yl).2.1.Ok (400 * ((k + 1 : Nat) : Int))) := Lib.hid ((HOK.out.addW x yn yl (by have := HROW.out.blen; omega)).more (by push_cast; omega))
        obtain ⟨x9, f9, r9, hE⟩ : ∃ x9 f9 r9, x.add f yn yl = (x9, f9, r9) := ⟨_, _, _, rfl⟩
        rw [hE] at HC1 HC2 HXC HOC
        dsimp only at HC1 HC2 HXC HOC
        have hr9 : (r9 != r9) = false := by simp
        clear hE
        go_upto_region 15 with fail
        have HSTA : Hid (PS w W0 (fun b => b = gc) gf gm gB gw gr x f x f W0.drew) := Lib.hid (HPB.out.below (Below.refl _ _).drew)
        refine wp_region_noPanic ?_
        refine wp_region_held_drew (S := (fun W => BoxW gc CS W)) (by kernel_rfl) HBOX.out (fun hH0 => ?_)
        have hH0 : BoxW gc CS W0.drew := hH0
        generalize W0.drew = wd1100 at *
        refine wpAnyH_take (i := 0) (oi := { dst := some 63, op := Op.move (Operand.tmp 11), type := 30, pos := "law.go:63", after := #[], guard := none }) (v := ?tkv1101) rfl (by kernel_rfl) (by kernel_rfl) (by kernel_rfl) (fun _ _ _ h => h) (Or.inl ⟨by rfl, ?tky1101⟩) hH0 ?tkr1101
        case tky1101 => (intro w' hSw; clear hSw; go_simp; try with_reducible rfl)
        try simp only [Act.put, List.setIfInBounds_toArray, List.set_cons_zero, List.set_cons_succ]
        refine wpAnyH_take (i := 1) (oi := { dst := some 64, op := Op.fieldAddr 39 (Operand.tmp 16) 3, type := 0, pos := "law.go:63", after := #[], guard := none }) (v := ?tkv1102) rfl (by kernel_rfl) (by kernel_rfl) (by kernel_rfl) (fun _ _ _ h => h) (Or.inl ⟨by rfl, ?tky1102⟩) hH0 ?tkr1102
        case tky1102 => (intro w' hSw; clear hSw; go_simp; try with_reducible rfl)
        try simp only [Act.put, List.setIfInBounds_toArray, List.set_cons_zero, List.set_cons_succ]
        refine wpAnyH_take (i := 2) (oi := { dst := some 65, op := Op.load 22 (Operand.tmp 64), type := 22, pos := "law.go:63", after := #[{ on := 1, ground := Ground.data }], guard := none }) (v := ?tkv1103) rfl (by kernel_rfl) (by kernel_rfl) (by kernel_rfl) (fun _ _ _ h => h) (Or.inl ⟨by rfl, ?tky1103⟩) hH0 ?tkr1103
        case tky1103 => (intro w' hSw; have z0 := HFB.out _ hSw; clear hSw; go_simp; try with_reducible rfl)
        try simp only [Act.put, List.setIfInBounds_toArray, List.set_cons_zero, List.set_cons_succ]
        refine wpAnyH_take (i := 3) (oi := { dst := some 66, op := Op.fieldAddr 39 (Operand.tmp 16) 4, type := 0, pos := "law.go:63", after := #[], guard := none }) (v := ?tkv1104) rfl (by kernel_rfl) (by kernel_rfl) (by kernel_rfl) (fun _ _ _ h => h) (Or.inl ⟨by rfl, ?tky1104⟩) hH0 ?tkr1104
        case tky1104 => (intro w' hSw; clear hSw; go_simp; try with_reducible rfl)
        try simp only [Act.put, List.setIfInBounds_toArray, List.set_cons_zero, List.set_cons_succ]
        refine wpAnyH_take (i := 4) (oi := { dst := some 67, op := Op.load 37 (Operand.tmp 66), type := 37, pos := "law.go:63", after := #[{ on := 3, ground := Ground.data }], guard := none }) (v := ?tkv1105) rfl (by kernel_rfl) (by kernel_rfl) (by kernel_rfl) (fun _ _ _ h => h) (Or.inl ⟨by rfl, ?tky1105⟩) hH0 ?tkr1105
        case tky1105 => (intro w' hSw; have z0 := HFB.out _ hSw; clear hSw; go_simp; try with_reducible rfl)
        try simp only [Act.put, List.setIfInBounds_toArray, List.set_cons_zero, List.set_cons_succ]
        refine wpAnyH_take (i := 6) (oi := { dst := some 69, op := Op.move (Operand.tmp 13), type := 34, pos := "law.go:63", after := #[], guard := none }) (v := ?tkv1106) rfl (by kernel_rfl) (by kernel_rfl) (by kernel_rfl) (fun _ _ _ h => h) (Or.inl ⟨by rfl, ?tky1106⟩) hH0 ?tkr1106
        case tky1106 => (intro w' hSw; clear hSw; go_simp; try with_reducible rfl)
        try simp only [Act.put, List.setIfInBounds_toArray, List.set_cons_zero, List.set_cons_succ]
        refine wpAnyH_take (i := 7) (oi := { dst := some 70, op := Op.fieldAddr 39 (Operand.tmp 16) 3, type := 0, pos := "law.go:63", after := #[], guard := none }) (v := ?tkv1107) rfl (by kernel_rfl) (by kernel_rfl) (by kernel_rfl) (fun _ _ _ h => h) (Or.inl ⟨by rfl, ?tky1107⟩) hH0 ?tkr1107
        case tky1107 => (intro w' hSw; clear hSw; go_simp; try with_reducible rfl)
        try simp only [Act.put, List.setIfInBounds_toArray, List.set_cons_zero, List.set_cons_succ]
        refine wpAnyH_take (i := 8) (oi := { dst := some 71, op := Op.load 22 (Operand.tmp 70), type := 22, pos := "law.go:63", after := #[{ on := 7, ground := Ground.data }], guard := none }) (v := ?tkv1108) rfl (by kernel_rfl) (by kernel_rfl) (by kernel_rfl) (fun _ _ _ h => h) (Or.inl ⟨by rfl, ?tky1108⟩) hH0 ?tkr1108
        case tky1108 => (intro w' hSw; have z0 := HFB.out _ hSw; clear hSw; go_simp; try with_reducible rfl)
        try simp only [Act.put, List.setIfInBounds_toArray, List.set_cons_zero, List.set_cons_succ]
        refine wpAnyH_take (i := 9) (oi := { dst := some 72, op := Op.fieldAddr 39 (Operand.tmp 16) 4, type := 0, pos := "law.go:63", after := #[], guard := none }) (v := ?tkv1109) rfl (by kernel_rfl) (by kernel_rfl) (by kernel_rfl) (fun _ _ _ h => h) (Or.inl ⟨by rfl, ?tky1109⟩) hH0 ?tkr1109
        case tky1109 => (intro w' hSw; clear hSw; go_simp; try with_reducible rfl)
        try simp only [Act.put, List.setIfInBounds_toArray, List.set_cons_zero, List.set_cons_succ]
        refine wpAnyH_take (i := 10) (oi := { dst := some 73, op := Op.load 37 (Operand.tmp 72), type := 37, pos := "law.go:63", after := #[{ on := 9, ground := Ground.data }], guard := none }) (v := ?tkv1110) rfl (by kernel_rfl) (by kernel_rfl) (by kernel_rfl) (fun _ _ _ h => h) (Or.inl ⟨by rfl, ?tky1110⟩) hH0 ?tkr1110
        case tky1110 => (intro w' hSw; have z0 := HFB.out _ hSw; clear hSw; go_simp; try with_reducible rfl)
        try simp only [Act.put, List.setIfInBounds_toArray, List.set_cons_zero, List.set_cons_succ]
        refine wpAnyH_ready (rs := [5]) (by kernel_rfl) (by simp) ?_
        refine AllReadyH.cons (o := { dst := some 68, op := Op.call { callee := Callee.value (Operand.func 12), args := #[Operand.tmp 63, Operand.tmp 65, Operand.tmp 67], argTypes := #[30, 22, 37] }, type := 31, pos := "law.go:63", after := #[{ on := 0, ground := Ground.data }, { on := 2, ground := Ground.data }, { on := 4, ground := Ground.data }], guard := none }) rfl (fun K hK => ?_) AllReadyH.nil
        go_simp
        refine (HC1.out _ HSTA.out).mono ?_
        rintro e' wa ⟨rfl, hst⟩
        have HSTB := Lib.hid hst
        clear hst
        go_simp
        have hS1111 : BoxW gc CS wa := (HSTB.out.at_box HBOX.out)
        refine hK.out _ _ hS1111 (fun hH1111 => ?_)
        have hH1111 : BoxW gc CS wa := hH1111
        clear hK K hS1111
        try simp only [Act.put, List.setIfInBounds_toArray, List.set_cons_zero, List.set_cons_succ]
        refine wpAnyH_ready (rs := [11]) (by kernel_rfl) (by simp) ?_
        refine AllReadyH.cons (o := { dst := some 74, op := Op.call { callee := Callee.value (Operand.func 13), args := #[Operand.tmp 69, Operand.tmp 71, Operand.tmp 73], argTypes := #[34, 22, 37] }, type := 31, pos := "law.go:63", after := #[{ on := 6, ground := Ground.data }, { on := 8, ground := Ground.data }, { on := 10, ground := Ground.data }, { on := 5, ground := Ground.chain }], guard := none }) rfl (fun K hK => ?_) AllReadyH.nil
        go_simp
        refine (HC2.out _ HSTB.out).mono ?_
        rintro e' wb ⟨rfl, hst⟩
        have HSTC := Lib.hid hst
        clear hst
        go_simp
        have hS1112 : BoxW gc CS wb := (HSTC.out.at_box HBOX.out)
        refine hK.out _ _ hS1112 (fun hH1112 => ?_)
        have hH1112 : BoxW gc CS wb := hH1112
        clear hK K hS1112
        try simp only [Act.put, List.setIfInBounds_toArray, List.set_cons_zero, List.set_cons_succ]
        refine wpAnyH_take (i := 12) (oi := { dst := some 18, op := Op.assign (Operand.tmp 68), type := 31, pos := "law.go:63", after := #[{ on := 5, ground := Ground.data }, { on := 11, ground := Ground.chain }, { on := 0, ground := Ground.phase }, { on := 1, ground := Ground.phase }, { on := 2, ground := Ground.phase }, { on := 3, ground := Ground.phase }, { on := 4, ground := Ground.phase }, { on := 5, ground := Ground.phase }, { on := 6, ground := Ground.textOnly Departure.lateStores }, { on := 7, ground := Ground.textOnly Departure.lateStores }, { on := 8, ground := Ground.textOnly Departure.lateStores }, { on := 9, ground := Ground.textOnly Departure.lateStores }, { on := 10, ground := Ground.textOnly Departure.lateStores }, { on := 11, ground := Ground.textOnly Departure.lateStoresUnsure }], guard := none }) (v := ?tkv1113) rfl (by kernel_rfl) (by kernel_rfl) (by kernel_rfl) (fun _ _ _ h => h) (Or.inl ⟨by rfl, ?tky1113⟩) hH1112 ?tkr1113
        case tky1113 => (intro w' hSw; clear hSw; go_simp; try with_reducible rfl)
        try simp only [Act.put, List.setIfInBounds_toArray, List.set_cons_zero, List.set_cons_succ]
        refine wpAnyH_take (i := 13) (oi := { dst := some 19, op := Op.assign (Operand.tmp 74), type := 31, pos := "law.go:63", after := #[{ on := 11, ground := Ground.data }, { on := 12, ground := Ground.chain }, { on := 0, ground := Ground.phase }, { on := 1, ground := Ground.phase }, { on := 2, ground := Ground.phase }, { on := 3, ground := Ground.phase }, { on := 4, ground := Ground.phase }, { on := 5, ground := Ground.phase }, { on := 6, ground := Ground.phase }, { on := 7, ground := Ground.phase }, { on := 8, ground := Ground.phase }, { on := 9, ground := Ground.phase }, { on := 10, ground := Ground.phase }, { on := 11, ground := Ground.phase }, { on := 12, ground := Ground.phase }], guard := none }) (v := ?tkv1114) rfl (by kernel_rfl) (by kernel_rfl) (by kernel_rfl) (fun _ _ _ h => h) (Or.inl ⟨by rfl, ?tky1114⟩) hH1112 ?tkr1114
        case tky1114 => (intro w' hSw; clear hSw; go_simp; try with_reducible rfl)
        try simp only [Act.put, List.setIfInBounds_toArray, List.set_cons_zero, List.set_cons_succ]
        refine wpAnyH_done (by kernel_rfl) ?_ _
        refine NoPanic.normal ?_
        have HPC := Lib.hid HSTC.out.bare
        clear HSTC
        go_wp2_with fail
        go_meet
        case rel => exact ⟨_, gen, sz, x9, f9, rfl, rfl, rfl, HPC, HXC, HOC, by omega, by omega, by omega⟩
      case rest =>
        clear c0 c1 c2 c3 c4 HFB HBOX HPB HXI HOK hgen hz1 hz2
        obtain ⟨an, gen8, sz8, x8, f8, rfl, rfl, rfl, HP8, HX8, HO8, hg8, hz81, hz82⟩ := hcut
        generalize wc = w8 at *
        go_upto_if 110 with fail
        go_cut [11, 12, 13, 14] (fun s11 s12 s13 s14 wx => ∃ (gw9 gr9 : Nat) (e19 e29 : Int) (x9 : Wh) (f9 : Fl), s11 = .pointer (some ⟨gw9, 0, none⟩) ∧ s12 = .int .i64 e19 ∧ s13 = .pointer (some ⟨gr9, 0, none⟩) ∧ s14 = .int .i64 e29 ∧ Hid (PS w w (fun _ => False) gf gm gB gw9 gr9 x9 f9 x9 f9 wx) ∧ Hid (XI (k + 1) x9) ∧ Hid (f9.Ok (400 * ((k + 1 : Nat) : Int))))
        case first =>
          cases an with
          | true =>
            have HS1 := Lib.hid (px_start HP8.out)
            have HS2 := Lib.hid (fun W (hW : PS w w (fun _ => False) gf gm gB gw gr x8 { f8 with down := false } x8 f8 W) => px_rstart hW)
            have hdn : ({ f8 with down := false } : Fl).down = false := rfl
            have HOD : Hid (Fl.Ok { f8 with down := false } (400 * ((k + 1 : Nat) : Int))) := HO8
            generalize ({ f8 with down := false } : Fl) = f9 at *
            have HS3 := Lib.hid (fun W (hW : PS w w (fun _ => False) gf gm gB gw gr x8 f9 x8 f9 W) => px_open hW hdn gen8 sz8 hz81 hz82)
            have HS4 := Lib.hid (fun gw9 W (hW : PS w w (fun _ => False) gf gm gB gw9 gr (opW f9 gen8 sz8 8) f9 x8 f9 W) => px_ropen hW hdn gen8 sz8 hz81 hz82)
            have HXD := Lib.hid (XI.opW f9 gen8 sz8 (k + 1) hg8 hz81 hz82)
            generalize opW f9 gen8 sz8 8 = x9 at *
            clear hdn HO8 HX8
            go_wp2_with fail
            refine HS1.out.mono ?_
            rintro e w3 ⟨rfl, hp3⟩
            have HP3 := Lib.hid hp3
            clear hp3 HS1 HP8
            go_wp2_with fail
            refine (HS2.out w3 HP3.out).mono ?_
            rintro e w4 ⟨rfl, hp4⟩
            have HP4 := Lib.hid hp4
            clear hp4 HS2 HP3
            go_wp2_with fail
            refine (HS3.out w4 HP4.out).mono ?_
            rintro e w5 ⟨gw9, rfl, hp5⟩
            have HP5 := Lib.hid hp5
            clear hp5 HS3 HP4
            go_wp2_with fail
            refine (HS4.out gw9 w5 HP5.out).mono ?_
            rintro e w6 ⟨gr9, rfl, hp6⟩
            have HP6 := Lib.hid hp6
            clear hp6 HS4 HP5
            go_wp2_with fail
            go_meet
            case rel => exact ⟨gw9, gr9, 0, 0, x9, f9, rfl, rfl, rfl, rfl, HP6, HXD, HOD⟩
          | false =>
            go_wp2_with fail
            go_meet
            case rel => exact ⟨gw, gr, e1, e2, x8, f8, rfl, rfl, rfl, rfl, HP8, HX8, HO8⟩
        case rest =>
          clear HP8 HX8 HO8
          obtain ⟨gw9, gr9, e19, e29, x9, f9, rfl, rfl, rfl, rfl, HP9, HXC, HOC⟩ := hcut
          obtain ⟨wc2, hwc2⟩ : ∃ W : World, W = wc := ⟨_, rfl⟩
          rw [← hwc2] at HP9 ⊢
          clear hwc2
          obtain ⟨wx, rfl⟩ : ∃ W : World, W = wc2 := ⟨_, rfl⟩
          obtain ⟨Po, Pr, hpx⟩ := id HP9.out
          obtain ⟨Ar, nr, cr, er, hgr, -, -, -, hrw, her⟩ := id hpx.rh
          have HRW := Lib.hid hrw
          have HER := Lib.hid her
          have hsz9 := HXC.out.ok.size1
          have hsz92 := HXC.out.ok.size2
          have HNR : Hid (nr ≤ 1000000) := Lib.hid (by
            have e1 := hrw.2.2.1
            have e2 := congrArg List.length her
            rw [List.length_map] at e2
            have := HXC.out.ok.many
            omega)
          have HRC := Lib.hid (fun W (hW : Below wx.heap.size wx W) => recs_any Po gw9 gf x9 W (hpx.wh.below hW) (fun p hp => by have := HXC.out.len p hp; omega) HXC.out.ok.many)
          have HRO : Hid (∀ W, Below wx.heap.size wx W → Calls Try.prog 18 #[.pointer (some ⟨gw9, 0, none⟩)] W fun e W' => e = .returned (.int .i64 ((x9.room : Nat) : Int)) ∧ Below W.heap.size W W') := Lib.hid (fun W hW => (wroom_any (hpx.wh.below hW) HXC.out.ok).mono (by
            rintro e W' ⟨rfl, q, rfl⟩
            exact ⟨rfl, drewN_below W q⟩))
          have HRR : Hid (∀ W, Below wx.heap.size wx W → Calls Try.prog 19 #[.pointer (some ⟨gr9, 0, none⟩)] W fun e W' => e = .returned (.int .i64 ((x9.room : Nat) : Int)) ∧ Below W.heap.size W W') := Lib.hid (fun W hW => (rwroom_any (hpx.rh.below hW) HXC.out.ok).mono (by
            rintro e W' ⟨rfl, q, rfl⟩
            exact ⟨rfl, drewN_below W q⟩))
          have HBY := Lib.hid (fun W (hW : Below wx.heap.size wx W) => bytes_any gf f9 W (hpx.fl.below hW))
          have hrb : Row wx wx.heap.size (some ⟨gB, 0, none⟩) 3584 (bv (f9.sub 0 3584)) := hpx.rf.2.1.row (a := 0) (n := 3584) (by omega)
          have HF35 : Hid (∀ W, Below wx.heap.size wx W → W.cell? ⟨gr9, 3, none⟩ = some (.slice Ar nr cr) ∧ W.cell? ⟨gm, 0, none⟩ = some (.slice (some ⟨gB, 0, none⟩) 3584 3584) ∧ (convert 37 9 (.slice (some ⟨gB, 0, none⟩) 3584 3584)).run Try.prog W = .ok (.string ⟨(f9.sub 0 3584).toArray⟩) W) := Lib.hid fun W hW =>
            ⟨(rwc6 ((hW.block gr9 hpx.rh.lt).trans hgr)).2.2.2.1, (hpx.rf.below hW).slot0, conv_row _ hrb (Nat.le_refl _) W hW⟩
          obtain ⟨rm9, hrm9⟩ : ∃ r, x9.room = r := ⟨_, rfl⟩
          rw [hrm9] at HRO HRR
          have hrmb : ((rm9 : Int) != (rm9 : Int)) = false := bne_self_eq_false _
          clear hrb hrm9 hgr hrw her hpx
          go_upto_region 35 with fail
          refine wp_region_noPanic ?_
          refine wp_region_held_drew (S := (fun W => Below wx.heap.size wx W)) (by kernel_rfl) (Below.refl _ _).drew (fun hH0 => ?_)
          have hH0 : Below wx.heap.size wx wx.drew := hH0
          generalize wx.drew = wd at *
          refine wpAnyH_take (i := 0) (oi := { dst := some 135, op := Op.move (Operand.tmp 11), type := 30, pos := "law.go:78", after := #[], guard := none }) (v := ?tkv5001) rfl (by kernel_rfl) (by kernel_rfl) (by kernel_rfl) (fun _ _ _ h => h) (Or.inl ⟨by rfl, ?tky5001⟩) hH0 ?tkr5001
          case tky5001 => (intro w' hSw; clear hSw; go_simp; try with_reducible rfl)
          try simp only [Act.put, List.setIfInBounds_toArray, List.set_cons_zero, List.set_cons_succ]
          refine wpAnyH_take (i := 2) (oi := { dst := some 137, op := Op.move (Operand.tmp 13), type := 34, pos := "law.go:78", after := #[], guard := none }) (v := ?tkv5002) rfl (by kernel_rfl) (by kernel_rfl) (by kernel_rfl) (fun _ _ _ h => h) (Or.inl ⟨by rfl, ?tky5002⟩) hH0 ?tkr5002
          case tky5002 => (intro w' hSw; clear hSw; go_simp; try with_reducible rfl)
          try simp only [Act.put, List.setIfInBounds_toArray, List.set_cons_zero, List.set_cons_succ]
          refine wpAnyH_take (i := 3) (oi := { dst := some 138, op := Op.nilCheck (Operand.tmp 137), type := 0, pos := "law.go:78", after := #[{ on := 2, ground := Ground.data }], guard := none }) (v := ?tkv5003) rfl (by kernel_rfl) (by kernel_rfl) (by kernel_rfl) (fun _ _ _ h => h) (Or.inl ⟨by rfl, ?tky5003⟩) hH0 ?tkr5003
          case tky5003 => (intro w' hSw; clear hSw; go_simp; try with_reducible rfl)
          try simp only [Act.put, List.setIfInBounds_toArray, List.set_cons_zero, List.set_cons_succ]
          refine wpAnyH_take (i := 4) (oi := { dst := some 139, op := Op.fieldAddr 47 (Operand.tmp 138) 3, type := 0, pos := "law.go:78", after := #[{ on := 3, ground := Ground.data }], guard := none }) (v := ?tkv5004) rfl (by kernel_rfl) (by kernel_rfl) (by kernel_rfl) (fun _ _ _ h => h) (Or.inl ⟨by rfl, ?tky5004⟩) hH0 ?tkr5004
          case tky5004 => (intro w' hSw; clear hSw; go_simp; try with_reducible rfl)
          try simp only [Act.put, List.setIfInBounds_toArray, List.set_cons_zero, List.set_cons_succ]
          refine wpAnyH_take (i := 5) (oi := { dst := some 140, op := Op.load 44 (Operand.tmp 139), type := 44, pos := "law.go:78", after := #[{ on := 4, ground := Ground.data }], guard := none }) (v := ?tkv5005) rfl (by kernel_rfl) (by kernel_rfl) (by kernel_rfl) (fun _ _ _ h => h) (Or.inl ⟨by rfl, ?tky5005⟩) hH0 ?tkr5005
          case tky5005 => (intro w' hSw; have z0 := HF35.out _ hSw; clear hSw; go_simp; try with_reducible rfl)
          try simp only [Act.put, List.setIfInBounds_toArray, List.set_cons_zero, List.set_cons_succ]
          refine wpAnyH_ready (rs := [1]) (by kernel_rfl) (by simp) ?_
          refine AllReadyH.cons (o := { dst := some 136, op := Op.call { callee := Callee.value (Operand.func 17), args := #[Operand.tmp 135], argTypes := #[30] }, type := 44, pos := "law.go:78", after := #[{ on := 0, ground := Ground.data }], guard := none }) rfl (fun K hK => ?_) AllReadyH.nil
          go_simp
          refine (HRC.out _ hH0).mono ?_
          rintro e' wrc ⟨A6, n6, c6, es6, rfl, hr6, hm6, hb1'⟩
          have hb1 := hb1'.out
          have HM6 := Lib.hid (hm6.out.trans HER.out.symm)
          obtain rfl : n6 = nr := by
            have e1 := hr6.out.2.2.1
            have e2 := congrArg List.length HM6.out
            simp only [List.length_map] at e2
            have e3 := HRW.out.2.2.1
            omega
          have HR6 := Lib.hid hr6.out
          clear hr6 hm6
          go_simp
          refine hK.out _ _ ((hH0).trans (hb1.mono (hH0).size)) (fun hH5006 => ?_)
          clear hK K
          try simp only [Act.put, List.setIfInBounds_toArray, List.set_cons_zero, List.set_cons_succ]
          have hG5006 : (fun W => Below wx.heap.size wx W ∧ Below wrc.heap.size wrc W) wrc := ⟨hH5006, Below.refl _ _⟩
          refine wpAnyH_grow (S' := (fun W => Below wx.heap.size wx W ∧ Below wrc.heap.size wrc W)) (fun _ h => h.1) _ _ _ _ ?_
          refine wpAnyH_ready (rs := [6]) (by kernel_rfl) (by simp) ?_
          refine AllReadyH.cons (o := { dst := some 141, op := Op.call { callee := Callee.value (Operand.func 16), args := #[Operand.tmp 136, Operand.tmp 140], argTypes := #[44, 44] }, type := 4, pos := "law.go:78", after := #[{ on := 1, ground := Ground.data }, { on := 5, ground := Ground.data }, { on := 1, ground := Ground.chain }], guard := none }) rfl (fun K hK => ?_) AllReadyH.nil
          go_simp
          refine (wsame_yes _ _ n6 c6 cr A6 Ar es6 er wrc (HR6.out.below hG5006.2) (HRW.out.below hG5006.1) HM6.out HNR.out).mono ?_
          rintro e' wsm ⟨rfl, hb6'⟩
          have hb6 := hb6'.out
          go_simp
          refine hK.out _ _ (⟨(hG5006.1).trans (hb6.mono (hG5006.1).size), (hG5006.2).trans (hb6.mono (hG5006.2).size)⟩) (fun hH5007 => ?_)
          clear hK K
          try simp only [Act.put, List.setIfInBounds_toArray, List.set_cons_zero, List.set_cons_succ]
          have hG5007 : (fun W => Below wx.heap.size wx W ∧ Below wrc.heap.size wrc W ∧ Below wsm.heap.size wsm W) wsm := ⟨hH5007.1, hH5007.2, Below.refl _ _⟩
          refine wpAnyH_grow (S' := (fun W => Below wx.heap.size wx W ∧ Below wrc.heap.size wrc W ∧ Below wsm.heap.size wsm W)) (fun _ h => ⟨h.1, h.2.1⟩) _ _ _ _ ?_
          refine wpAnyH_take (i := 7) (oi := { dst := some 142, op := Op.unOp UnOp.not 4 (Operand.tmp 141), type := 4, pos := "law.go:78", after := #[{ on := 6, ground := Ground.data }], guard := none }) (v := ?tkv5008) rfl (by kernel_rfl) (by kernel_rfl) (by kernel_rfl) (fun _ _ _ h => h) (Or.inl ⟨by rfl, ?tky5008⟩) hG5007 ?tkr5008
          case tky5008 => (intro w' hSw; clear hSw; go_simp; try with_reducible rfl)
          try simp only [Act.put, List.setIfInBounds_toArray, List.set_cons_zero, List.set_cons_succ]
          refine wpAnyH_take (i := 8) (oi := { dst := some 143, op := Op.move (Operand.tmp 142), type := 4, pos := "law.go:78", after := #[{ on := 7, ground := Ground.data }, { on := 6, ground := Ground.chain }], guard := none }) (v := ?tkv5009) rfl (by kernel_rfl) (by kernel_rfl) (by kernel_rfl) (fun _ _ _ h => h) (Or.inl ⟨by rfl, ?tky5009⟩) hG5007 ?tkr5009
          case tky5009 => (intro w' hSw; clear hSw; go_simp; try with_reducible rfl)
          try simp only [Act.put, List.setIfInBounds_toArray, List.set_cons_zero, List.set_cons_succ]
          refine wpAnyH_take (i := 9) (oi := { dst := some 144, op := Op.move (Operand.tmp 11), type := 30, pos := "law.go:78", after := #[{ on := 8, ground := Ground.guard }], guard := some (8, false) }) (v := ?tkv5010) rfl (by kernel_rfl) (by kernel_rfl) (by kernel_rfl) (fun _ _ _ h => h) (Or.inl ⟨by rfl, ?tky5010⟩) hG5007 ?tkr5010
          case tky5010 => (intro w' hSw; clear hSw; go_simp; try with_reducible rfl)
          try simp only [Act.put, List.setIfInBounds_toArray, List.set_cons_zero, List.set_cons_succ]
          refine wpAnyH_take (i := 11) (oi := { dst := some 146, op := Op.move (Operand.tmp 13), type := 34, pos := "law.go:78", after := #[{ on := 8, ground := Ground.guard }], guard := some (8, false) }) (v := ?tkv5011) rfl (by kernel_rfl) (by kernel_rfl) (by kernel_rfl) (fun _ _ _ h => h) (Or.inl ⟨by rfl, ?tky5011⟩) hG5007 ?tkr5011
          case tky5011 => (intro w' hSw; clear hSw; go_simp; try with_reducible rfl)
          try simp only [Act.put, List.setIfInBounds_toArray, List.set_cons_zero, List.set_cons_succ]
          refine wpAnyH_ready (rs := [10]) (by kernel_rfl) (by simp) ?_
          refine AllReadyH.cons (o := { dst := some 145, op := Op.call { callee := Callee.value (Operand.func 18), args := #[Operand.tmp 144], argTypes := #[30] }, type := 3, pos := "law.go:78", after := #[{ on := 9, ground := Ground.data }, { on := 8, ground := Ground.chain }, { on := 8, ground := Ground.guard }], guard := some (8, false) }) rfl (fun K hK => ?_) AllReadyH.nil
          go_simp
          refine (HRO.out _ hG5007.1).mono ?_
          rintro e' wro ⟨rfl, hb10⟩
          go_simp
          refine hK.out _ _ (⟨(hG5007.1).trans (hb10.mono (hG5007.1).size), (hG5007.2.1).trans (hb10.mono (hG5007.2.1).size), (hG5007.2.2).trans (hb10.mono (hG5007.2.2).size)⟩) (fun hH5012 => ?_)
          clear hK K
          try simp only [Act.put, List.setIfInBounds_toArray, List.set_cons_zero, List.set_cons_succ]
          have hG5012 : (fun W => Below wx.heap.size wx W ∧ Below wrc.heap.size wrc W ∧ Below wsm.heap.size wsm W ∧ Below wro.heap.size wro W) wro := ⟨hH5012.1, hH5012.2.1, hH5012.2.2, Below.refl _ _⟩
          refine wpAnyH_grow (S' := (fun W => Below wx.heap.size wx W ∧ Below wrc.heap.size wrc W ∧ Below wsm.heap.size wsm W ∧ Below wro.heap.size wro W)) (fun _ h => ⟨h.1, h.2.1, h.2.2.1⟩) _ _ _ _ ?_
          refine wpAnyH_ready (rs := [12]) (by kernel_rfl) (by simp) ?_
          refine AllReadyH.cons (o := { dst := some 147, op := Op.call { callee := Callee.value (Operand.func 19), args := #[Operand.tmp 146], argTypes := #[34] }, type := 3, pos := "law.go:78", after := #[{ on := 11, ground := Ground.data }, { on := 10, ground := Ground.chain }, { on := 8, ground := Ground.guard }], guard := some (8, false) }) rfl (fun K hK => ?_) AllReadyH.nil
          go_simp
          refine (HRR.out _ hG5012.1).mono ?_
          rintro e' wrr ⟨rfl, hb12⟩
          go_simp
          refine hK.out _ _ (⟨(hG5012.1).trans (hb12.mono (hG5012.1).size), (hG5012.2.1).trans (hb12.mono (hG5012.2.1).size), (hG5012.2.2.1).trans (hb12.mono (hG5012.2.2.1).size), (hG5012.2.2.2).trans (hb12.mono (hG5012.2.2.2).size)⟩) (fun hH5013 => ?_)
          clear hK K
          try simp only [Act.put, List.setIfInBounds_toArray, List.set_cons_zero, List.set_cons_succ]
          have hG5013 : (fun W => Below wx.heap.size wx W ∧ Below wrc.heap.size wrc W ∧ Below wsm.heap.size wsm W ∧ Below wro.heap.size wro W ∧ Below wrr.heap.size wrr W) wrr := ⟨hH5013.1, hH5013.2.1, hH5013.2.2.1, hH5013.2.2.2, Below.refl _ _⟩
          refine wpAnyH_grow (S' := (fun W => Below wx.heap.size wx W ∧ Below wrc.heap.size wrc W ∧ Below wsm.heap.size wsm W ∧ Below wro.heap.size wro W ∧ Below wrr.heap.size wrr W)) (fun _ h => ⟨h.1, h.2.1, h.2.2.1, h.2.2.2.1⟩) _ _ _ _ ?_
          refine wpAnyH_take (i := 13) (oi := { dst := some 148, op := Op.binOp BinOp.neq 3 (Operand.tmp 145) (Operand.tmp 147) 3, type := 4, pos := "law.go:78", after := #[{ on := 10, ground := Ground.data }, { on := 12, ground := Ground.data }, { on := 8, ground := Ground.guard }], guard := some (8, false) }) (v := ?tkv5014) rfl (by kernel_rfl) (by kernel_rfl) (by kernel_rfl) (fun _ _ _ h => h) (Or.inl ⟨by rfl, ?tky5014⟩) hG5013 ?tkr5014
          case tky5014 => (intro w' hSw; clear hSw; go_simp; try with_reducible rfl)
          try simp only [Act.put, List.setIfInBounds_toArray, List.set_cons_zero, List.set_cons_succ]
          refine wpAnyH_take (i := 14) (oi := { dst := some 149, op := Op.pick (Operand.tmp 143) (Operand.const (Value.bool true)) (Operand.tmp 148), type := 4, pos := "law.go:78", after := #[{ on := 8, ground := Ground.data }, { on := 13, ground := Ground.data }], guard := none }) (v := ?tkv5015) rfl (by kernel_rfl) (by kernel_rfl) (by kernel_rfl) (fun _ _ _ h => h) (Or.inl ⟨by rfl, ?tky5015⟩) hG5013 ?tkr5015
          case tky5015 => (intro w' hSw; clear hSw; go_simp; try with_reducible rfl)
          try simp only [Act.put, List.setIfInBounds_toArray, List.set_cons_zero, List.set_cons_succ]
          refine wpAnyH_take (i := 15) (oi := { dst := some 150, op := Op.move (Operand.tmp 149), type := 4, pos := "law.go:78", after := #[{ on := 14, ground := Ground.data }, { on := 12, ground := Ground.chain }], guard := none }) (v := ?tkv5016) rfl (by kernel_rfl) (by kernel_rfl) (by kernel_rfl) (fun _ _ _ h => h) (Or.inl ⟨by rfl, ?tky5016⟩) hG5013 ?tkr5016
          case tky5016 => (intro w' hSw; clear hSw; go_simp; try with_reducible rfl)
          try simp only [Act.put, List.setIfInBounds_toArray, List.set_cons_zero, List.set_cons_succ]
          refine wpAnyH_take (i := 16) (oi := { dst := some 151, op := Op.move (Operand.tmp 9), type := 26, pos := "law.go:78", after := #[{ on := 15, ground := Ground.guard }], guard := some (15, false) }) (v := ?tkv5017) rfl (by kernel_rfl) (by kernel_rfl) (by kernel_rfl) (fun _ _ _ h => h) (Or.inl ⟨by rfl, ?tky5017⟩) hG5013 ?tkr5017
          case tky5017 => (intro w' hSw; clear hSw; go_simp; try with_reducible rfl)
          try simp only [Act.put, List.setIfInBounds_toArray, List.set_cons_zero, List.set_cons_succ]
          refine wpAnyH_take (i := 19) (oi := { dst := some 154, op := Op.move (Operand.tmp 10), type := 28, pos := "law.go:78", after := #[{ on := 15, ground := Ground.guard }], guard := some (15, false) }) (v := ?tkv5018) rfl (by kernel_rfl) (by kernel_rfl) (by kernel_rfl) (fun _ _ _ h => h) (Or.inl ⟨by rfl, ?tky5018⟩) hG5013 ?tkr5018
          case tky5018 => (intro w' hSw; clear hSw; go_simp; try with_reducible rfl)
          try simp only [Act.put, List.setIfInBounds_toArray, List.set_cons_zero, List.set_cons_succ]
          refine wpAnyH_take (i := 20) (oi := { dst := some 155, op := Op.nilCheck (Operand.tmp 154), type := 0, pos := "law.go:78", after := #[{ on := 19, ground := Ground.data }, { on := 15, ground := Ground.guard }], guard := some (15, false) }) (v := ?tkv5019) rfl (by kernel_rfl) (by kernel_rfl) (by kernel_rfl) (fun _ _ _ h => h) (Or.inl ⟨by rfl, ?tky5019⟩) hG5013 ?tkr5019
          case tky5019 => (intro w' hSw; clear hSw; go_simp; try with_reducible rfl)
          try simp only [Act.put, List.setIfInBounds_toArray, List.set_cons_zero, List.set_cons_succ]
          refine wpAnyH_take (i := 21) (oi := { dst := some 156, op := Op.fieldAddr 52 (Operand.tmp 155) 0, type := 0, pos := "law.go:78", after := #[{ on := 20, ground := Ground.data }, { on := 15, ground := Ground.guard }], guard := some (15, false) }) (v := ?tkv5020) rfl (by kernel_rfl) (by kernel_rfl) (by kernel_rfl) (fun _ _ _ h => h) (Or.inl ⟨by rfl, ?tky5020⟩) hG5013 ?tkr5020
          case tky5020 => (intro w' hSw; clear hSw; go_simp; try with_reducible rfl)
          try simp only [Act.put, List.setIfInBounds_toArray, List.set_cons_zero, List.set_cons_succ]
          refine wpAnyH_take (i := 22) (oi := { dst := some 157, op := Op.load 37 (Operand.tmp 156), type := 37, pos := "law.go:78", after := #[{ on := 21, ground := Ground.data }, { on := 15, ground := Ground.guard }], guard := some (15, false) }) (v := ?tkv5021) rfl (by kernel_rfl) (by kernel_rfl) (by kernel_rfl) (fun _ _ _ h => h) (Or.inl ⟨by rfl, ?tky5021⟩) hG5013 ?tkr5021
          case tky5021 => (intro w' hSw; have z0 := HF35.out _ hSw.1; clear hSw; go_simp; try with_reducible rfl)
          try simp only [Act.put, List.setIfInBounds_toArray, List.set_cons_zero, List.set_cons_succ]
          refine wpAnyH_take (i := 23) (oi := { dst := some 158, op := Op.convert 37 9 (Operand.tmp 157), type := 9, pos := "law.go:78", after := #[{ on := 22, ground := Ground.data }, { on := 15, ground := Ground.guard }], guard := some (15, false) }) (v := ?tkv5022) rfl (by kernel_rfl) (by kernel_rfl) (by kernel_rfl) (fun _ _ _ h => h) (Or.inl ⟨by rfl, ?tky5022⟩) hG5013 ?tkr5022
          case tky5022 => (intro w' hSw; have z0 := HF35.out _ hSw.1; clear hSw; go_simp; try with_reducible rfl)
          try simp only [Act.put, List.setIfInBounds_toArray, List.set_cons_zero, List.set_cons_succ]
          refine wpAnyH_ready (rs := [17]) (by kernel_rfl) (by simp) ?_
          refine AllReadyH.cons (o := { dst := some 152, op := Op.call { callee := Callee.value (Operand.func 20), args := #[Operand.tmp 151], argTypes := #[26] }, type := 37, pos := "law.go:78", after := #[{ on := 16, ground := Ground.data }, { on := 15, ground := Ground.chain }, { on := 15, ground := Ground.guard }], guard := some (15, false) }) rfl (fun K hK => ?_) AllReadyH.nil
          go_simp
          refine (HBY.out _ hG5013.1).mono ?_
          rintro e' wby ⟨Ay, ny, cy, rfl, hny, hoy, hb17⟩
          obtain rfl : ny = 3584 := hny.out.trans (Fl.sub_length _ _ _)
          have HKY := Lib.hid (conv_own cy hoy)
          clear hny hoy
          go_simp
          refine hK.out _ _ (⟨(hG5013.1).trans (hb17.mono (hG5013.1).size), (hG5013.2.1).trans (hb17.mono (hG5013.2.1).size), (hG5013.2.2.1).trans (hb17.mono (hG5013.2.2.1).size), (hG5013.2.2.2.1).trans (hb17.mono (hG5013.2.2.2.1).size), (hG5013.2.2.2.2).trans (hb17.mono (hG5013.2.2.2.2).size)⟩) (fun hH5023 => ?_)
          clear hK K
          try simp only [Act.put, List.setIfInBounds_toArray, List.set_cons_zero, List.set_cons_succ]
          have hG5023 : (fun W => Below wx.heap.size wx W ∧ Below wrc.heap.size wrc W ∧ Below wsm.heap.size wsm W ∧ Below wro.heap.size wro W ∧ Below wrr.heap.size wrr W ∧ Below wby.heap.size wby W) wby := ⟨hH5023.1, hH5023.2.1, hH5023.2.2.1, hH5023.2.2.2.1, hH5023.2.2.2.2, Below.refl _ _⟩
          refine wpAnyH_grow (S' := (fun W => Below wx.heap.size wx W ∧ Below wrc.heap.size wrc W ∧ Below wsm.heap.size wsm W ∧ Below wro.heap.size wro W ∧ Below wrr.heap.size wrr W ∧ Below wby.heap.size wby W)) (fun _ h => ⟨h.1, h.2.1, h.2.2.1, h.2.2.2.1, h.2.2.2.2.1⟩) _ _ _ _ ?_
          refine wpAnyH_take (i := 18) (oi := { dst := some 153, op := Op.convert 37 9 (Operand.tmp 152), type := 9, pos := "law.go:78", after := #[{ on := 17, ground := Ground.data }, { on := 15, ground := Ground.guard }], guard := some (15, false) }) (v := ?tkv5024) rfl (by kernel_rfl) (by kernel_rfl) (by kernel_rfl) (fun _ _ _ h => h) (Or.inl ⟨by rfl, ?tky5024⟩) hG5023 ?tkr5024
          case tky5024 => (intro w' hSw; have z0 := HF35.out _ hSw.1; have z1 := HKY.out _ hSw.2.2.2.2.2; clear hSw; go_simp; try with_reducible rfl)
          try simp only [Act.put, List.setIfInBounds_toArray, List.set_cons_zero, List.set_cons_succ]
          refine wpAnyH_take (i := 24) (oi := { dst := some 159, op := Op.binOp BinOp.neq 9 (Operand.tmp 153) (Operand.tmp 158) 9, type := 4, pos := "law.go:78", after := #[{ on := 18, ground := Ground.data }, { on := 23, ground := Ground.data }, { on := 15, ground := Ground.guard }], guard := some (15, false) }) (v := ?tkv5025) rfl (by kernel_rfl) (by kernel_rfl) (by kernel_rfl) (fun _ _ _ h => h) (Or.inl ⟨by rfl, ?tky5025⟩) hG5023 ?tkr5025
          case tky5025 => (intro w' hSw; clear hSw; go_simp; try with_reducible rfl)
          try simp only [Act.put, List.setIfInBounds_toArray, List.set_cons_zero, List.set_cons_succ]
          refine wpAnyH_take (i := 25) (oi := { dst := some 160, op := Op.pick (Operand.tmp 150) (Operand.const (Value.bool true)) (Operand.tmp 159), type := 4, pos := "law.go:78", after := #[{ on := 15, ground := Ground.data }, { on := 24, ground := Ground.data }], guard := none }) (v := ?tkv5026) rfl (by kernel_rfl) (by kernel_rfl) (by kernel_rfl) (fun _ _ _ h => h) (Or.inl ⟨by rfl, ?tky5026⟩) hG5023 ?tkr5026
          case tky5026 => (intro w' hSw; clear hSw; go_simp; try with_reducible rfl)
          try simp only [Act.put, List.setIfInBounds_toArray, List.set_cons_zero, List.set_cons_succ]
          refine wpAnyH_done (by kernel_rfl) ?_ _
          refine NoPanic.normal ?_
          have hEnd : Below wx.heap.size wx _ := hG5023.1
          have HPE := Lib.hid (HP9.out.below hEnd)
          go_wp2_with fail
          go_roundw
          case rel => exact ⟨k + 1, gw9, gr9, gen8, sz8, e19, e29, x9, f9, by omega, rfl, rfl, rfl, rfl, rfl, rfl, by go_num, by omega, by omega, by omega, HPE, HXC, HOC⟩
          case measure => simp [intOf]; omega
    · obtain rfl : n = k := by omega
      have HB := Lib.hid HPS.out.bel
      clear HPS
      go_wp2_with fail
      refine (awake18_any _).mono ?_
      rintro e w9 ⟨rfl, hb9⟩
      go_wp2_with fail
      go_ret
      exact ⟨rfl, HB.out.trans (hb9.out.mono HB.out.size)⟩
end Go.Proofs.Ytekaoodagaplmaa
