/- FlashPlays: any calls, any fuses, any torn steps: each answer, all bytes, as the reference has them. Its walk. -/
import Derived.Test.YtdaiboaofjeliaaRFl5
import Derived.Test.YtdaiboaofjeliaaFlChange
import Derived.Test.YtdaiboaofjeliaaLaw
import Derived.Test.YtdaiboaofjeliaaGrow
import Derived.Deep.CutBlock
import Derived.Deep.DeepCutAuto
import Derived.Deep.RegionHeld3
namespace Go.Proofs.Ytdaiboaofjeliaa
open Go.ChangeShapes Go.WideShapes Go.ChangeAt Go.RowKit
def BoxC (gc : Nat) (cs : Array Value) (W : World) : Prop := W.heap[gc]? = some (.cells cs 31 (0, 0))
/-- both flashes, and a call's box -/
def StC (gc : Nat) (cs : Array Value) (g gm gB : Nat) (f1 f2 : Fl) (w W : World) : Prop := BoxC gc cs W ∧ FlAt W g f1 ∧ RfAt W gm gB f2 ∧ Below w.heap.size w W
structure Apart3 (gc g gm gB B : Nat) : Prop where
  h1 : gc ≠ g
  h2 : gc ≠ gm
  h3 : gc ≠ gB
  h4 : gm ≠ g
  h5 : gB ≠ g
  h6 : B ≤ g
  h7 : B ≤ gm
  h8 : B ≤ gB
section
variable {gc g gm gB : Nat} {cs : Array Value} {f1 f2 f' : Fl} {w W W' : World}
theorem StC.lt (h : StC gc cs g gm gB f1 f2 w W) : gc < W.heap.size := (Array.getElem?_eq_some_iff.1 h.1).1
theorem StC.done (h : StC gc cs g gm gB f1 f2 w W) (ap : Apart3 gc g gm gB w.heap.size) (hd : Done g f' W W') : StC gc cs g gm gB f' f2 w W' :=
  ⟨(hd.2.block gc h.lt (by simpa using ap.h1)).trans h.1, hd.1, h.2.2.1.grown hd.2 ap.h4 ap.h5, h.2.2.2.grown hd.2 h.2.2.2.size (by intro q e; injection e with e; have := ap.h6; omega)⟩
theorem StC.rdone (h : StC gc cs g gm gB f1 f2 w W) (ap : Apart3 gc g gm gB w.heap.size) (hd : RDone gm gB f' W W') : StC gc cs g gm gB f1 f' w W' :=
  ⟨(hd.2.block gc h.lt ap.h2 ap.h3).trans h.1, h.2.1.gr2 hd.2 (fun e => ap.h4 e.symm) (fun e => ap.h5 e.symm), hd.1, below_gr2 h.2.2.2 hd.2 h.2.2.2.size ap.h7 ap.h8⟩
theorem StC.below (h : StC gc cs g gm gB f1 f2 w W) (hb : Below W.heap.size W W') : StC gc cs g gm gB f1 f2 w W' :=
  ⟨(hb.block gc h.lt).trans h.1, h.2.1.below hb, h.2.2.1.below hb, h.2.2.2.trans (hb.mono h.2.2.2.size)⟩
end
theorem mayE_zero {f : Fl} {a n : Int} (hk : mayE f a n = 0) : f.down = false ∧ 0 ≤ n ∧ 0 ≤ a ∧ a + n ≤ 3584 := by
  unfold mayE at hk
  cases hd : f.down with
  | true => rw [hd] at hk; simp at hk
  | false =>
    rw [hd] at hk
    simp only [Bool.false_eq_true, if_false] at hk
    by_cases h : n < 0 ∨ a < 0 ∨ 3584 - n < a
    · rw [if_pos h] at hk; cases hk
    · exact ⟨rfl, by omega, by omega, by omega⟩
set_option maxRecDepth 100000 in
set_option maxHeartbeats 25600000 in
theorem fplays_walk (wear : Int) (_ : -9223372036854775808 ≤ wear) (_ : wear ≤ 9223372036854775807) (A : Option Addr) (n cap : Nat) (ys : List FCall) (w : World) (hl : FCalls w A n ys) :
    Calls Try.prog 3 #[.int .i64 wear, .slice A n cap] w fun e w' => e = .returned (.bool true) ∧ Below w.heap.size w w' := by
  have HL := Lib.hid hl
  have HN := Lib.hid hl.1
  clear hl
  go_enter Try.func3, Try.ntmps3
  go_wp2_with fail
  refine (few_any A n cap ys w HL.out).mono ?_
  rintro e w0 ⟨r, rfl, hr, hb0⟩
  cases r with
  | false =>
    go_wp2_with fail
    refine (awake16_any _).mono ?_
    rintro e w4 ⟨rfl, hb4⟩
    go_wp2_with fail
    go_ret
    exact ⟨rfl, hb0.out.trans (hb4.mono hb0.out.size)⟩
  | true =>
  have HM := Lib.hid (hr.out rfl)
  have hn80 : n ≤ 80 := by have := HM.out.1; have := HN.out; omega
  clear hr
  obtain ⟨v, hv1, hv2, hnew⟩ := new_all wear w0
  have hrnew := fun W => rnew_all wear W v hv2
  have HNEW := Lib.hid hnew
  have HRNEW := Lib.hid hrnew
  have hokv : ((flNew v).fill 0 3584).Ok 0 := ⟨Int.le_refl 0, Int.le_refl 0, by show _ ≤ (0 : Int) ∧ (0 : Int) ≤ _; decide, fun s => Int.le_refl 0, hv1⟩
  have HOK0 := Lib.hid hokv
  clear hnew hrnew hv1 hv2 hokv
  go_wp2_with fail
  refine HNEW.out.mono ?_
  rintro e w1 ⟨g, rfl, hg, hf, hb1⟩
  have hs0 := hb0.out.size
  have HB1 := Lib.hid (hb0.out.trans (hb1.out.mono hs0))
  have hg1 := hf.out.lt
  go_wp2_with fail
  refine (HRNEW.out w1).mono ?_
  rintro e w2 ⟨gm, gB, rfl, hgm, hgB, hrf, hb2⟩
  have HF2 := Lib.hid (hf.out.below hb2.out)
  have HR2 := Lib.hid hrf.out
  generalize (flNew v).fill 0 3584 = f0 at *
  have hs1 := HB1.out.size
  have HB2 := Lib.hid (HB1.out.trans (hb2.out.mono hs1))
  have HGG : Hid (gm ≠ g ∧ gB ≠ g ∧ w.heap.size ≤ g ∧ w.heap.size ≤ gm ∧ w.heap.size ≤ gB) := ⟨by omega, by omega, by omega, by omega, by omega⟩
  clear hb0 hb1 hf hrf hb2 HB1 HNEW HRNEW hg hg1 hgm hgB hs0 hs1
  go_wp2_with fail
  go_loopw [28] (fun i wr => ∃ (k : Nat) (f : Fl), k ≤ n ∧ i = .int .i64 k ∧ Hid (FlAt wr g f) ∧ Hid (RfAt wr gm gB f) ∧ Hid (f.Ok (301 * k)) ∧ Hid (Below w.heap.size w wr)) (fun i _ => n - (intOf i).toNat)
  case atStart => exact ⟨0, f0, by omega, rfl, HF2, HR2, HOK0, HB2⟩
  case round =>
    clear HF2 HR2 HOK0 HB2
    obtain ⟨k, f, hk, rfl, hf, hrf, hok, hb⟩ := hrel
    have hsz := hb.out.size
    by_cases hlt : k < n
    · obtain ⟨b, o, y, rfl, hbl, hym, hyk, hyg, c0, c1, c2, c3⟩ := HL.out.at_ hb.out hlt
      have hm3 := HM.out.2 y hym
      obtain ⟨d, a, m, yA, ym, yc, yl⟩ := y
      dsimp only at c0 c1 c2 c3 hm3
      have HYG := Lib.hid hyg
      have hmg1 := HYG.out.2.2.2.2.2.1
      have hmg2 := HYG.out.2.2.2.2.2.2
      dsimp only at hmg1 hmg2
      have HAG : Hid (0 < ym → ∀ b o, yA = some ⟨b, o, none⟩ → b ≠ g) := by
        intro h0 b' o' e
        obtain ⟨b2, o2, e2, hb2, _⟩ := HYG.out.1.2 h0
        have e3 := e2.symm.trans e
        injection e3 with e3
        injection e3 with e3
        have := HGG.out.2.2.1
        omega
      have HAR : Hid (0 < ym → ∀ b o, yA = some ⟨b, o, none⟩ → b ≠ gm ∧ b ≠ gB) := by
        intro h0 b' o' e
        obtain ⟨b2, o2, e2, hb2, _⟩ := HYG.out.1.2 h0
        have e3 := e2.symm.trans e
        injection e3 with e3
        injection e3 with e3
        have := HGG.out.2.2.2
        omega
      clear hyg hym hyk
      obtain ⟨CS, hCS⟩ : ∃ CS : Array Value, CS = #[.int .i64 d, .int .i64 a, .int .i64 m, .slice yA ym yc] := ⟨_, rfl⟩
      have HFB : Hid (∀ W, BoxC wr.heap.size CS W → W.cell? ⟨wr.heap.size, 0, none⟩ = some (.int .i64 d) ∧ W.cell? ⟨wr.heap.size, 1, none⟩ = some (.int .i64 a) ∧ W.cell? ⟨wr.heap.size, 2, none⟩ = some (.int .i64 m) ∧ W.cell? ⟨wr.heap.size, 3, none⟩ = some (.slice yA ym yc)) := Lib.hid fun W hW => by
        unfold BoxC at hW
        rw [hCS] at hW
        refine ⟨?_, ?_, ?_, ?_⟩ <;> (rw [cell_of_row W _ _ _ _ (0, 0) hW]; rfl)
      obtain ⟨W0, hW0⟩ : ∃ W0, wr.alloc (.cells #[.int .i64 d, .int .i64 a, .int .i64 m, .slice yA ym yc] 31) = W0 := ⟨_, rfl⟩
      have hbW : Below wr.heap.size wr W0 := by rw [← hW0]; exact (Below.refl _ _).alloc (Nat.le_refl _) _
      have hxW : BoxC wr.heap.size CS W0 := by rw [← hW0, hCS]; exact heap_alloc_new wr _
      have hgf := hf.out.lt
      have hgr := hrf.out.2.1.lt
      obtain ⟨_, _, _, _, _, hgh⟩ := hrf.out
      have hgr2 := hgh.lt
      have AP : Hid (Apart3 wr.heap.size g gm gB w.heap.size) := ⟨by omega, by omega, by omega, HGG.out.1, HGG.out.2.1, HGG.out.2.2.1, HGG.out.2.2.2.1, HGG.out.2.2.2.2⟩
      obtain ⟨gc, hgc⟩ : ∃ gc, wr.heap.size = gc := ⟨_, rfl⟩
      have HW0 := Lib.hid hW0
      have HBW := Lib.hid (hb.out.trans (hbW.mono hsz))
      have HF0 := Lib.hid (hf.out.below hbW)
      have HR0 := Lib.hid (hrf.out.below hbW)
      have HBOX := Lib.hid hxW
      clear hW0 hbW hxW hf hrf hb hgf hgr hgh hgr2 hCS
      go_upto_region 9 with fail
      rw [HW0.out]
      rw [hgc] at HBOX AP HFB
      clear HW0 c0 c1 c2 c3 hsz
      try rw [hgc]
      have HST0 : Hid (StC gc CS g gm gB f f w W0) := ⟨HBOX.out, HF0.out, HR0.out, HBW.out⟩
      obtain ⟨c0, c1, c2, c3⟩ := HFB.out _ HBOX.out
      go_upto_block 2 with fail
      go_cut [9] (fun s wx => s = .bool true ∧ ∃ f3 : Fl, Hid (FlAt wx g f3) ∧ Hid (RfAt wx gm gB f3) ∧ Hid (f3.Ok (301 * ((k + 1 : Nat) : Int))) ∧ Hid (Below w.heap.size w wx))
      case first =>
        by_cases k0 : d = 0
        · subst k0
          by_cases hm0 : mayE f a m = 0
          · obtain ⟨q1, q2, q3, q4⟩ := mayE_zero hm0
            obtain ⟨pa, rfl⟩ : ∃ p : Nat, a = p := ⟨a.toNat, by omega⟩
            obtain ⟨pm, rfl⟩ : ∃ p : Nat, m = p := ⟨m.toNat, by omega⟩
            have HRD := Lib.hid (read_ok g pa pm f W0 HF0.out q1 (by omega))
            have HRR := Lib.hid (fun W (hW : RfAt W gm gB f) => rread_ok gm gB pa pm f W hW q1 (by omega))
            have HLN := Lib.hid (f.sub_length pa pm)
            generalize f.sub pa pm = L at *
            clear hm0 q1 q2 q3 q4
            go_wp2_with fail
            refine HRD.out.mono ?_
            rintro e w3 ⟨A3, n3, k3, rfl, hn3, hown3, hb3⟩
            have HS3 := Lib.hid (HST0.out.below hb3.out)
            obtain ⟨d0, d1, d2, d3⟩ := HFB.out _ HS3.out.1
            have HR3 := Lib.hid (Row.of_own hown3.out)
            clear hn3 hown3 hb3 HRD c0 c1 c2 c3
            go_wp2_with fail
            refine (HRR.out w3 HS3.out.2.2.1).mono ?_
            rintro e w4 ⟨A4, n4, k4, rfl, hn4, hown4, hb4⟩
            have HS4 := Lib.hid (HS3.out.below hb4.out)
            have hk1 := run_string_row (P := Try.prog) ((HR3.out.below hb4.out).more hb4.out.size) k3 29 9 5 Try.underlying29 Try.underlying5 Try.underlying9
            have hk2 := run_string_row (P := Try.prog) (Row.of_own hown4.out) k4 29 9 5 Try.underlying29 Try.underlying5 Try.underlying9
            have HFA := Lib.hid HS4.out.2.1
            have HRA := Lib.hid HS4.out.2.2.1
            have HBA := Lib.hid HS4.out.2.2.2
            have HOK3 : Hid (f.Ok (301 * ((k + 1 : Nat) : Int))) := hok.out.more (by push_cast; omega)
            clear hn4 hown4 hb4 HRR d0 d1 d2 d3 HS3 HS4 HR3
            go_wp2_with fail
            go_meet
            case rel => exact ⟨by first | rfl | simp, f, HFA, HRA, HOK3, HBA⟩
          · obtain ⟨kk, hkk⟩ : ∃ kk, mayE f a m = kk := ⟨_, rfl⟩
            have HRD := Lib.hid (read_bad (some ⟨g, 0, none⟩) a m kk W0 (may_any g f a m kk W0 HF0.out hmg2 hkk) (by rw [← hkk]; exact hm0))
            have HRR := Lib.hid (rread_bad gm gB a m kk f W0 HR0.out ⟨hmg1, hmg2⟩ hkk (by rw [← hkk]; exact hm0))
            have hk1 := run_string_row (P := Try.prog) (l := []) (Row.nil W0 W0.heap.size none) 0 29 9 5 Try.underlying29 Try.underlying5 Try.underlying9
            have hkb : (kk == kk) = true := by simp
            have HFA := HF0
            have HRA := HR0
            have HBA := HBW
            have HOK3 : Hid (f.Ok (301 * ((k + 1 : Nat) : Int))) := hok.out.more (by push_cast; omega)
            clear hm0 hkk
            go_wp2_with fail
            refine HRD.out.mono ?_
            rintro e w3 ⟨rfl, rfl⟩
            go_wp2_with fail
            refine HRR.out.mono ?_
            rintro e w3 ⟨rfl, rfl⟩
            go_wp2_with fail
            go_meet
            case rel => exact ⟨by first | rfl | simp, f, HFA, HRA, HOK3, HBA⟩
        by_cases k1 : d = 1
        · subst k1
          have hrw : ∀ W, Below w.heap.size w W → Row W w.heap.size yA ym (bv yl) := fun W hW => HYG.out.1.below hW
          by_cases hm0 : mayE f a (ym : Int) = 0
          · obtain ⟨q1, q2, q3, q4⟩ := mayE_zero hm0
            obtain ⟨pa, rfl⟩ : ∃ p : Nat, a = p := ⟨a.toNat, by omega⟩
            have HOK3 : Hid ((f.prog pa yl).1.Ok (301 * ((k + 1 : Nat) : Int))) := (hok.out.prog yl pa).more (by have hbl : yl.length = ym := HYG.out.1.blen; push_cast; omega)
            have hc1 : ∀ W, StC gc CS g gm gB f f w W → Calls Try.prog 10 #[.pointer (some ⟨g, 0, none⟩), .int .i64 (pa : Int), .slice yA ym yc] W fun e w' => e = .returned (.int .i64 (f.prog pa yl).2) ∧ StC gc CS g gm gB (f.prog pa yl).1 f w w' := fun W hW => (prog_ok g pa w.heap.size ym yc yA yl f W hW.2.1 (hrw W hW.2.2.2) HAG.out hW.2.2.2.size q1 (by omega) (by have := hok.out.1; omega) (by have := hok.out.2.1; omega) hok.out.2.2.1).mono (by
              rintro e w' ⟨rfl, hdd⟩
              exact ⟨rfl, hW.done AP.out hdd.out⟩)
            have hc2 : ∀ W, StC gc CS g gm gB (f.prog pa yl).1 f w W → Calls Try.prog 11 #[.pointer (some ⟨gm, 0, none⟩), .int .i64 (pa : Int), .slice yA ym yc] W fun e w' => e = .returned (.int .i64 (f.prog pa yl).2) ∧ StC gc CS g gm gB (f.prog pa yl).1 (f.prog pa yl).1 w w' := fun W hW => (rprog_ok gm gB pa w.heap.size ym yc yA yl f W hW.2.2.1 (hrw W hW.2.2.2) HAR.out hW.2.2.2.size q1 (by omega) hok.out.1 (by have := hok.out.2.1; omega)).mono (by
              rintro e w' ⟨rfl, hdd⟩
              exact ⟨rfl, hW.rdone AP.out hdd.out⟩)
            have HC1 := Lib.hid hc1
            have HC2 := Lib.hid hc2
            clear hc1 hc2 hm0 q1 q2 q3 q4 hrw c0 c1 c2 c3
            obtain ⟨f9, r9, hE⟩ : ∃ f9 r9, f.prog pa yl = (f9, r9) := ⟨_, _, rfl⟩
            rw [hE] at HC1 HC2 HOK3
            dsimp only at HC1 HC2 HOK3
            have hr9 : (r9 == r9) = true := by simp
            clear hE
            go_upto_region 18 with fail
            have HSTA : Hid (StC gc CS g gm gB f f w W0.drew) := Lib.hid ⟨HBOX.out, HF0.out, HR0.out, HBW.out.drew⟩
            refine wp_region_noPanic ?_
            refine wp_region_held_drew (S := (fun W => BoxC gc CS W)) (by kernel_rfl) HBOX.out (fun hH0 => ?_)
            have hH0 : BoxC gc CS W0.drew := hH0
            generalize W0.drew = wd1100 at *
            refine wpAnyH_take (i := 0) (oi := { dst := some 70, op := Op.move (Operand.tmp 5), type := 25, pos := "law.go:50", after := #[], guard := none }) (v := ?tkv1101) rfl (by kernel_rfl) (by kernel_rfl) (by kernel_rfl) (fun _ _ _ h => h) (Or.inl ⟨by rfl, ?tky1101⟩) hH0 ?tkr1101
            case tky1101 => (intro w' hSw; clear hSw; go_simp; try with_reducible rfl)
            try simp only [Act.put, List.setIfInBounds_toArray, List.set_cons_zero, List.set_cons_succ]
            refine wpAnyH_take (i := 1) (oi := { dst := some 71, op := Op.fieldAddr 31 (Operand.tmp 8) 1, type := 0, pos := "law.go:50", after := #[], guard := none }) (v := ?tkv1102) rfl (by kernel_rfl) (by kernel_rfl) (by kernel_rfl) (fun _ _ _ h => h) (Or.inl ⟨by rfl, ?tky1102⟩) hH0 ?tkr1102
            case tky1102 => (intro w' hSw; clear hSw; go_simp; try with_reducible rfl)
            try simp only [Act.put, List.setIfInBounds_toArray, List.set_cons_zero, List.set_cons_succ]
            refine wpAnyH_take (i := 2) (oi := { dst := some 72, op := Op.load 3 (Operand.tmp 71), type := 3, pos := "law.go:50", after := #[{ on := 1, ground := Ground.data }], guard := none }) (v := ?tkv1103) rfl (by kernel_rfl) (by kernel_rfl) (by kernel_rfl) (fun _ _ _ h => h) (Or.inl ⟨by rfl, ?tky1103⟩) hH0 ?tkr1103
            case tky1103 => (intro w' hSw; have z0 := HFB.out _ hSw; clear hSw; go_simp; try with_reducible rfl)
            try simp only [Act.put, List.setIfInBounds_toArray, List.set_cons_zero, List.set_cons_succ]
            refine wpAnyH_take (i := 3) (oi := { dst := some 73, op := Op.fieldAddr 31 (Operand.tmp 8) 3, type := 0, pos := "law.go:50", after := #[], guard := none }) (v := ?tkv1104) rfl (by kernel_rfl) (by kernel_rfl) (by kernel_rfl) (fun _ _ _ h => h) (Or.inl ⟨by rfl, ?tky1104⟩) hH0 ?tkr1104
            case tky1104 => (intro w' hSw; clear hSw; go_simp; try with_reducible rfl)
            try simp only [Act.put, List.setIfInBounds_toArray, List.set_cons_zero, List.set_cons_succ]
            refine wpAnyH_take (i := 4) (oi := { dst := some 74, op := Op.load 29 (Operand.tmp 73), type := 29, pos := "law.go:50", after := #[{ on := 3, ground := Ground.data }], guard := none }) (v := ?tkv1105) rfl (by kernel_rfl) (by kernel_rfl) (by kernel_rfl) (fun _ _ _ h => h) (Or.inl ⟨by rfl, ?tky1105⟩) hH0 ?tkr1105
            case tky1105 => (intro w' hSw; have z0 := HFB.out _ hSw; clear hSw; go_simp; try with_reducible rfl)
            try simp only [Act.put, List.setIfInBounds_toArray, List.set_cons_zero, List.set_cons_succ]
            refine wpAnyH_take (i := 6) (oi := { dst := some 76, op := Op.move (Operand.tmp 6), type := 27, pos := "law.go:50", after := #[], guard := none }) (v := ?tkv1106) rfl (by kernel_rfl) (by kernel_rfl) (by kernel_rfl) (fun _ _ _ h => h) (Or.inl ⟨by rfl, ?tky1106⟩) hH0 ?tkr1106
            case tky1106 => (intro w' hSw; clear hSw; go_simp; try with_reducible rfl)
            try simp only [Act.put, List.setIfInBounds_toArray, List.set_cons_zero, List.set_cons_succ]
            refine wpAnyH_take (i := 7) (oi := { dst := some 77, op := Op.fieldAddr 31 (Operand.tmp 8) 1, type := 0, pos := "law.go:50", after := #[], guard := none }) (v := ?tkv1107) rfl (by kernel_rfl) (by kernel_rfl) (by kernel_rfl) (fun _ _ _ h => h) (Or.inl ⟨by rfl, ?tky1107⟩) hH0 ?tkr1107
            case tky1107 => (intro w' hSw; clear hSw; go_simp; try with_reducible rfl)
            try simp only [Act.put, List.setIfInBounds_toArray, List.set_cons_zero, List.set_cons_succ]
            refine wpAnyH_take (i := 8) (oi := { dst := some 78, op := Op.load 3 (Operand.tmp 77), type := 3, pos := "law.go:50", after := #[{ on := 7, ground := Ground.data }], guard := none }) (v := ?tkv1108) rfl (by kernel_rfl) (by kernel_rfl) (by kernel_rfl) (fun _ _ _ h => h) (Or.inl ⟨by rfl, ?tky1108⟩) hH0 ?tkr1108
            case tky1108 => (intro w' hSw; have z0 := HFB.out _ hSw; clear hSw; go_simp; try with_reducible rfl)
            try simp only [Act.put, List.setIfInBounds_toArray, List.set_cons_zero, List.set_cons_succ]
            refine wpAnyH_take (i := 9) (oi := { dst := some 79, op := Op.fieldAddr 31 (Operand.tmp 8) 3, type := 0, pos := "law.go:50", after := #[], guard := none }) (v := ?tkv1109) rfl (by kernel_rfl) (by kernel_rfl) (by kernel_rfl) (fun _ _ _ h => h) (Or.inl ⟨by rfl, ?tky1109⟩) hH0 ?tkr1109
            case tky1109 => (intro w' hSw; clear hSw; go_simp; try with_reducible rfl)
            try simp only [Act.put, List.setIfInBounds_toArray, List.set_cons_zero, List.set_cons_succ]
            refine wpAnyH_take (i := 10) (oi := { dst := some 80, op := Op.load 29 (Operand.tmp 79), type := 29, pos := "law.go:50", after := #[{ on := 9, ground := Ground.data }], guard := none }) (v := ?tkv1110) rfl (by kernel_rfl) (by kernel_rfl) (by kernel_rfl) (fun _ _ _ h => h) (Or.inl ⟨by rfl, ?tky1110⟩) hH0 ?tkr1110
            case tky1110 => (intro w' hSw; have z0 := HFB.out _ hSw; clear hSw; go_simp; try with_reducible rfl)
            try simp only [Act.put, List.setIfInBounds_toArray, List.set_cons_zero, List.set_cons_succ]
            refine wpAnyH_ready (rs := [5]) (by kernel_rfl) (by simp) ?_
            refine AllReadyH.cons (o := { dst := some 75, op := Op.call { callee := Callee.value (Operand.func 10), args := #[Operand.tmp 70, Operand.tmp 72, Operand.tmp 74], argTypes := #[25, 3, 29] }, type := 32, pos := "law.go:50", after := #[{ on := 0, ground := Ground.data }, { on := 2, ground := Ground.data }, { on := 4, ground := Ground.data }], guard := none }) rfl (fun K hK => ?_) AllReadyH.nil
            go_simp
            refine (HC1.out _ HSTA.out).mono ?_
            rintro e' wa ⟨rfl, hst⟩
            have HSTB := Lib.hid hst
            clear hst
            go_simp
            have hS1111 : BoxC gc CS wa := HSTB.out.1
            refine hK.out _ _ hS1111 (fun hH1111 => ?_)
            have hH1111 : BoxC gc CS wa := hH1111
            clear hK K hS1111
            try simp only [Act.put, List.setIfInBounds_toArray, List.set_cons_zero, List.set_cons_succ]
            refine wpAnyH_ready (rs := [11]) (by kernel_rfl) (by simp) ?_
            refine AllReadyH.cons (o := { dst := some 81, op := Op.call { callee := Callee.value (Operand.func 11), args := #[Operand.tmp 76, Operand.tmp 78, Operand.tmp 80], argTypes := #[27, 3, 29] }, type := 32, pos := "law.go:50", after := #[{ on := 6, ground := Ground.data }, { on := 8, ground := Ground.data }, { on := 10, ground := Ground.data }, { on := 5, ground := Ground.chain }], guard := none }) rfl (fun K hK => ?_) AllReadyH.nil
            go_simp
            refine (HC2.out _ HSTB.out).mono ?_
            rintro e' wb ⟨rfl, hst⟩
            have HSTC := Lib.hid hst
            clear hst
            go_simp
            have hS1112 : BoxC gc CS wb := HSTC.out.1
            refine hK.out _ _ hS1112 (fun hH1112 => ?_)
            have hH1112 : BoxC gc CS wb := hH1112
            clear hK K hS1112
            try simp only [Act.put, List.setIfInBounds_toArray, List.set_cons_zero, List.set_cons_succ]
            refine wpAnyH_take (i := 12) (oi := { dst := some 82, op := Op.binOp BinOp.eql 32 (Operand.tmp 75) (Operand.tmp 81) 32, type := 4, pos := "law.go:50", after := #[{ on := 5, ground := Ground.data }, { on := 11, ground := Ground.data }], guard := none }) (v := ?tkv1113) rfl (by kernel_rfl) (by kernel_rfl) (by kernel_rfl) (fun _ _ _ h => h) (Or.inl ⟨by rfl, ?tky1113⟩) hH1112 ?tkr1113
            case tky1113 => (intro w' hSw; clear hSw; go_simp; try with_reducible rfl)
            try simp only [Act.put, List.setIfInBounds_toArray, List.set_cons_zero, List.set_cons_succ]
            refine wpAnyH_take (i := 13) (oi := { dst := some 9, op := Op.assign (Operand.tmp 82), type := 4, pos := "law.go:50", after := #[{ on := 12, ground := Ground.data }, { on := 11, ground := Ground.chain }, { on := 0, ground := Ground.phase }, { on := 1, ground := Ground.phase }, { on := 2, ground := Ground.phase }, { on := 3, ground := Ground.phase }, { on := 4, ground := Ground.phase }, { on := 5, ground := Ground.phase }, { on := 6, ground := Ground.phase }, { on := 7, ground := Ground.phase }, { on := 8, ground := Ground.phase }, { on := 9, ground := Ground.phase }, { on := 10, ground := Ground.phase }, { on := 11, ground := Ground.phase }, { on := 12, ground := Ground.phase }], guard := none }) (v := ?tkv1114) rfl (by kernel_rfl) (by kernel_rfl) (by kernel_rfl) (fun _ _ _ h => h) (Or.inl ⟨by rfl, ?tky1114⟩) hH1112 ?tkr1114
            case tky1114 => (intro w' hSw; clear hSw; go_simp; try with_reducible rfl)
            try simp only [Act.put, List.setIfInBounds_toArray, List.set_cons_zero, List.set_cons_succ]
            refine wpAnyH_done (by kernel_rfl) ?_ _
            refine NoPanic.normal ?_
            have HFA := Lib.hid HSTC.out.2.1
            have HRA := Lib.hid HSTC.out.2.2.1
            have HBA := Lib.hid HSTC.out.2.2.2
            clear HSTC
            go_wp2_with fail
            go_meet
            case rel => exact ⟨by first | rfl | simp, f9, HFA, HRA, HOK3, HBA⟩
          · obtain ⟨kk, hkk⟩ : ∃ kk, mayE f a (ym : Int) = kk := ⟨_, rfl⟩
            have HOK3 : Hid (f.Ok (301 * ((k + 1 : Nat) : Int))) := hok.out.more (by push_cast; omega)
            have hyc0 : (ym : Int) ≤ 9223372036854775807 := by have := HYG.out.2.1; have := HYG.out.2.2.1; dsimp only at *; omega
            have hc1 : ∀ W, StC gc CS g gm gB f f w W → Calls Try.prog 10 #[.pointer (some ⟨g, 0, none⟩), .int .i64 a, .slice yA ym yc] W fun e w' => e = .returned (.int .i64 kk) ∧ StC gc CS g gm gB f f w w' := fun W hW => (prog_bad (some ⟨g, 0, none⟩) a kk ym yc yA W (may_any g f a ym kk W hW.2.1 hyc0 hkk) (by rw [← hkk]; exact hm0)).mono (by
              rintro e w' ⟨rfl, rfl⟩
              exact ⟨rfl, hW⟩)
            have hc2 : ∀ W, StC gc CS g gm gB f f w W → Calls Try.prog 11 #[.pointer (some ⟨gm, 0, none⟩), .int .i64 a, .slice yA ym yc] W fun e w' => e = .returned (.int .i64 kk) ∧ StC gc CS g gm gB f f w w' := fun W hW => (rprog_bad gm gB ym yc a kk yA f W hW.2.2.1 hyc0 hkk (by rw [← hkk]; exact hm0)).mono (by
              rintro e w' ⟨rfl, rfl⟩
              exact ⟨rfl, hW⟩)
            have HC1 := Lib.hid hc1
            have HC2 := Lib.hid hc2
            have hr9 : (kk == kk) = true := by simp
            clear hc1 hc2 hm0 hkk hrw c0 c1 c2 c3
            go_upto_region 18 with fail
            have HSTA : Hid (StC gc CS g gm gB f f w W0.drew) := Lib.hid ⟨HBOX.out, HF0.out, HR0.out, HBW.out.drew⟩
            refine wp_region_noPanic ?_
            refine wp_region_held_drew (S := (fun W => BoxC gc CS W)) (by kernel_rfl) HBOX.out (fun hH0 => ?_)
            have hH0 : BoxC gc CS W0.drew := hH0
            generalize W0.drew = wd1300 at *
            refine wpAnyH_take (i := 0) (oi := { dst := some 70, op := Op.move (Operand.tmp 5), type := 25, pos := "law.go:50", after := #[], guard := none }) (v := ?tkv1301) rfl (by kernel_rfl) (by kernel_rfl) (by kernel_rfl) (fun _ _ _ h => h) (Or.inl ⟨by rfl, ?tky1301⟩) hH0 ?tkr1301
            case tky1301 => (intro w' hSw; clear hSw; go_simp; try with_reducible rfl)
            try simp only [Act.put, List.setIfInBounds_toArray, List.set_cons_zero, List.set_cons_succ]
            refine wpAnyH_take (i := 1) (oi := { dst := some 71, op := Op.fieldAddr 31 (Operand.tmp 8) 1, type := 0, pos := "law.go:50", after := #[], guard := none }) (v := ?tkv1302) rfl (by kernel_rfl) (by kernel_rfl) (by kernel_rfl) (fun _ _ _ h => h) (Or.inl ⟨by rfl, ?tky1302⟩) hH0 ?tkr1302
            case tky1302 => (intro w' hSw; clear hSw; go_simp; try with_reducible rfl)
            try simp only [Act.put, List.setIfInBounds_toArray, List.set_cons_zero, List.set_cons_succ]
            refine wpAnyH_take (i := 2) (oi := { dst := some 72, op := Op.load 3 (Operand.tmp 71), type := 3, pos := "law.go:50", after := #[{ on := 1, ground := Ground.data }], guard := none }) (v := ?tkv1303) rfl (by kernel_rfl) (by kernel_rfl) (by kernel_rfl) (fun _ _ _ h => h) (Or.inl ⟨by rfl, ?tky1303⟩) hH0 ?tkr1303
            case tky1303 => (intro w' hSw; have z0 := HFB.out _ hSw; clear hSw; go_simp; try with_reducible rfl)
            try simp only [Act.put, List.setIfInBounds_toArray, List.set_cons_zero, List.set_cons_succ]
            refine wpAnyH_take (i := 3) (oi := { dst := some 73, op := Op.fieldAddr 31 (Operand.tmp 8) 3, type := 0, pos := "law.go:50", after := #[], guard := none }) (v := ?tkv1304) rfl (by kernel_rfl) (by kernel_rfl) (by kernel_rfl) (fun _ _ _ h => h) (Or.inl ⟨by rfl, ?tky1304⟩) hH0 ?tkr1304
            case tky1304 => (intro w' hSw; clear hSw; go_simp; try with_reducible rfl)
            try simp only [Act.put, List.setIfInBounds_toArray, List.set_cons_zero, List.set_cons_succ]
            refine wpAnyH_take (i := 4) (oi := { dst := some 74, op := Op.load 29 (Operand.tmp 73), type := 29, pos := "law.go:50", after := #[{ on := 3, ground := Ground.data }], guard := none }) (v := ?tkv1305) rfl (by kernel_rfl) (by kernel_rfl) (by kernel_rfl) (fun _ _ _ h => h) (Or.inl ⟨by rfl, ?tky1305⟩) hH0 ?tkr1305
            case tky1305 => (intro w' hSw; have z0 := HFB.out _ hSw; clear hSw; go_simp; try with_reducible rfl)
            try simp only [Act.put, List.setIfInBounds_toArray, List.set_cons_zero, List.set_cons_succ]
            refine wpAnyH_take (i := 6) (oi := { dst := some 76, op := Op.move (Operand.tmp 6), type := 27, pos := "law.go:50", after := #[], guard := none }) (v := ?tkv1306) rfl (by kernel_rfl) (by kernel_rfl) (by kernel_rfl) (fun _ _ _ h => h) (Or.inl ⟨by rfl, ?tky1306⟩) hH0 ?tkr1306
            case tky1306 => (intro w' hSw; clear hSw; go_simp; try with_reducible rfl)
            try simp only [Act.put, List.setIfInBounds_toArray, List.set_cons_zero, List.set_cons_succ]
            refine wpAnyH_take (i := 7) (oi := { dst := some 77, op := Op.fieldAddr 31 (Operand.tmp 8) 1, type := 0, pos := "law.go:50", after := #[], guard := none }) (v := ?tkv1307) rfl (by kernel_rfl) (by kernel_rfl) (by kernel_rfl) (fun _ _ _ h => h) (Or.inl ⟨by rfl, ?tky1307⟩) hH0 ?tkr1307
            case tky1307 => (intro w' hSw; clear hSw; go_simp; try with_reducible rfl)
            try simp only [Act.put, List.setIfInBounds_toArray, List.set_cons_zero, List.set_cons_succ]
            refine wpAnyH_take (i := 8) (oi := { dst := some 78, op := Op.load 3 (Operand.tmp 77), type := 3, pos := "law.go:50", after := #[{ on := 7, ground := Ground.data }], guard := none }) (v := ?tkv1308) rfl (by kernel_rfl) (by kernel_rfl) (by kernel_rfl) (fun _ _ _ h => h) (Or.inl ⟨by rfl, ?tky1308⟩) hH0 ?tkr1308
            case tky1308 => (intro w' hSw; have z0 := HFB.out _ hSw; clear hSw; go_simp; try with_reducible rfl)
            try simp only [Act.put, List.setIfInBounds_toArray, List.set_cons_zero, List.set_cons_succ]
            refine wpAnyH_take (i := 9) (oi := { dst := some 79, op := Op.fieldAddr 31 (Operand.tmp 8) 3, type := 0, pos := "law.go:50", after := #[], guard := none }) (v := ?tkv1309) rfl (by kernel_rfl) (by kernel_rfl) (by kernel_rfl) (fun _ _ _ h => h) (Or.inl ⟨by rfl, ?tky1309⟩) hH0 ?tkr1309
            case tky1309 => (intro w' hSw; clear hSw; go_simp; try with_reducible rfl)
            try simp only [Act.put, List.setIfInBounds_toArray, List.set_cons_zero, List.set_cons_succ]
            refine wpAnyH_take (i := 10) (oi := { dst := some 80, op := Op.load 29 (Operand.tmp 79), type := 29, pos := "law.go:50", after := #[{ on := 9, ground := Ground.data }], guard := none }) (v := ?tkv1310) rfl (by kernel_rfl) (by kernel_rfl) (by kernel_rfl) (fun _ _ _ h => h) (Or.inl ⟨by rfl, ?tky1310⟩) hH0 ?tkr1310
            case tky1310 => (intro w' hSw; have z0 := HFB.out _ hSw; clear hSw; go_simp; try with_reducible rfl)
            try simp only [Act.put, List.setIfInBounds_toArray, List.set_cons_zero, List.set_cons_succ]
            refine wpAnyH_ready (rs := [5]) (by kernel_rfl) (by simp) ?_
            refine AllReadyH.cons (o := { dst := some 75, op := Op.call { callee := Callee.value (Operand.func 10), args := #[Operand.tmp 70, Operand.tmp 72, Operand.tmp 74], argTypes := #[25, 3, 29] }, type := 32, pos := "law.go:50", after := #[{ on := 0, ground := Ground.data }, { on := 2, ground := Ground.data }, { on := 4, ground := Ground.data }], guard := none }) rfl (fun K hK => ?_) AllReadyH.nil
            go_simp
            refine (HC1.out _ HSTA.out).mono ?_
            rintro e' wa ⟨rfl, hst⟩
            have HSTB := Lib.hid hst
            clear hst
            go_simp
            have hS1311 : BoxC gc CS wa := HSTB.out.1
            refine hK.out _ _ hS1311 (fun hH1311 => ?_)
            have hH1311 : BoxC gc CS wa := hH1311
            clear hK K hS1311
            try simp only [Act.put, List.setIfInBounds_toArray, List.set_cons_zero, List.set_cons_succ]
            refine wpAnyH_ready (rs := [11]) (by kernel_rfl) (by simp) ?_
            refine AllReadyH.cons (o := { dst := some 81, op := Op.call { callee := Callee.value (Operand.func 11), args := #[Operand.tmp 76, Operand.tmp 78, Operand.tmp 80], argTypes := #[27, 3, 29] }, type := 32, pos := "law.go:50", after := #[{ on := 6, ground := Ground.data }, { on := 8, ground := Ground.data }, { on := 10, ground := Ground.data }, { on := 5, ground := Ground.chain }], guard := none }) rfl (fun K hK => ?_) AllReadyH.nil
            go_simp
            refine (HC2.out _ HSTB.out).mono ?_
            rintro e' wb ⟨rfl, hst⟩
            have HSTC := Lib.hid hst
            clear hst
            go_simp
            have hS1312 : BoxC gc CS wb := HSTC.out.1
            refine hK.out _ _ hS1312 (fun hH1312 => ?_)
            have hH1312 : BoxC gc CS wb := hH1312
            clear hK K hS1312
            try simp only [Act.put, List.setIfInBounds_toArray, List.set_cons_zero, List.set_cons_succ]
            refine wpAnyH_take (i := 12) (oi := { dst := some 82, op := Op.binOp BinOp.eql 32 (Operand.tmp 75) (Operand.tmp 81) 32, type := 4, pos := "law.go:50", after := #[{ on := 5, ground := Ground.data }, { on := 11, ground := Ground.data }], guard := none }) (v := ?tkv1313) rfl (by kernel_rfl) (by kernel_rfl) (by kernel_rfl) (fun _ _ _ h => h) (Or.inl ⟨by rfl, ?tky1313⟩) hH1312 ?tkr1313
            case tky1313 => (intro w' hSw; clear hSw; go_simp; try with_reducible rfl)
            try simp only [Act.put, List.setIfInBounds_toArray, List.set_cons_zero, List.set_cons_succ]
            refine wpAnyH_take (i := 13) (oi := { dst := some 9, op := Op.assign (Operand.tmp 82), type := 4, pos := "law.go:50", after := #[{ on := 12, ground := Ground.data }, { on := 11, ground := Ground.chain }, { on := 0, ground := Ground.phase }, { on := 1, ground := Ground.phase }, { on := 2, ground := Ground.phase }, { on := 3, ground := Ground.phase }, { on := 4, ground := Ground.phase }, { on := 5, ground := Ground.phase }, { on := 6, ground := Ground.phase }, { on := 7, ground := Ground.phase }, { on := 8, ground := Ground.phase }, { on := 9, ground := Ground.phase }, { on := 10, ground := Ground.phase }, { on := 11, ground := Ground.phase }, { on := 12, ground := Ground.phase }], guard := none }) (v := ?tkv1314) rfl (by kernel_rfl) (by kernel_rfl) (by kernel_rfl) (fun _ _ _ h => h) (Or.inl ⟨by rfl, ?tky1314⟩) hH1312 ?tkr1314
            case tky1314 => (intro w' hSw; clear hSw; go_simp; try with_reducible rfl)
            try simp only [Act.put, List.setIfInBounds_toArray, List.set_cons_zero, List.set_cons_succ]
            refine wpAnyH_done (by kernel_rfl) ?_ _
            refine NoPanic.normal ?_
            have HFA := Lib.hid HSTC.out.2.1
            have HRA := Lib.hid HSTC.out.2.2.1
            have HBA := Lib.hid HSTC.out.2.2.2
            clear HSTC
            go_wp2_with fail
            go_meet
            case rel => exact ⟨by first | rfl | simp, f, HFA, HRA, HOK3, HBA⟩
        by_cases k2 : d = 2
        · subst k2
          by_cases hdw : f.down = true
          · have HOK3 : Hid (f.Ok (301 * ((k + 1 : Nat) : Int))) := hok.out.more (by push_cast; omega)
            have hc1 : ∀ W, StC gc CS g gm gB f f w W → Calls Try.prog 12 #[.pointer (some ⟨g, 0, none⟩), .int .i64 a] W fun e w' => e = .returned (.int .i64 11) ∧ StC gc CS g gm gB f f w w' := fun W hW => (erase_down g a f W hW.2.1 hdw).mono (by
              rintro e w' ⟨rfl, rfl⟩
              exact ⟨rfl, hW⟩)
            have hc2 : ∀ W, StC gc CS g gm gB f f w W → Calls Try.prog 13 #[.pointer (some ⟨gm, 0, none⟩), .int .i64 a] W fun e w' => e = .returned (.int .i64 11) ∧ StC gc CS g gm gB f f w w' := fun W hW => (rerase_bad gm gB a 11 f W hW.2.2.1 (.inl ⟨hdw, rfl⟩)).mono (by
              rintro e w' ⟨rfl, rfl⟩
              exact ⟨rfl, hW⟩)
            have HC1 := Lib.hid hc1
            have HC2 := Lib.hid hc2
            clear hc1 hc2 c0 c1 c2 c3
            go_upto_region 20 with fail
            have HSTA : Hid (StC gc CS g gm gB f f w W0.drew) := Lib.hid ⟨HBOX.out, HF0.out, HR0.out, HBW.out.drew⟩
            refine wp_region_noPanic ?_
            refine wp_region_held_drew (S := (fun W => BoxC gc CS W)) (by kernel_rfl) HBOX.out (fun hH0 => ?_)
            have hH0 : BoxC gc CS W0.drew := hH0
            generalize W0.drew = wd1500 at *
            refine wpAnyH_take (i := 0) (oi := { dst := some 85, op := Op.move (Operand.tmp 5), type := 25, pos := "law.go:52", after := #[], guard := none }) (v := ?tkv1501) rfl (by kernel_rfl) (by kernel_rfl) (by kernel_rfl) (fun _ _ _ h => h) (Or.inl ⟨by rfl, ?tky1501⟩) hH0 ?tkr1501
            case tky1501 => (intro w' hSw; clear hSw; go_simp; try with_reducible rfl)
            try simp only [Act.put, List.setIfInBounds_toArray, List.set_cons_zero, List.set_cons_succ]
            refine wpAnyH_take (i := 1) (oi := { dst := some 86, op := Op.fieldAddr 31 (Operand.tmp 8) 1, type := 0, pos := "law.go:52", after := #[], guard := none }) (v := ?tkv1502) rfl (by kernel_rfl) (by kernel_rfl) (by kernel_rfl) (fun _ _ _ h => h) (Or.inl ⟨by rfl, ?tky1502⟩) hH0 ?tkr1502
            case tky1502 => (intro w' hSw; clear hSw; go_simp; try with_reducible rfl)
            try simp only [Act.put, List.setIfInBounds_toArray, List.set_cons_zero, List.set_cons_succ]
            refine wpAnyH_take (i := 2) (oi := { dst := some 87, op := Op.load 3 (Operand.tmp 86), type := 3, pos := "law.go:52", after := #[{ on := 1, ground := Ground.data }], guard := none }) (v := ?tkv1503) rfl (by kernel_rfl) (by kernel_rfl) (by kernel_rfl) (fun _ _ _ h => h) (Or.inl ⟨by rfl, ?tky1503⟩) hH0 ?tkr1503
            case tky1503 => (intro w' hSw; have z0 := HFB.out _ hSw; clear hSw; go_simp; try with_reducible rfl)
            try simp only [Act.put, List.setIfInBounds_toArray, List.set_cons_zero, List.set_cons_succ]
            refine wpAnyH_take (i := 4) (oi := { dst := some 89, op := Op.move (Operand.tmp 6), type := 27, pos := "law.go:52", after := #[], guard := none }) (v := ?tkv1504) rfl (by kernel_rfl) (by kernel_rfl) (by kernel_rfl) (fun _ _ _ h => h) (Or.inl ⟨by rfl, ?tky1504⟩) hH0 ?tkr1504
            case tky1504 => (intro w' hSw; clear hSw; go_simp; try with_reducible rfl)
            try simp only [Act.put, List.setIfInBounds_toArray, List.set_cons_zero, List.set_cons_succ]
            refine wpAnyH_take (i := 5) (oi := { dst := some 90, op := Op.fieldAddr 31 (Operand.tmp 8) 1, type := 0, pos := "law.go:52", after := #[], guard := none }) (v := ?tkv1505) rfl (by kernel_rfl) (by kernel_rfl) (by kernel_rfl) (fun _ _ _ h => h) (Or.inl ⟨by rfl, ?tky1505⟩) hH0 ?tkr1505
            case tky1505 => (intro w' hSw; clear hSw; go_simp; try with_reducible rfl)
            try simp only [Act.put, List.setIfInBounds_toArray, List.set_cons_zero, List.set_cons_succ]
            refine wpAnyH_take (i := 6) (oi := { dst := some 91, op := Op.load 3 (Operand.tmp 90), type := 3, pos := "law.go:52", after := #[{ on := 5, ground := Ground.data }], guard := none }) (v := ?tkv1506) rfl (by kernel_rfl) (by kernel_rfl) (by kernel_rfl) (fun _ _ _ h => h) (Or.inl ⟨by rfl, ?tky1506⟩) hH0 ?tkr1506
            case tky1506 => (intro w' hSw; have z0 := HFB.out _ hSw; clear hSw; go_simp; try with_reducible rfl)
            try simp only [Act.put, List.setIfInBounds_toArray, List.set_cons_zero, List.set_cons_succ]
            refine wpAnyH_ready (rs := [3]) (by kernel_rfl) (by simp) ?_
            refine AllReadyH.cons (o := { dst := some 88, op := Op.call { callee := Callee.value (Operand.func 12), args := #[Operand.tmp 85, Operand.tmp 87], argTypes := #[25, 3] }, type := 32, pos := "law.go:52", after := #[{ on := 0, ground := Ground.data }, { on := 2, ground := Ground.data }], guard := none }) rfl (fun K hK => ?_) AllReadyH.nil
            go_simp
            refine (HC1.out _ HSTA.out).mono ?_
            rintro e' wa ⟨rfl, hst⟩
            have HSTB := Lib.hid hst
            clear hst
            go_simp
            have hS1507 : BoxC gc CS wa := HSTB.out.1
            refine hK.out _ _ hS1507 (fun hH1507 => ?_)
            have hH1507 : BoxC gc CS wa := hH1507
            clear hK K hS1507
            try simp only [Act.put, List.setIfInBounds_toArray, List.set_cons_zero, List.set_cons_succ]
            refine wpAnyH_ready (rs := [7]) (by kernel_rfl) (by simp) ?_
            refine AllReadyH.cons (o := { dst := some 92, op := Op.call { callee := Callee.value (Operand.func 13), args := #[Operand.tmp 89, Operand.tmp 91], argTypes := #[27, 3] }, type := 32, pos := "law.go:52", after := #[{ on := 4, ground := Ground.data }, { on := 6, ground := Ground.data }, { on := 3, ground := Ground.chain }], guard := none }) rfl (fun K hK => ?_) AllReadyH.nil
            go_simp
            refine (HC2.out _ HSTB.out).mono ?_
            rintro e' wb ⟨rfl, hst⟩
            have HSTC := Lib.hid hst
            clear hst
            go_simp
            have hS1508 : BoxC gc CS wb := HSTC.out.1
            refine hK.out _ _ hS1508 (fun hH1508 => ?_)
            have hH1508 : BoxC gc CS wb := hH1508
            clear hK K hS1508
            try simp only [Act.put, List.setIfInBounds_toArray, List.set_cons_zero, List.set_cons_succ]
            refine wpAnyH_take (i := 8) (oi := { dst := some 93, op := Op.binOp BinOp.eql 32 (Operand.tmp 88) (Operand.tmp 92) 32, type := 4, pos := "law.go:52", after := #[{ on := 3, ground := Ground.data }, { on := 7, ground := Ground.data }], guard := none }) (v := ?tkv1509) rfl (by kernel_rfl) (by kernel_rfl) (by kernel_rfl) (fun _ _ _ h => h) (Or.inl ⟨by rfl, ?tky1509⟩) hH1508 ?tkr1509
            case tky1509 => (intro w' hSw; clear hSw; go_simp; try with_reducible rfl)
            try simp only [Act.put, List.setIfInBounds_toArray, List.set_cons_zero, List.set_cons_succ]
            refine wpAnyH_take (i := 9) (oi := { dst := some 9, op := Op.assign (Operand.tmp 93), type := 4, pos := "law.go:52", after := #[{ on := 8, ground := Ground.data }, { on := 7, ground := Ground.chain }, { on := 0, ground := Ground.phase }, { on := 1, ground := Ground.phase }, { on := 2, ground := Ground.phase }, { on := 3, ground := Ground.phase }, { on := 4, ground := Ground.phase }, { on := 5, ground := Ground.phase }, { on := 6, ground := Ground.phase }, { on := 7, ground := Ground.phase }, { on := 8, ground := Ground.phase }], guard := none }) (v := ?tkv1510) rfl (by kernel_rfl) (by kernel_rfl) (by kernel_rfl) (fun _ _ _ h => h) (Or.inl ⟨by rfl, ?tky1510⟩) hH1508 ?tkr1510
            case tky1510 => (intro w' hSw; clear hSw; go_simp; try with_reducible rfl)
            try simp only [Act.put, List.setIfInBounds_toArray, List.set_cons_zero, List.set_cons_succ]
            refine wpAnyH_done (by kernel_rfl) ?_ _
            refine NoPanic.normal ?_
            have HFA := Lib.hid HSTC.out.2.1
            have HRA := Lib.hid HSTC.out.2.2.1
            have HBA := Lib.hid HSTC.out.2.2.2
            clear HSTC
            go_wp2_with fail
            go_meet
            case rel => exact ⟨by first | rfl | simp, f, HFA, HRA, HOK3, HBA⟩
          have hdw' : f.down = false := by simpa using hdw
          by_cases hs : a < 0 ∨ 14 ≤ a
          · have HOK3 : Hid (f.Ok (301 * ((k + 1 : Nat) : Int))) := hok.out.more (by push_cast; omega)
            have hc1 : ∀ W, StC gc CS g gm gB f f w W → Calls Try.prog 12 #[.pointer (some ⟨g, 0, none⟩), .int .i64 a] W fun e w' => e = .returned (.int .i64 1) ∧ StC gc CS g gm gB f f w w' := fun W hW => (erase_arg g a f W hW.2.1 hdw' hs).mono (by
              rintro e w' ⟨rfl, rfl⟩
              exact ⟨rfl, hW⟩)
            have hc2 : ∀ W, StC gc CS g gm gB f f w W → Calls Try.prog 13 #[.pointer (some ⟨gm, 0, none⟩), .int .i64 a] W fun e w' => e = .returned (.int .i64 1) ∧ StC gc CS g gm gB f f w w' := fun W hW => (rerase_bad gm gB a 1 f W hW.2.2.1 (.inr ⟨hdw', hs, rfl⟩)).mono (by
              rintro e w' ⟨rfl, rfl⟩
              exact ⟨rfl, hW⟩)
            have HC1 := Lib.hid hc1
            have HC2 := Lib.hid hc2
            clear hc1 hc2 c0 c1 c2 c3
            go_upto_region 20 with fail
            have HSTA : Hid (StC gc CS g gm gB f f w W0.drew) := Lib.hid ⟨HBOX.out, HF0.out, HR0.out, HBW.out.drew⟩
            refine wp_region_noPanic ?_
            refine wp_region_held_drew (S := (fun W => BoxC gc CS W)) (by kernel_rfl) HBOX.out (fun hH0 => ?_)
            have hH0 : BoxC gc CS W0.drew := hH0
            generalize W0.drew = wd1700 at *
            refine wpAnyH_take (i := 0) (oi := { dst := some 85, op := Op.move (Operand.tmp 5), type := 25, pos := "law.go:52", after := #[], guard := none }) (v := ?tkv1701) rfl (by kernel_rfl) (by kernel_rfl) (by kernel_rfl) (fun _ _ _ h => h) (Or.inl ⟨by rfl, ?tky1701⟩) hH0 ?tkr1701
            case tky1701 => (intro w' hSw; clear hSw; go_simp; try with_reducible rfl)
            try simp only [Act.put, List.setIfInBounds_toArray, List.set_cons_zero, List.set_cons_succ]
            refine wpAnyH_take (i := 1) (oi := { dst := some 86, op := Op.fieldAddr 31 (Operand.tmp 8) 1, type := 0, pos := "law.go:52", after := #[], guard := none }) (v := ?tkv1702) rfl (by kernel_rfl) (by kernel_rfl) (by kernel_rfl) (fun _ _ _ h => h) (Or.inl ⟨by rfl, ?tky1702⟩) hH0 ?tkr1702
            case tky1702 => (intro w' hSw; clear hSw; go_simp; try with_reducible rfl)
            try simp only [Act.put, List.setIfInBounds_toArray, List.set_cons_zero, List.set_cons_succ]
            refine wpAnyH_take (i := 2) (oi := { dst := some 87, op := Op.load 3 (Operand.tmp 86), type := 3, pos := "law.go:52", after := #[{ on := 1, ground := Ground.data }], guard := none }) (v := ?tkv1703) rfl (by kernel_rfl) (by kernel_rfl) (by kernel_rfl) (fun _ _ _ h => h) (Or.inl ⟨by rfl, ?tky1703⟩) hH0 ?tkr1703
            case tky1703 => (intro w' hSw; have z0 := HFB.out _ hSw; clear hSw; go_simp; try with_reducible rfl)
            try simp only [Act.put, List.setIfInBounds_toArray, List.set_cons_zero, List.set_cons_succ]
            refine wpAnyH_take (i := 4) (oi := { dst := some 89, op := Op.move (Operand.tmp 6), type := 27, pos := "law.go:52", after := #[], guard := none }) (v := ?tkv1704) rfl (by kernel_rfl) (by kernel_rfl) (by kernel_rfl) (fun _ _ _ h => h) (Or.inl ⟨by rfl, ?tky1704⟩) hH0 ?tkr1704
            case tky1704 => (intro w' hSw; clear hSw; go_simp; try with_reducible rfl)
            try simp only [Act.put, List.setIfInBounds_toArray, List.set_cons_zero, List.set_cons_succ]
            refine wpAnyH_take (i := 5) (oi := { dst := some 90, op := Op.fieldAddr 31 (Operand.tmp 8) 1, type := 0, pos := "law.go:52", after := #[], guard := none }) (v := ?tkv1705) rfl (by kernel_rfl) (by kernel_rfl) (by kernel_rfl) (fun _ _ _ h => h) (Or.inl ⟨by rfl, ?tky1705⟩) hH0 ?tkr1705
            case tky1705 => (intro w' hSw; clear hSw; go_simp; try with_reducible rfl)
            try simp only [Act.put, List.setIfInBounds_toArray, List.set_cons_zero, List.set_cons_succ]
            refine wpAnyH_take (i := 6) (oi := { dst := some 91, op := Op.load 3 (Operand.tmp 90), type := 3, pos := "law.go:52", after := #[{ on := 5, ground := Ground.data }], guard := none }) (v := ?tkv1706) rfl (by kernel_rfl) (by kernel_rfl) (by kernel_rfl) (fun _ _ _ h => h) (Or.inl ⟨by rfl, ?tky1706⟩) hH0 ?tkr1706
            case tky1706 => (intro w' hSw; have z0 := HFB.out _ hSw; clear hSw; go_simp; try with_reducible rfl)
            try simp only [Act.put, List.setIfInBounds_toArray, List.set_cons_zero, List.set_cons_succ]
            refine wpAnyH_ready (rs := [3]) (by kernel_rfl) (by simp) ?_
            refine AllReadyH.cons (o := { dst := some 88, op := Op.call { callee := Callee.value (Operand.func 12), args := #[Operand.tmp 85, Operand.tmp 87], argTypes := #[25, 3] }, type := 32, pos := "law.go:52", after := #[{ on := 0, ground := Ground.data }, { on := 2, ground := Ground.data }], guard := none }) rfl (fun K hK => ?_) AllReadyH.nil
            go_simp
            refine (HC1.out _ HSTA.out).mono ?_
            rintro e' wa ⟨rfl, hst⟩
            have HSTB := Lib.hid hst
            clear hst
            go_simp
            have hS1707 : BoxC gc CS wa := HSTB.out.1
            refine hK.out _ _ hS1707 (fun hH1707 => ?_)
            have hH1707 : BoxC gc CS wa := hH1707
            clear hK K hS1707
            try simp only [Act.put, List.setIfInBounds_toArray, List.set_cons_zero, List.set_cons_succ]
            refine wpAnyH_ready (rs := [7]) (by kernel_rfl) (by simp) ?_
            refine AllReadyH.cons (o := { dst := some 92, op := Op.call { callee := Callee.value (Operand.func 13), args := #[Operand.tmp 89, Operand.tmp 91], argTypes := #[27, 3] }, type := 32, pos := "law.go:52", after := #[{ on := 4, ground := Ground.data }, { on := 6, ground := Ground.data }, { on := 3, ground := Ground.chain }], guard := none }) rfl (fun K hK => ?_) AllReadyH.nil
            go_simp
            refine (HC2.out _ HSTB.out).mono ?_
            rintro e' wb ⟨rfl, hst⟩
            have HSTC := Lib.hid hst
            clear hst
            go_simp
            have hS1708 : BoxC gc CS wb := HSTC.out.1
            refine hK.out _ _ hS1708 (fun hH1708 => ?_)
            have hH1708 : BoxC gc CS wb := hH1708
            clear hK K hS1708
            try simp only [Act.put, List.setIfInBounds_toArray, List.set_cons_zero, List.set_cons_succ]
            refine wpAnyH_take (i := 8) (oi := { dst := some 93, op := Op.binOp BinOp.eql 32 (Operand.tmp 88) (Operand.tmp 92) 32, type := 4, pos := "law.go:52", after := #[{ on := 3, ground := Ground.data }, { on := 7, ground := Ground.data }], guard := none }) (v := ?tkv1709) rfl (by kernel_rfl) (by kernel_rfl) (by kernel_rfl) (fun _ _ _ h => h) (Or.inl ⟨by rfl, ?tky1709⟩) hH1708 ?tkr1709
            case tky1709 => (intro w' hSw; clear hSw; go_simp; try with_reducible rfl)
            try simp only [Act.put, List.setIfInBounds_toArray, List.set_cons_zero, List.set_cons_succ]
            refine wpAnyH_take (i := 9) (oi := { dst := some 9, op := Op.assign (Operand.tmp 93), type := 4, pos := "law.go:52", after := #[{ on := 8, ground := Ground.data }, { on := 7, ground := Ground.chain }, { on := 0, ground := Ground.phase }, { on := 1, ground := Ground.phase }, { on := 2, ground := Ground.phase }, { on := 3, ground := Ground.phase }, { on := 4, ground := Ground.phase }, { on := 5, ground := Ground.phase }, { on := 6, ground := Ground.phase }, { on := 7, ground := Ground.phase }, { on := 8, ground := Ground.phase }], guard := none }) (v := ?tkv1710) rfl (by kernel_rfl) (by kernel_rfl) (by kernel_rfl) (fun _ _ _ h => h) (Or.inl ⟨by rfl, ?tky1710⟩) hH1708 ?tkr1710
            case tky1710 => (intro w' hSw; clear hSw; go_simp; try with_reducible rfl)
            try simp only [Act.put, List.setIfInBounds_toArray, List.set_cons_zero, List.set_cons_succ]
            refine wpAnyH_done (by kernel_rfl) ?_ _
            refine NoPanic.normal ?_
            have HFA := Lib.hid HSTC.out.2.1
            have HRA := Lib.hid HSTC.out.2.2.1
            have HBA := Lib.hid HSTC.out.2.2.2
            clear HSTC
            go_wp2_with fail
            go_meet
            case rel => exact ⟨by first | rfl | simp, f, HFA, HRA, HOK3, HBA⟩
          obtain ⟨pa, rfl⟩ : ∃ p : Nat, a = p := ⟨a.toNat, by omega⟩
          have HOK3 : Hid ((f.erase pa).1.Ok (301 * ((k + 1 : Nat) : Int))) := (hok.out.erase pa).more (by push_cast; omega)
          have hc1 : ∀ W, StC gc CS g gm gB f f w W → Calls Try.prog 12 #[.pointer (some ⟨g, 0, none⟩), .int .i64 (pa : Int)] W fun e w' => e = .returned (.int .i64 (f.erase pa).2) ∧ StC gc CS g gm gB (f.erase pa).1 f w w' := fun W hW => (erase_ok g pa f W hW.2.1 hdw' (by omega) (hok.out.2.2.2.1 pa) (by have := hok.out.2.2.2.2; omega) (by have := hok.out.1; omega) (by have := hok.out.2.1; omega) hok.out.2.2.1.2).mono (by
            rintro e w' ⟨rfl, hdd⟩
            exact ⟨rfl, hW.done AP.out hdd.out⟩)
          have hc2 : ∀ W, StC gc CS g gm gB (f.erase pa).1 f w W → Calls Try.prog 13 #[.pointer (some ⟨gm, 0, none⟩), .int .i64 (pa : Int)] W fun e w' => e = .returned (.int .i64 (f.erase pa).2) ∧ StC gc CS g gm gB (f.erase pa).1 (f.erase pa).1 w w' := fun W hW => (rerase_ok gm gB pa f W hW.2.2.1 hdw' (by omega) (hok.out.2.2.2.1 pa) (by have := hok.out.2.2.2.2; omega) hok.out.1 (by have := hok.out.2.1; omega)).mono (by
            rintro e w' ⟨rfl, hdd⟩
            exact ⟨rfl, hW.rdone AP.out hdd.out⟩)
          have HC1 := Lib.hid hc1
          have HC2 := Lib.hid hc2
          clear hc1 hc2 c0 c1 c2 c3 hs hdw
          obtain ⟨f9, r9, hE⟩ : ∃ f9 r9, f.erase pa = (f9, r9) := ⟨_, _, rfl⟩
          rw [hE] at HC1 HC2 HOK3
          dsimp only at HC1 HC2 HOK3
          have hr9 : (r9 == r9) = true := by simp
          clear hE
          go_upto_region 20 with fail
          have HSTA : Hid (StC gc CS g gm gB f f w W0.drew) := Lib.hid ⟨HBOX.out, HF0.out, HR0.out, HBW.out.drew⟩
          refine wp_region_noPanic ?_
          refine wp_region_held_drew (S := (fun W => BoxC gc CS W)) (by kernel_rfl) HBOX.out (fun hH0 => ?_)
          have hH0 : BoxC gc CS W0.drew := hH0
          generalize W0.drew = wd1900 at *
          refine wpAnyH_take (i := 0) (oi := { dst := some 85, op := Op.move (Operand.tmp 5), type := 25, pos := "law.go:52", after := #[], guard := none }) (v := ?tkv1901) rfl (by kernel_rfl) (by kernel_rfl) (by kernel_rfl) (fun _ _ _ h => h) (Or.inl ⟨by rfl, ?tky1901⟩) hH0 ?tkr1901
          case tky1901 => (intro w' hSw; clear hSw; go_simp; try with_reducible rfl)
          try simp only [Act.put, List.setIfInBounds_toArray, List.set_cons_zero, List.set_cons_succ]
          refine wpAnyH_take (i := 1) (oi := { dst := some 86, op := Op.fieldAddr 31 (Operand.tmp 8) 1, type := 0, pos := "law.go:52", after := #[], guard := none }) (v := ?tkv1902) rfl (by kernel_rfl) (by kernel_rfl) (by kernel_rfl) (fun _ _ _ h => h) (Or.inl ⟨by rfl, ?tky1902⟩) hH0 ?tkr1902
          case tky1902 => (intro w' hSw; clear hSw; go_simp; try with_reducible rfl)
          try simp only [Act.put, List.setIfInBounds_toArray, List.set_cons_zero, List.set_cons_succ]
          refine wpAnyH_take (i := 2) (oi := { dst := some 87, op := Op.load 3 (Operand.tmp 86), type := 3, pos := "law.go:52", after := #[{ on := 1, ground := Ground.data }], guard := none }) (v := ?tkv1903) rfl (by kernel_rfl) (by kernel_rfl) (by kernel_rfl) (fun _ _ _ h => h) (Or.inl ⟨by rfl, ?tky1903⟩) hH0 ?tkr1903
          case tky1903 => (intro w' hSw; have z0 := HFB.out _ hSw; clear hSw; go_simp; try with_reducible rfl)
          try simp only [Act.put, List.setIfInBounds_toArray, List.set_cons_zero, List.set_cons_succ]
          refine wpAnyH_take (i := 4) (oi := { dst := some 89, op := Op.move (Operand.tmp 6), type := 27, pos := "law.go:52", after := #[], guard := none }) (v := ?tkv1904) rfl (by kernel_rfl) (by kernel_rfl) (by kernel_rfl) (fun _ _ _ h => h) (Or.inl ⟨by rfl, ?tky1904⟩) hH0 ?tkr1904
          case tky1904 => (intro w' hSw; clear hSw; go_simp; try with_reducible rfl)
          try simp only [Act.put, List.setIfInBounds_toArray, List.set_cons_zero, List.set_cons_succ]
          refine wpAnyH_take (i := 5) (oi := { dst := some 90, op := Op.fieldAddr 31 (Operand.tmp 8) 1, type := 0, pos := "law.go:52", after := #[], guard := none }) (v := ?tkv1905) rfl (by kernel_rfl) (by kernel_rfl) (by kernel_rfl) (fun _ _ _ h => h) (Or.inl ⟨by rfl, ?tky1905⟩) hH0 ?tkr1905
          case tky1905 => (intro w' hSw; clear hSw; go_simp; try with_reducible rfl)
          try simp only [Act.put, List.setIfInBounds_toArray, List.set_cons_zero, List.set_cons_succ]
          refine wpAnyH_take (i := 6) (oi := { dst := some 91, op := Op.load 3 (Operand.tmp 90), type := 3, pos := "law.go:52", after := #[{ on := 5, ground := Ground.data }], guard := none }) (v := ?tkv1906) rfl (by kernel_rfl) (by kernel_rfl) (by kernel_rfl) (fun _ _ _ h => h) (Or.inl ⟨by rfl, ?tky1906⟩) hH0 ?tkr1906
          case tky1906 => (intro w' hSw; have z0 := HFB.out _ hSw; clear hSw; go_simp; try with_reducible rfl)
          try simp only [Act.put, List.setIfInBounds_toArray, List.set_cons_zero, List.set_cons_succ]
          refine wpAnyH_ready (rs := [3]) (by kernel_rfl) (by simp) ?_
          refine AllReadyH.cons (o := { dst := some 88, op := Op.call { callee := Callee.value (Operand.func 12), args := #[Operand.tmp 85, Operand.tmp 87], argTypes := #[25, 3] }, type := 32, pos := "law.go:52", after := #[{ on := 0, ground := Ground.data }, { on := 2, ground := Ground.data }], guard := none }) rfl (fun K hK => ?_) AllReadyH.nil
          go_simp
          refine (HC1.out _ HSTA.out).mono ?_
          rintro e' wa ⟨rfl, hst⟩
          have HSTB := Lib.hid hst
          clear hst
          go_simp
          have hS1907 : BoxC gc CS wa := HSTB.out.1
          refine hK.out _ _ hS1907 (fun hH1907 => ?_)
          have hH1907 : BoxC gc CS wa := hH1907
          clear hK K hS1907
          try simp only [Act.put, List.setIfInBounds_toArray, List.set_cons_zero, List.set_cons_succ]
          refine wpAnyH_ready (rs := [7]) (by kernel_rfl) (by simp) ?_
          refine AllReadyH.cons (o := { dst := some 92, op := Op.call { callee := Callee.value (Operand.func 13), args := #[Operand.tmp 89, Operand.tmp 91], argTypes := #[27, 3] }, type := 32, pos := "law.go:52", after := #[{ on := 4, ground := Ground.data }, { on := 6, ground := Ground.data }, { on := 3, ground := Ground.chain }], guard := none }) rfl (fun K hK => ?_) AllReadyH.nil
          go_simp
          refine (HC2.out _ HSTB.out).mono ?_
          rintro e' wb ⟨rfl, hst⟩
          have HSTC := Lib.hid hst
          clear hst
          go_simp
          have hS1908 : BoxC gc CS wb := HSTC.out.1
          refine hK.out _ _ hS1908 (fun hH1908 => ?_)
          have hH1908 : BoxC gc CS wb := hH1908
          clear hK K hS1908
          try simp only [Act.put, List.setIfInBounds_toArray, List.set_cons_zero, List.set_cons_succ]
          refine wpAnyH_take (i := 8) (oi := { dst := some 93, op := Op.binOp BinOp.eql 32 (Operand.tmp 88) (Operand.tmp 92) 32, type := 4, pos := "law.go:52", after := #[{ on := 3, ground := Ground.data }, { on := 7, ground := Ground.data }], guard := none }) (v := ?tkv1909) rfl (by kernel_rfl) (by kernel_rfl) (by kernel_rfl) (fun _ _ _ h => h) (Or.inl ⟨by rfl, ?tky1909⟩) hH1908 ?tkr1909
          case tky1909 => (intro w' hSw; clear hSw; go_simp; try with_reducible rfl)
          try simp only [Act.put, List.setIfInBounds_toArray, List.set_cons_zero, List.set_cons_succ]
          refine wpAnyH_take (i := 9) (oi := { dst := some 9, op := Op.assign (Operand.tmp 93), type := 4, pos := "law.go:52", after := #[{ on := 8, ground := Ground.data }, { on := 7, ground := Ground.chain }, { on := 0, ground := Ground.phase }, { on := 1, ground := Ground.phase }, { on := 2, ground := Ground.phase }, { on := 3, ground := Ground.phase }, { on := 4, ground := Ground.phase }, { on := 5, ground := Ground.phase }, { on := 6, ground := Ground.phase }, { on := 7, ground := Ground.phase }, { on := 8, ground := Ground.phase }], guard := none }) (v := ?tkv1910) rfl (by kernel_rfl) (by kernel_rfl) (by kernel_rfl) (fun _ _ _ h => h) (Or.inl ⟨by rfl, ?tky1910⟩) hH1908 ?tkr1910
          case tky1910 => (intro w' hSw; clear hSw; go_simp; try with_reducible rfl)
          try simp only [Act.put, List.setIfInBounds_toArray, List.set_cons_zero, List.set_cons_succ]
          refine wpAnyH_done (by kernel_rfl) ?_ _
          refine NoPanic.normal ?_
          have HFA := Lib.hid HSTC.out.2.1
          have HRA := Lib.hid HSTC.out.2.2.1
          have HBA := Lib.hid HSTC.out.2.2.2
          clear HSTC
          go_wp2_with fail
          go_meet
          case rel => exact ⟨by first | rfl | simp, f9, HFA, HRA, HOK3, HBA⟩
        by_cases k3 : d = 3
        · subst k3
          by_cases hm0 : mayE f a m = 0
          · obtain ⟨q1, q2, q3, q4⟩ := mayE_zero hm0
            obtain ⟨pa, rfl⟩ : ∃ p : Nat, a = p := ⟨a.toNat, by omega⟩
            obtain ⟨pm, rfl⟩ : ∃ p : Nat, m = p := ⟨m.toNat, by omega⟩
            have HOK3 : Hid (f.Ok (301 * ((k + 1 : Nat) : Int))) := hok.out.more (by push_cast; omega)
            have hc1 : ∀ W, StC gc CS g gm gB f f w W → Calls Try.prog 14 #[.pointer (some ⟨g, 0, none⟩), .int .i64 (pa : Int), .int .i64 (pm : Int)] W fun e w' => e = .returned (.bool (allFF (f.sub pa pm))) ∧ StC gc CS g gm gB f f w w' := fun W hW => (blank_ok g pa pm f W hW.2.1 q1 (by omega)).mono (by
              rintro e w' ⟨rfl, hbb⟩
              exact ⟨rfl, hW.below hbb.out⟩)
            have hc2 : ∀ W, StC gc CS g gm gB f f w W → Calls Try.prog 15 #[.pointer (some ⟨gm, 0, none⟩), .int .i64 (pa : Int), .int .i64 (pm : Int)] W fun e w' => e = .returned (.bool (allFF (f.sub pa pm))) ∧ StC gc CS g gm gB f f w w' := fun W hW => (rblank_ok gm gB pa pm f W hW.2.2.1 q1 (by omega)).mono (by
              rintro e w' ⟨rfl, hbb⟩
              exact ⟨rfl, hW.below hbb.out⟩)
            have HC1 := Lib.hid hc1
            have HC2 := Lib.hid hc2
            generalize allFF (f.sub pa pm) = r9 at *
            have hr9 : (r9 == r9) = true := by simp
            clear hc1 hc2 hm0 q1 q2 q3 q4 c0 c1 c2 c3
            go_upto_region 22 with fail
            have HSTA : Hid (StC gc CS g gm gB f f w W0.drew) := Lib.hid ⟨HBOX.out, HF0.out, HR0.out, HBW.out.drew⟩
            refine wp_region_noPanic ?_
            refine wp_region_held_drew (S := (fun W => BoxC gc CS W)) (by kernel_rfl) HBOX.out (fun hH0 => ?_)
            have hH0 : BoxC gc CS W0.drew := hH0
            generalize W0.drew = wd2100 at *
            refine wpAnyH_take (i := 0) (oi := { dst := some 96, op := Op.move (Operand.tmp 5), type := 25, pos := "law.go:54", after := #[], guard := none }) (v := ?tkv2101) rfl (by kernel_rfl) (by kernel_rfl) (by kernel_rfl) (fun _ _ _ h => h) (Or.inl ⟨by rfl, ?tky2101⟩) hH0 ?tkr2101
            case tky2101 => (intro w' hSw; clear hSw; go_simp; try with_reducible rfl)
            try simp only [Act.put, List.setIfInBounds_toArray, List.set_cons_zero, List.set_cons_succ]
            refine wpAnyH_take (i := 1) (oi := { dst := some 97, op := Op.fieldAddr 31 (Operand.tmp 8) 1, type := 0, pos := "law.go:54", after := #[], guard := none }) (v := ?tkv2102) rfl (by kernel_rfl) (by kernel_rfl) (by kernel_rfl) (fun _ _ _ h => h) (Or.inl ⟨by rfl, ?tky2102⟩) hH0 ?tkr2102
            case tky2102 => (intro w' hSw; clear hSw; go_simp; try with_reducible rfl)
            try simp only [Act.put, List.setIfInBounds_toArray, List.set_cons_zero, List.set_cons_succ]
            refine wpAnyH_take (i := 2) (oi := { dst := some 98, op := Op.load 3 (Operand.tmp 97), type := 3, pos := "law.go:54", after := #[{ on := 1, ground := Ground.data }], guard := none }) (v := ?tkv2103) rfl (by kernel_rfl) (by kernel_rfl) (by kernel_rfl) (fun _ _ _ h => h) (Or.inl ⟨by rfl, ?tky2103⟩) hH0 ?tkr2103
            case tky2103 => (intro w' hSw; have z0 := HFB.out _ hSw; clear hSw; go_simp; try with_reducible rfl)
            try simp only [Act.put, List.setIfInBounds_toArray, List.set_cons_zero, List.set_cons_succ]
            refine wpAnyH_take (i := 3) (oi := { dst := some 99, op := Op.fieldAddr 31 (Operand.tmp 8) 2, type := 0, pos := "law.go:54", after := #[], guard := none }) (v := ?tkv2104) rfl (by kernel_rfl) (by kernel_rfl) (by kernel_rfl) (fun _ _ _ h => h) (Or.inl ⟨by rfl, ?tky2104⟩) hH0 ?tkr2104
            case tky2104 => (intro w' hSw; clear hSw; go_simp; try with_reducible rfl)
            try simp only [Act.put, List.setIfInBounds_toArray, List.set_cons_zero, List.set_cons_succ]
            refine wpAnyH_take (i := 4) (oi := { dst := some 100, op := Op.load 3 (Operand.tmp 99), type := 3, pos := "law.go:54", after := #[{ on := 3, ground := Ground.data }], guard := none }) (v := ?tkv2105) rfl (by kernel_rfl) (by kernel_rfl) (by kernel_rfl) (fun _ _ _ h => h) (Or.inl ⟨by rfl, ?tky2105⟩) hH0 ?tkr2105
            case tky2105 => (intro w' hSw; have z0 := HFB.out _ hSw; clear hSw; go_simp; try with_reducible rfl)
            try simp only [Act.put, List.setIfInBounds_toArray, List.set_cons_zero, List.set_cons_succ]
            refine wpAnyH_take (i := 6) (oi := { dst := some 102, op := Op.move (Operand.tmp 6), type := 27, pos := "law.go:54", after := #[], guard := none }) (v := ?tkv2106) rfl (by kernel_rfl) (by kernel_rfl) (by kernel_rfl) (fun _ _ _ h => h) (Or.inl ⟨by rfl, ?tky2106⟩) hH0 ?tkr2106
            case tky2106 => (intro w' hSw; clear hSw; go_simp; try with_reducible rfl)
            try simp only [Act.put, List.setIfInBounds_toArray, List.set_cons_zero, List.set_cons_succ]
            refine wpAnyH_take (i := 7) (oi := { dst := some 103, op := Op.fieldAddr 31 (Operand.tmp 8) 1, type := 0, pos := "law.go:54", after := #[], guard := none }) (v := ?tkv2107) rfl (by kernel_rfl) (by kernel_rfl) (by kernel_rfl) (fun _ _ _ h => h) (Or.inl ⟨by rfl, ?tky2107⟩) hH0 ?tkr2107
            case tky2107 => (intro w' hSw; clear hSw; go_simp; try with_reducible rfl)
            try simp only [Act.put, List.setIfInBounds_toArray, List.set_cons_zero, List.set_cons_succ]
            refine wpAnyH_take (i := 8) (oi := { dst := some 104, op := Op.load 3 (Operand.tmp 103), type := 3, pos := "law.go:54", after := #[{ on := 7, ground := Ground.data }], guard := none }) (v := ?tkv2108) rfl (by kernel_rfl) (by kernel_rfl) (by kernel_rfl) (fun _ _ _ h => h) (Or.inl ⟨by rfl, ?tky2108⟩) hH0 ?tkr2108
            case tky2108 => (intro w' hSw; have z0 := HFB.out _ hSw; clear hSw; go_simp; try with_reducible rfl)
            try simp only [Act.put, List.setIfInBounds_toArray, List.set_cons_zero, List.set_cons_succ]
            refine wpAnyH_take (i := 9) (oi := { dst := some 105, op := Op.fieldAddr 31 (Operand.tmp 8) 2, type := 0, pos := "law.go:54", after := #[], guard := none }) (v := ?tkv2109) rfl (by kernel_rfl) (by kernel_rfl) (by kernel_rfl) (fun _ _ _ h => h) (Or.inl ⟨by rfl, ?tky2109⟩) hH0 ?tkr2109
            case tky2109 => (intro w' hSw; clear hSw; go_simp; try with_reducible rfl)
            try simp only [Act.put, List.setIfInBounds_toArray, List.set_cons_zero, List.set_cons_succ]
            refine wpAnyH_take (i := 10) (oi := { dst := some 106, op := Op.load 3 (Operand.tmp 105), type := 3, pos := "law.go:54", after := #[{ on := 9, ground := Ground.data }], guard := none }) (v := ?tkv2110) rfl (by kernel_rfl) (by kernel_rfl) (by kernel_rfl) (fun _ _ _ h => h) (Or.inl ⟨by rfl, ?tky2110⟩) hH0 ?tkr2110
            case tky2110 => (intro w' hSw; have z0 := HFB.out _ hSw; clear hSw; go_simp; try with_reducible rfl)
            try simp only [Act.put, List.setIfInBounds_toArray, List.set_cons_zero, List.set_cons_succ]
            refine wpAnyH_ready (rs := [5]) (by kernel_rfl) (by simp) ?_
            refine AllReadyH.cons (o := { dst := some 101, op := Op.call { callee := Callee.value (Operand.func 14), args := #[Operand.tmp 96, Operand.tmp 98, Operand.tmp 100], argTypes := #[25, 3, 3] }, type := 4, pos := "law.go:54", after := #[{ on := 0, ground := Ground.data }, { on := 2, ground := Ground.data }, { on := 4, ground := Ground.data }], guard := none }) rfl (fun K hK => ?_) AllReadyH.nil
            go_simp
            refine (HC1.out _ HSTA.out).mono ?_
            rintro e' wa ⟨rfl, hst⟩
            have HSTB := Lib.hid hst
            clear hst
            go_simp
            have hS2111 : BoxC gc CS wa := HSTB.out.1
            refine hK.out _ _ hS2111 (fun hH2111 => ?_)
            have hH2111 : BoxC gc CS wa := hH2111
            clear hK K hS2111
            try simp only [Act.put, List.setIfInBounds_toArray, List.set_cons_zero, List.set_cons_succ]
            refine wpAnyH_ready (rs := [11]) (by kernel_rfl) (by simp) ?_
            refine AllReadyH.cons (o := { dst := some 107, op := Op.call { callee := Callee.value (Operand.func 15), args := #[Operand.tmp 102, Operand.tmp 104, Operand.tmp 106], argTypes := #[27, 3, 3] }, type := 4, pos := "law.go:54", after := #[{ on := 6, ground := Ground.data }, { on := 8, ground := Ground.data }, { on := 10, ground := Ground.data }, { on := 5, ground := Ground.chain }], guard := none }) rfl (fun K hK => ?_) AllReadyH.nil
            go_simp
            refine (HC2.out _ HSTB.out).mono ?_
            rintro e' wb ⟨rfl, hst⟩
            have HSTC := Lib.hid hst
            clear hst
            go_simp
            have hS2112 : BoxC gc CS wb := HSTC.out.1
            refine hK.out _ _ hS2112 (fun hH2112 => ?_)
            have hH2112 : BoxC gc CS wb := hH2112
            clear hK K hS2112
            try simp only [Act.put, List.setIfInBounds_toArray, List.set_cons_zero, List.set_cons_succ]
            refine wpAnyH_take (i := 12) (oi := { dst := some 108, op := Op.binOp BinOp.eql 4 (Operand.tmp 101) (Operand.tmp 107) 4, type := 4, pos := "law.go:54", after := #[{ on := 5, ground := Ground.data }, { on := 11, ground := Ground.data }], guard := none }) (v := ?tkv2113) rfl (by kernel_rfl) (by kernel_rfl) (by kernel_rfl) (fun _ _ _ h => h) (Or.inl ⟨by rfl, ?tky2113⟩) hH2112 ?tkr2113
            case tky2113 => (intro w' hSw; clear hSw; go_simp; try with_reducible rfl)
            try simp only [Act.put, List.setIfInBounds_toArray, List.set_cons_zero, List.set_cons_succ]
            refine wpAnyH_take (i := 13) (oi := { dst := some 9, op := Op.assign (Operand.tmp 108), type := 4, pos := "law.go:54", after := #[{ on := 12, ground := Ground.data }, { on := 11, ground := Ground.chain }, { on := 0, ground := Ground.phase }, { on := 1, ground := Ground.phase }, { on := 2, ground := Ground.phase }, { on := 3, ground := Ground.phase }, { on := 4, ground := Ground.phase }, { on := 5, ground := Ground.phase }, { on := 6, ground := Ground.phase }, { on := 7, ground := Ground.phase }, { on := 8, ground := Ground.phase }, { on := 9, ground := Ground.phase }, { on := 10, ground := Ground.phase }, { on := 11, ground := Ground.phase }, { on := 12, ground := Ground.phase }], guard := none }) (v := ?tkv2114) rfl (by kernel_rfl) (by kernel_rfl) (by kernel_rfl) (fun _ _ _ h => h) (Or.inl ⟨by rfl, ?tky2114⟩) hH2112 ?tkr2114
            case tky2114 => (intro w' hSw; clear hSw; go_simp; try with_reducible rfl)
            try simp only [Act.put, List.setIfInBounds_toArray, List.set_cons_zero, List.set_cons_succ]
            refine wpAnyH_done (by kernel_rfl) ?_ _
            refine NoPanic.normal ?_
            have HFA := Lib.hid HSTC.out.2.1
            have HRA := Lib.hid HSTC.out.2.2.1
            have HBA := Lib.hid HSTC.out.2.2.2
            clear HSTC
            go_wp2_with fail
            go_meet
            case rel => exact ⟨by first | rfl | simp, f, HFA, HRA, HOK3, HBA⟩
          · obtain ⟨kk, hkk⟩ : ∃ kk, mayE f a m = kk := ⟨_, rfl⟩
            have HOK3 : Hid (f.Ok (301 * ((k + 1 : Nat) : Int))) := hok.out.more (by push_cast; omega)
            have hc1 : ∀ W, StC gc CS g gm gB f f w W → Calls Try.prog 14 #[.pointer (some ⟨g, 0, none⟩), .int .i64 a, .int .i64 m] W fun e w' => e = .returned (.bool false) ∧ StC gc CS g gm gB f f w w' := fun W hW => (blank_bad (some ⟨g, 0, none⟩) a m kk W (may_any g f a m kk W hW.2.1 hmg2 hkk) (by rw [← hkk]; exact hm0)).mono (by
              rintro e w' ⟨rfl, rfl⟩
              exact ⟨rfl, hW⟩)
            have hc2 : ∀ W, StC gc CS g gm gB f f w W → Calls Try.prog 15 #[.pointer (some ⟨gm, 0, none⟩), .int .i64 a, .int .i64 m] W fun e w' => e = .returned (.bool false) ∧ StC gc CS g gm gB f f w w' := fun W hW => (rblank_bad gm gB a m kk f W hW.2.2.1 ⟨hmg1, hmg2⟩ hkk (by rw [← hkk]; exact hm0)).mono (by
              rintro e w' ⟨rfl, rfl⟩
              exact ⟨rfl, hW⟩)
            have HC1 := Lib.hid hc1
            have HC2 := Lib.hid hc2
            clear hc1 hc2 hm0 hkk c0 c1 c2 c3
            go_upto_region 22 with fail
            have HSTA : Hid (StC gc CS g gm gB f f w W0.drew) := Lib.hid ⟨HBOX.out, HF0.out, HR0.out, HBW.out.drew⟩
            refine wp_region_noPanic ?_
            refine wp_region_held_drew (S := (fun W => BoxC gc CS W)) (by kernel_rfl) HBOX.out (fun hH0 => ?_)
            have hH0 : BoxC gc CS W0.drew := hH0
            generalize W0.drew = wd2300 at *
            refine wpAnyH_take (i := 0) (oi := { dst := some 96, op := Op.move (Operand.tmp 5), type := 25, pos := "law.go:54", after := #[], guard := none }) (v := ?tkv2301) rfl (by kernel_rfl) (by kernel_rfl) (by kernel_rfl) (fun _ _ _ h => h) (Or.inl ⟨by rfl, ?tky2301⟩) hH0 ?tkr2301
            case tky2301 => (intro w' hSw; clear hSw; go_simp; try with_reducible rfl)
            try simp only [Act.put, List.setIfInBounds_toArray, List.set_cons_zero, List.set_cons_succ]
            refine wpAnyH_take (i := 1) (oi := { dst := some 97, op := Op.fieldAddr 31 (Operand.tmp 8) 1, type := 0, pos := "law.go:54", after := #[], guard := none }) (v := ?tkv2302) rfl (by kernel_rfl) (by kernel_rfl) (by kernel_rfl) (fun _ _ _ h => h) (Or.inl ⟨by rfl, ?tky2302⟩) hH0 ?tkr2302
            case tky2302 => (intro w' hSw; clear hSw; go_simp; try with_reducible rfl)
            try simp only [Act.put, List.setIfInBounds_toArray, List.set_cons_zero, List.set_cons_succ]
            refine wpAnyH_take (i := 2) (oi := { dst := some 98, op := Op.load 3 (Operand.tmp 97), type := 3, pos := "law.go:54", after := #[{ on := 1, ground := Ground.data }], guard := none }) (v := ?tkv2303) rfl (by kernel_rfl) (by kernel_rfl) (by kernel_rfl) (fun _ _ _ h => h) (Or.inl ⟨by rfl, ?tky2303⟩) hH0 ?tkr2303
            case tky2303 => (intro w' hSw; have z0 := HFB.out _ hSw; clear hSw; go_simp; try with_reducible rfl)
            try simp only [Act.put, List.setIfInBounds_toArray, List.set_cons_zero, List.set_cons_succ]
            refine wpAnyH_take (i := 3) (oi := { dst := some 99, op := Op.fieldAddr 31 (Operand.tmp 8) 2, type := 0, pos := "law.go:54", after := #[], guard := none }) (v := ?tkv2304) rfl (by kernel_rfl) (by kernel_rfl) (by kernel_rfl) (fun _ _ _ h => h) (Or.inl ⟨by rfl, ?tky2304⟩) hH0 ?tkr2304
            case tky2304 => (intro w' hSw; clear hSw; go_simp; try with_reducible rfl)
            try simp only [Act.put, List.setIfInBounds_toArray, List.set_cons_zero, List.set_cons_succ]
            refine wpAnyH_take (i := 4) (oi := { dst := some 100, op := Op.load 3 (Operand.tmp 99), type := 3, pos := "law.go:54", after := #[{ on := 3, ground := Ground.data }], guard := none }) (v := ?tkv2305) rfl (by kernel_rfl) (by kernel_rfl) (by kernel_rfl) (fun _ _ _ h => h) (Or.inl ⟨by rfl, ?tky2305⟩) hH0 ?tkr2305
            case tky2305 => (intro w' hSw; have z0 := HFB.out _ hSw; clear hSw; go_simp; try with_reducible rfl)
            try simp only [Act.put, List.setIfInBounds_toArray, List.set_cons_zero, List.set_cons_succ]
            refine wpAnyH_take (i := 6) (oi := { dst := some 102, op := Op.move (Operand.tmp 6), type := 27, pos := "law.go:54", after := #[], guard := none }) (v := ?tkv2306) rfl (by kernel_rfl) (by kernel_rfl) (by kernel_rfl) (fun _ _ _ h => h) (Or.inl ⟨by rfl, ?tky2306⟩) hH0 ?tkr2306
            case tky2306 => (intro w' hSw; clear hSw; go_simp; try with_reducible rfl)
            try simp only [Act.put, List.setIfInBounds_toArray, List.set_cons_zero, List.set_cons_succ]
            refine wpAnyH_take (i := 7) (oi := { dst := some 103, op := Op.fieldAddr 31 (Operand.tmp 8) 1, type := 0, pos := "law.go:54", after := #[], guard := none }) (v := ?tkv2307) rfl (by kernel_rfl) (by kernel_rfl) (by kernel_rfl) (fun _ _ _ h => h) (Or.inl ⟨by rfl, ?tky2307⟩) hH0 ?tkr2307
            case tky2307 => (intro w' hSw; clear hSw; go_simp; try with_reducible rfl)
            try simp only [Act.put, List.setIfInBounds_toArray, List.set_cons_zero, List.set_cons_succ]
            refine wpAnyH_take (i := 8) (oi := { dst := some 104, op := Op.load 3 (Operand.tmp 103), type := 3, pos := "law.go:54", after := #[{ on := 7, ground := Ground.data }], guard := none }) (v := ?tkv2308) rfl (by kernel_rfl) (by kernel_rfl) (by kernel_rfl) (fun _ _ _ h => h) (Or.inl ⟨by rfl, ?tky2308⟩) hH0 ?tkr2308
            case tky2308 => (intro w' hSw; have z0 := HFB.out _ hSw; clear hSw; go_simp; try with_reducible rfl)
            try simp only [Act.put, List.setIfInBounds_toArray, List.set_cons_zero, List.set_cons_succ]
            refine wpAnyH_take (i := 9) (oi := { dst := some 105, op := Op.fieldAddr 31 (Operand.tmp 8) 2, type := 0, pos := "law.go:54", after := #[], guard := none }) (v := ?tkv2309) rfl (by kernel_rfl) (by kernel_rfl) (by kernel_rfl) (fun _ _ _ h => h) (Or.inl ⟨by rfl, ?tky2309⟩) hH0 ?tkr2309
            case tky2309 => (intro w' hSw; clear hSw; go_simp; try with_reducible rfl)
            try simp only [Act.put, List.setIfInBounds_toArray, List.set_cons_zero, List.set_cons_succ]
            refine wpAnyH_take (i := 10) (oi := { dst := some 106, op := Op.load 3 (Operand.tmp 105), type := 3, pos := "law.go:54", after := #[{ on := 9, ground := Ground.data }], guard := none }) (v := ?tkv2310) rfl (by kernel_rfl) (by kernel_rfl) (by kernel_rfl) (fun _ _ _ h => h) (Or.inl ⟨by rfl, ?tky2310⟩) hH0 ?tkr2310
            case tky2310 => (intro w' hSw; have z0 := HFB.out _ hSw; clear hSw; go_simp; try with_reducible rfl)
            try simp only [Act.put, List.setIfInBounds_toArray, List.set_cons_zero, List.set_cons_succ]
            refine wpAnyH_ready (rs := [5]) (by kernel_rfl) (by simp) ?_
            refine AllReadyH.cons (o := { dst := some 101, op := Op.call { callee := Callee.value (Operand.func 14), args := #[Operand.tmp 96, Operand.tmp 98, Operand.tmp 100], argTypes := #[25, 3, 3] }, type := 4, pos := "law.go:54", after := #[{ on := 0, ground := Ground.data }, { on := 2, ground := Ground.data }, { on := 4, ground := Ground.data }], guard := none }) rfl (fun K hK => ?_) AllReadyH.nil
            go_simp
            refine (HC1.out _ HSTA.out).mono ?_
            rintro e' wa ⟨rfl, hst⟩
            have HSTB := Lib.hid hst
            clear hst
            go_simp
            have hS2311 : BoxC gc CS wa := HSTB.out.1
            refine hK.out _ _ hS2311 (fun hH2311 => ?_)
            have hH2311 : BoxC gc CS wa := hH2311
            clear hK K hS2311
            try simp only [Act.put, List.setIfInBounds_toArray, List.set_cons_zero, List.set_cons_succ]
            refine wpAnyH_ready (rs := [11]) (by kernel_rfl) (by simp) ?_
            refine AllReadyH.cons (o := { dst := some 107, op := Op.call { callee := Callee.value (Operand.func 15), args := #[Operand.tmp 102, Operand.tmp 104, Operand.tmp 106], argTypes := #[27, 3, 3] }, type := 4, pos := "law.go:54", after := #[{ on := 6, ground := Ground.data }, { on := 8, ground := Ground.data }, { on := 10, ground := Ground.data }, { on := 5, ground := Ground.chain }], guard := none }) rfl (fun K hK => ?_) AllReadyH.nil
            go_simp
            refine (HC2.out _ HSTB.out).mono ?_
            rintro e' wb ⟨rfl, hst⟩
            have HSTC := Lib.hid hst
            clear hst
            go_simp
            have hS2312 : BoxC gc CS wb := HSTC.out.1
            refine hK.out _ _ hS2312 (fun hH2312 => ?_)
            have hH2312 : BoxC gc CS wb := hH2312
            clear hK K hS2312
            try simp only [Act.put, List.setIfInBounds_toArray, List.set_cons_zero, List.set_cons_succ]
            refine wpAnyH_take (i := 12) (oi := { dst := some 108, op := Op.binOp BinOp.eql 4 (Operand.tmp 101) (Operand.tmp 107) 4, type := 4, pos := "law.go:54", after := #[{ on := 5, ground := Ground.data }, { on := 11, ground := Ground.data }], guard := none }) (v := ?tkv2313) rfl (by kernel_rfl) (by kernel_rfl) (by kernel_rfl) (fun _ _ _ h => h) (Or.inl ⟨by rfl, ?tky2313⟩) hH2312 ?tkr2313
            case tky2313 => (intro w' hSw; clear hSw; go_simp; try with_reducible rfl)
            try simp only [Act.put, List.setIfInBounds_toArray, List.set_cons_zero, List.set_cons_succ]
            refine wpAnyH_take (i := 13) (oi := { dst := some 9, op := Op.assign (Operand.tmp 108), type := 4, pos := "law.go:54", after := #[{ on := 12, ground := Ground.data }, { on := 11, ground := Ground.chain }, { on := 0, ground := Ground.phase }, { on := 1, ground := Ground.phase }, { on := 2, ground := Ground.phase }, { on := 3, ground := Ground.phase }, { on := 4, ground := Ground.phase }, { on := 5, ground := Ground.phase }, { on := 6, ground := Ground.phase }, { on := 7, ground := Ground.phase }, { on := 8, ground := Ground.phase }, { on := 9, ground := Ground.phase }, { on := 10, ground := Ground.phase }, { on := 11, ground := Ground.phase }, { on := 12, ground := Ground.phase }], guard := none }) (v := ?tkv2314) rfl (by kernel_rfl) (by kernel_rfl) (by kernel_rfl) (fun _ _ _ h => h) (Or.inl ⟨by rfl, ?tky2314⟩) hH2312 ?tkr2314
            case tky2314 => (intro w' hSw; clear hSw; go_simp; try with_reducible rfl)
            try simp only [Act.put, List.setIfInBounds_toArray, List.set_cons_zero, List.set_cons_succ]
            refine wpAnyH_done (by kernel_rfl) ?_ _
            refine NoPanic.normal ?_
            have HFA := Lib.hid HSTC.out.2.1
            have HRA := Lib.hid HSTC.out.2.2.1
            have HBA := Lib.hid HSTC.out.2.2.2
            clear HSTC
            go_wp2_with fail
            go_meet
            case rel => exact ⟨by first | rfl | simp, f, HFA, HRA, HOK3, HBA⟩
        by_cases k4 : d = 4
        · subst k4
          have HOK3 : Hid (Fl.Ok { f with there := decide (0 ≤ m), left := m, torn := a } (301 * ((k + 1 : Nat) : Int))) := by
            have h := hok.out
            exact ⟨h.1, by have := h.2.1; show f.steps ≤ _; push_cast; omega, ⟨hmg1, hmg2⟩, h.2.2.2.1, h.2.2.2.2⟩
          have HC1 := Lib.hid (fuse_any g m a f W0 HF0.out)
          have HC2 := Lib.hid (fun W (hW : RfAt W gm gB f) => rfuse_any m a hW ⟨hmg1, hmg2⟩)
          generalize ({ f with there := decide (0 ≤ m), left := m, torn := a } : Fl) = f9 at *
          go_wp2_with fail
          refine HC1.out.mono ?_
          rintro e w3 ⟨rfl, hdd⟩
          have HS3 := Lib.hid (HST0.out.done AP.out hdd.out)
          obtain ⟨d0, d1, d2, d3⟩ := HFB.out _ HS3.out.1
          clear hdd c0 c1 c2 c3
          go_wp2_with fail
          refine (HC2.out w3 HS3.out.2.2.1).mono ?_
          rintro e w4 ⟨rfl, hdd⟩
          have HS4 := Lib.hid (HS3.out.rdone AP.out hdd.out)
          have HFA := Lib.hid HS4.out.2.1
          have HRA := Lib.hid HS4.out.2.2.1
          have HBA := Lib.hid HS4.out.2.2.2
          clear hdd d0 d1 d2 d3 HS3 HS4
          go_wp2_with fail
          go_meet
          case rel => exact ⟨by first | rfl | simp, f9, HFA, HRA, HOK3, HBA⟩
        by_cases k5 : d = 5
        · subst k5
          have HOK3 : Hid (Fl.Ok { f with down := true } (301 * ((k + 1 : Nat) : Int))) := by
            have h := hok.out
            exact ⟨h.1, by have := h.2.1; show f.steps ≤ _; push_cast; omega, h.2.2⟩
          have HC1 := Lib.hid (cut_any g f W0 HF0.out)
          have HC2 := Lib.hid (fun W (hW : RfAt W gm gB f) => rcut_any hW)
          generalize ({ f with down := true } : Fl) = f9 at *
          go_wp2_with fail
          refine HC1.out.mono ?_
          rintro e w3 ⟨rfl, hdd⟩
          have HS3 := Lib.hid (HST0.out.done AP.out hdd.out)
          obtain ⟨d0, d1, d2, d3⟩ := HFB.out _ HS3.out.1
          clear hdd c0 c1 c2 c3
          go_wp2_with fail
          refine (HC2.out w3 HS3.out.2.2.1).mono ?_
          rintro e w4 ⟨rfl, hdd⟩
          have HS4 := Lib.hid (HS3.out.rdone AP.out hdd.out)
          have HFA := Lib.hid HS4.out.2.1
          have HRA := Lib.hid HS4.out.2.2.1
          have HBA := Lib.hid HS4.out.2.2.2
          clear hdd d0 d1 d2 d3 HS3 HS4
          go_wp2_with fail
          go_meet
          case rel => exact ⟨by first | rfl | simp, f9, HFA, HRA, HOK3, HBA⟩
        have HOK3 : Hid (Fl.Ok { f with down := false } (301 * ((k + 1 : Nat) : Int))) := by
          have h := hok.out
          exact ⟨h.1, by have := h.2.1; show f.steps ≤ _; push_cast; omega, h.2.2⟩
        have HC1 := Lib.hid (start_any g f W0 HF0.out)
        have HC2 := Lib.hid (fun W (hW : RfAt W gm gB f) => rstart_any hW)
        generalize ({ f with down := false } : Fl) = f9 at *
        go_wp2_with fail
        refine HC1.out.mono ?_
        rintro e w3 ⟨rfl, hdd⟩
        have HS3 := Lib.hid (HST0.out.done AP.out hdd.out)
        obtain ⟨d0, d1, d2, d3⟩ := HFB.out _ HS3.out.1
        clear hdd c0 c1 c2 c3
        go_wp2_with fail
        refine (HC2.out w3 HS3.out.2.2.1).mono ?_
        rintro e w4 ⟨rfl, hdd⟩
        have HS4 := Lib.hid (HS3.out.rdone AP.out hdd.out)
        have HFA := Lib.hid HS4.out.2.1
        have HRA := Lib.hid HS4.out.2.2.1
        have HBA := Lib.hid HS4.out.2.2.2
        clear hdd d0 d1 d2 d3 HS3 HS4
        go_wp2_with fail
        go_meet
        case rel => exact ⟨by first | rfl | simp, f9, HFA, HRA, HOK3, HBA⟩
      case rest =>
        obtain ⟨rfl, f3, HF3, HR3, HOK3, HB3⟩ := hcut
        generalize wc = wx at *
        have HDN := Lib.hid (fun W (hW : Below wx.heap.size wx W) => down_any g f3 f3.down W (HF3.out.below hW) rfl)
        have HSS := Lib.hid (fun W (hW : Below wx.heap.size wx W) => steps_any g f3 W (HF3.out.below hW))
        have HBY := Lib.hid (fun W (hW : Below wx.heap.size wx W) => bytes_any g f3 W (HF3.out.below hW))
        have hrb : Row wx wx.heap.size (some ⟨gB, 0, none⟩) 3584 (bv (f3.sub 0 3584)) := HR3.out.2.1.row (a := 0) (n := 3584) (by omega)
        have HF29 : Hid (∀ W, Below wx.heap.size wx W → W.cell? ⟨gm, 0, none⟩ = some (.slice (some ⟨gB, 0, none⟩) 3584 3584) ∧ W.cell? ⟨gm, 16, none⟩ = some (.bool f3.down) ∧ W.cell? ⟨gm, 17, none⟩ = some (.int .i64 f3.steps) ∧ (convert 29 9 (.slice (some ⟨gB, 0, none⟩) 3584 3584)).run Try.prog W = .ok (.string ⟨(f3.sub 0 3584).toArray⟩) W) := Lib.hid fun W hW =>
          ⟨(HR3.out.below hW).slot0, (HR3.out.below hW).off, (HR3.out.below hW).cnt, conv_row _ hrb (Nat.le_refl _) W hW⟩
        have hd1 : (f3.down != f3.down) = false := by simp
        have hd2 : (f3.steps != f3.steps) = false := by simp
        clear HF0 HR0 HBOX HBW HST0 c0 c1 c2 c3 hrb
        go_upto_region 29 with fail
        refine wp_region_noPanic ?_
        refine wp_region_held_drew (S := (fun W => Below wx.heap.size wx W)) (by kernel_rfl) (Below.refl _ _).drew (fun hH0 => ?_)
        have hH0 : Below wx.heap.size wx wx.drew := hH0
        generalize wx.drew = wd at *
        refine wpAnyH_take (i := 0) (oi := { dst := some 129, op := Op.move (Operand.tmp 9), type := 4, pos := "law.go:65", after := #[], guard := none }) (v := ?tkv5001) rfl (by kernel_rfl) (by kernel_rfl) (by kernel_rfl) (fun _ _ _ h => h) (Or.inl ⟨by rfl, ?tky5001⟩) hH0 ?tkr5001
        case tky5001 => (intro w' hSw; clear hSw; go_simp; try with_reducible rfl)
        try simp only [Act.put, List.setIfInBounds_toArray, List.set_cons_zero, List.set_cons_succ]
        refine wpAnyH_take (i := 1) (oi := { dst := some 130, op := Op.unOp UnOp.not 4 (Operand.tmp 129), type := 4, pos := "law.go:65", after := #[{ on := 0, ground := Ground.data }], guard := none }) (v := ?tkv5002) rfl (by kernel_rfl) (by kernel_rfl) (by kernel_rfl) (fun _ _ _ h => h) (Or.inl ⟨by rfl, ?tky5002⟩) hH0 ?tkr5002
        case tky5002 => (intro w' hSw; clear hSw; go_simp; try with_reducible rfl)
        try simp only [Act.put, List.setIfInBounds_toArray, List.set_cons_zero, List.set_cons_succ]
        refine wpAnyH_take (i := 2) (oi := { dst := some 131, op := Op.move (Operand.tmp 130), type := 4, pos := "law.go:65", after := #[{ on := 1, ground := Ground.data }], guard := none }) (v := ?tkv5003) rfl (by kernel_rfl) (by kernel_rfl) (by kernel_rfl) (fun _ _ _ h => h) (Or.inl ⟨by rfl, ?tky5003⟩) hH0 ?tkr5003
        case tky5003 => (intro w' hSw; clear hSw; go_simp; try with_reducible rfl)
        try simp only [Act.put, List.setIfInBounds_toArray, List.set_cons_zero, List.set_cons_succ]
        refine wpAnyH_take (i := 3) (oi := { dst := some 132, op := Op.move (Operand.tmp 5), type := 25, pos := "law.go:65", after := #[{ on := 2, ground := Ground.guard }], guard := some (2, false) }) (v := ?tkv5004) rfl (by kernel_rfl) (by kernel_rfl) (by kernel_rfl) (fun _ _ _ h => h) (Or.inl ⟨by rfl, ?tky5004⟩) hH0 ?tkr5004
        case tky5004 => (intro w' hSw; clear hSw; go_simp; try with_reducible rfl)
        try simp only [Act.put, List.setIfInBounds_toArray, List.set_cons_zero, List.set_cons_succ]
        refine wpAnyH_take (i := 5) (oi := { dst := some 134, op := Op.move (Operand.tmp 6), type := 27, pos := "law.go:65", after := #[{ on := 2, ground := Ground.guard }], guard := some (2, false) }) (v := ?tkv5005) rfl (by kernel_rfl) (by kernel_rfl) (by kernel_rfl) (fun _ _ _ h => h) (Or.inl ⟨by rfl, ?tky5005⟩) hH0 ?tkr5005
        case tky5005 => (intro w' hSw; clear hSw; go_simp; try with_reducible rfl)
        try simp only [Act.put, List.setIfInBounds_toArray, List.set_cons_zero, List.set_cons_succ]
        refine wpAnyH_take (i := 6) (oi := { dst := some 135, op := Op.nilCheck (Operand.tmp 134), type := 0, pos := "law.go:65", after := #[{ on := 5, ground := Ground.data }, { on := 2, ground := Ground.guard }], guard := some (2, false) }) (v := ?tkv5006) rfl (by kernel_rfl) (by kernel_rfl) (by kernel_rfl) (fun _ _ _ h => h) (Or.inl ⟨by rfl, ?tky5006⟩) hH0 ?tkr5006
        case tky5006 => (intro w' hSw; clear hSw; go_simp; try with_reducible rfl)
        try simp only [Act.put, List.setIfInBounds_toArray, List.set_cons_zero, List.set_cons_succ]
        refine wpAnyH_take (i := 7) (oi := { dst := some 136, op := Op.fieldAddr 41 (Operand.tmp 135) 3, type := 0, pos := "law.go:65", after := #[{ on := 6, ground := Ground.data }, { on := 2, ground := Ground.guard }], guard := some (2, false) }) (v := ?tkv5007) rfl (by kernel_rfl) (by kernel_rfl) (by kernel_rfl) (fun _ _ _ h => h) (Or.inl ⟨by rfl, ?tky5007⟩) hH0 ?tkr5007
        case tky5007 => (intro w' hSw; clear hSw; go_simp; try with_reducible rfl)
        try simp only [Act.put, List.setIfInBounds_toArray, List.set_cons_zero, List.set_cons_succ]
        refine wpAnyH_take (i := 8) (oi := { dst := some 137, op := Op.load 4 (Operand.tmp 136), type := 4, pos := "law.go:65", after := #[{ on := 7, ground := Ground.data }, { on := 2, ground := Ground.guard }], guard := some (2, false) }) (v := ?tkv5008) rfl (by kernel_rfl) (by kernel_rfl) (by kernel_rfl) (fun _ _ _ h => h) (Or.inl ⟨by rfl, ?tky5008⟩) hH0 ?tkr5008
        case tky5008 => (intro w' hSw; have z0 := HF29.out _ hSw; clear hSw; go_simp; try with_reducible rfl)
        try simp only [Act.put, List.setIfInBounds_toArray, List.set_cons_zero, List.set_cons_succ]
        refine wpAnyH_ready (rs := [4]) (by kernel_rfl) (by simp) ?_
        refine AllReadyH.cons (o := { dst := some 133, op := Op.call { callee := Callee.value (Operand.func 22), args := #[Operand.tmp 132], argTypes := #[25] }, type := 4, pos := "law.go:65", after := #[{ on := 3, ground := Ground.data }, { on := 2, ground := Ground.chain }, { on := 2, ground := Ground.guard }], guard := some (2, false) }) rfl (fun K hK => ?_) AllReadyH.nil
        go_simp
        refine (HDN.out _ hH0).mono ?_
        rintro e' wq ⟨rfl, rfl⟩
        go_simp
        refine hK.out _ _ hH0 (fun hH5009 => ?_)
        clear hK K
        try simp only [Act.put, List.setIfInBounds_toArray, List.set_cons_zero, List.set_cons_succ]
        refine wpAnyH_take (i := 9) (oi := { dst := some 138, op := Op.binOp BinOp.neq 4 (Operand.tmp 133) (Operand.tmp 137) 4, type := 4, pos := "law.go:65", after := #[{ on := 4, ground := Ground.data }, { on := 8, ground := Ground.data }, { on := 2, ground := Ground.guard }], guard := some (2, false) }) (v := ?tkv5010) rfl (by kernel_rfl) (by kernel_rfl) (by kernel_rfl) (fun _ _ _ h => h) (Or.inl ⟨by rfl, ?tky5010⟩) hH5009 ?tkr5010
        case tky5010 => (intro w' hSw; clear hSw; go_simp; try with_reducible rfl)
        try simp only [Act.put, List.setIfInBounds_toArray, List.set_cons_zero, List.set_cons_succ]
        refine wpAnyH_take (i := 10) (oi := { dst := some 139, op := Op.pick (Operand.tmp 131) (Operand.const (Value.bool true)) (Operand.tmp 138), type := 4, pos := "law.go:65", after := #[{ on := 2, ground := Ground.data }, { on := 9, ground := Ground.data }], guard := none }) (v := ?tkv5011) rfl (by kernel_rfl) (by kernel_rfl) (by kernel_rfl) (fun _ _ _ h => h) (Or.inl ⟨by rfl, ?tky5011⟩) hH5009 ?tkr5011
        case tky5011 => (intro w' hSw; clear hSw; go_simp; try with_reducible rfl)
        try simp only [Act.put, List.setIfInBounds_toArray, List.set_cons_zero, List.set_cons_succ]
        refine wpAnyH_take (i := 11) (oi := { dst := some 140, op := Op.move (Operand.tmp 139), type := 4, pos := "law.go:65", after := #[{ on := 10, ground := Ground.data }, { on := 4, ground := Ground.chain }], guard := none }) (v := ?tkv5012) rfl (by kernel_rfl) (by kernel_rfl) (by kernel_rfl) (fun _ _ _ h => h) (Or.inl ⟨by rfl, ?tky5012⟩) hH5009 ?tkr5012
        case tky5012 => (intro w' hSw; clear hSw; go_simp; try with_reducible rfl)
        try simp only [Act.put, List.setIfInBounds_toArray, List.set_cons_zero, List.set_cons_succ]
        refine wpAnyH_take (i := 12) (oi := { dst := some 141, op := Op.move (Operand.tmp 5), type := 25, pos := "law.go:65", after := #[{ on := 11, ground := Ground.guard }], guard := some (11, false) }) (v := ?tkv5013) rfl (by kernel_rfl) (by kernel_rfl) (by kernel_rfl) (fun _ _ _ h => h) (Or.inl ⟨by rfl, ?tky5013⟩) hH5009 ?tkr5013
        case tky5013 => (intro w' hSw; clear hSw; go_simp; try with_reducible rfl)
        try simp only [Act.put, List.setIfInBounds_toArray, List.set_cons_zero, List.set_cons_succ]
        refine wpAnyH_take (i := 14) (oi := { dst := some 143, op := Op.move (Operand.tmp 6), type := 27, pos := "law.go:65", after := #[{ on := 11, ground := Ground.guard }], guard := some (11, false) }) (v := ?tkv5014) rfl (by kernel_rfl) (by kernel_rfl) (by kernel_rfl) (fun _ _ _ h => h) (Or.inl ⟨by rfl, ?tky5014⟩) hH5009 ?tkr5014
        case tky5014 => (intro w' hSw; clear hSw; go_simp; try with_reducible rfl)
        try simp only [Act.put, List.setIfInBounds_toArray, List.set_cons_zero, List.set_cons_succ]
        refine wpAnyH_take (i := 15) (oi := { dst := some 144, op := Op.nilCheck (Operand.tmp 143), type := 0, pos := "law.go:65", after := #[{ on := 14, ground := Ground.data }, { on := 11, ground := Ground.guard }], guard := some (11, false) }) (v := ?tkv5015) rfl (by kernel_rfl) (by kernel_rfl) (by kernel_rfl) (fun _ _ _ h => h) (Or.inl ⟨by rfl, ?tky5015⟩) hH5009 ?tkr5015
        case tky5015 => (intro w' hSw; clear hSw; go_simp; try with_reducible rfl)
        try simp only [Act.put, List.setIfInBounds_toArray, List.set_cons_zero, List.set_cons_succ]
        refine wpAnyH_take (i := 16) (oi := { dst := some 145, op := Op.fieldAddr 41 (Operand.tmp 144) 4, type := 0, pos := "law.go:65", after := #[{ on := 15, ground := Ground.data }, { on := 11, ground := Ground.guard }], guard := some (11, false) }) (v := ?tkv5016) rfl (by kernel_rfl) (by kernel_rfl) (by kernel_rfl) (fun _ _ _ h => h) (Or.inl ⟨by rfl, ?tky5016⟩) hH5009 ?tkr5016
        case tky5016 => (intro w' hSw; clear hSw; go_simp; try with_reducible rfl)
        try simp only [Act.put, List.setIfInBounds_toArray, List.set_cons_zero, List.set_cons_succ]
        refine wpAnyH_take (i := 17) (oi := { dst := some 146, op := Op.load 3 (Operand.tmp 145), type := 3, pos := "law.go:65", after := #[{ on := 16, ground := Ground.data }, { on := 11, ground := Ground.guard }], guard := some (11, false) }) (v := ?tkv5017) rfl (by kernel_rfl) (by kernel_rfl) (by kernel_rfl) (fun _ _ _ h => h) (Or.inl ⟨by rfl, ?tky5017⟩) hH5009 ?tkr5017
        case tky5017 => (intro w' hSw; have z0 := HF29.out _ hSw; clear hSw; go_simp; try with_reducible rfl)
        try simp only [Act.put, List.setIfInBounds_toArray, List.set_cons_zero, List.set_cons_succ]
        refine wpAnyH_ready (rs := [13]) (by kernel_rfl) (by simp) ?_
        refine AllReadyH.cons (o := { dst := some 142, op := Op.call { callee := Callee.value (Operand.func 23), args := #[Operand.tmp 141], argTypes := #[25] }, type := 3, pos := "law.go:65", after := #[{ on := 12, ground := Ground.data }, { on := 11, ground := Ground.chain }, { on := 11, ground := Ground.guard }], guard := some (11, false) }) rfl (fun K hK => ?_) AllReadyH.nil
        go_simp
        refine (HSS.out _ hH5009).mono ?_
        rintro e' wq ⟨rfl, rfl⟩
        go_simp
        refine hK.out _ _ hH5009 (fun hH5018 => ?_)
        clear hK K
        try simp only [Act.put, List.setIfInBounds_toArray, List.set_cons_zero, List.set_cons_succ]
        refine wpAnyH_take (i := 18) (oi := { dst := some 147, op := Op.binOp BinOp.neq 3 (Operand.tmp 142) (Operand.tmp 146) 3, type := 4, pos := "law.go:65", after := #[{ on := 13, ground := Ground.data }, { on := 17, ground := Ground.data }, { on := 11, ground := Ground.guard }], guard := some (11, false) }) (v := ?tkv5019) rfl (by kernel_rfl) (by kernel_rfl) (by kernel_rfl) (fun _ _ _ h => h) (Or.inl ⟨by rfl, ?tky5019⟩) hH5018 ?tkr5019
        case tky5019 => (intro w' hSw; clear hSw; go_simp; try with_reducible rfl)
        try simp only [Act.put, List.setIfInBounds_toArray, List.set_cons_zero, List.set_cons_succ]
        refine wpAnyH_take (i := 19) (oi := { dst := some 148, op := Op.pick (Operand.tmp 140) (Operand.const (Value.bool true)) (Operand.tmp 147), type := 4, pos := "law.go:65", after := #[{ on := 11, ground := Ground.data }, { on := 18, ground := Ground.data }], guard := none }) (v := ?tkv5020) rfl (by kernel_rfl) (by kernel_rfl) (by kernel_rfl) (fun _ _ _ h => h) (Or.inl ⟨by rfl, ?tky5020⟩) hH5018 ?tkr5020
        case tky5020 => (intro w' hSw; clear hSw; go_simp; try with_reducible rfl)
        try simp only [Act.put, List.setIfInBounds_toArray, List.set_cons_zero, List.set_cons_succ]
        refine wpAnyH_take (i := 20) (oi := { dst := some 149, op := Op.move (Operand.tmp 148), type := 4, pos := "law.go:65", after := #[{ on := 19, ground := Ground.data }, { on := 13, ground := Ground.chain }], guard := none }) (v := ?tkv5021) rfl (by kernel_rfl) (by kernel_rfl) (by kernel_rfl) (fun _ _ _ h => h) (Or.inl ⟨by rfl, ?tky5021⟩) hH5018 ?tkr5021
        case tky5021 => (intro w' hSw; clear hSw; go_simp; try with_reducible rfl)
        try simp only [Act.put, List.setIfInBounds_toArray, List.set_cons_zero, List.set_cons_succ]
        refine wpAnyH_take (i := 21) (oi := { dst := some 150, op := Op.move (Operand.tmp 5), type := 25, pos := "law.go:65", after := #[{ on := 20, ground := Ground.guard }], guard := some (20, false) }) (v := ?tkv5022) rfl (by kernel_rfl) (by kernel_rfl) (by kernel_rfl) (fun _ _ _ h => h) (Or.inl ⟨by rfl, ?tky5022⟩) hH5018 ?tkr5022
        case tky5022 => (intro w' hSw; clear hSw; go_simp; try with_reducible rfl)
        try simp only [Act.put, List.setIfInBounds_toArray, List.set_cons_zero, List.set_cons_succ]
        refine wpAnyH_take (i := 24) (oi := { dst := some 153, op := Op.move (Operand.tmp 6), type := 27, pos := "law.go:65", after := #[{ on := 20, ground := Ground.guard }], guard := some (20, false) }) (v := ?tkv5023) rfl (by kernel_rfl) (by kernel_rfl) (by kernel_rfl) (fun _ _ _ h => h) (Or.inl ⟨by rfl, ?tky5023⟩) hH5018 ?tkr5023
        case tky5023 => (intro w' hSw; clear hSw; go_simp; try with_reducible rfl)
        try simp only [Act.put, List.setIfInBounds_toArray, List.set_cons_zero, List.set_cons_succ]
        refine wpAnyH_take (i := 25) (oi := { dst := some 154, op := Op.nilCheck (Operand.tmp 153), type := 0, pos := "law.go:65", after := #[{ on := 24, ground := Ground.data }, { on := 20, ground := Ground.guard }], guard := some (20, false) }) (v := ?tkv5024) rfl (by kernel_rfl) (by kernel_rfl) (by kernel_rfl) (fun _ _ _ h => h) (Or.inl ⟨by rfl, ?tky5024⟩) hH5018 ?tkr5024
        case tky5024 => (intro w' hSw; clear hSw; go_simp; try with_reducible rfl)
        try simp only [Act.put, List.setIfInBounds_toArray, List.set_cons_zero, List.set_cons_succ]
        refine wpAnyH_take (i := 26) (oi := { dst := some 155, op := Op.fieldAddr 41 (Operand.tmp 154) 0, type := 0, pos := "law.go:65", after := #[{ on := 25, ground := Ground.data }, { on := 20, ground := Ground.guard }], guard := some (20, false) }) (v := ?tkv5025) rfl (by kernel_rfl) (by kernel_rfl) (by kernel_rfl) (fun _ _ _ h => h) (Or.inl ⟨by rfl, ?tky5025⟩) hH5018 ?tkr5025
        case tky5025 => (intro w' hSw; clear hSw; go_simp; try with_reducible rfl)
        try simp only [Act.put, List.setIfInBounds_toArray, List.set_cons_zero, List.set_cons_succ]
        refine wpAnyH_take (i := 27) (oi := { dst := some 156, op := Op.load 29 (Operand.tmp 155), type := 29, pos := "law.go:65", after := #[{ on := 26, ground := Ground.data }, { on := 20, ground := Ground.guard }], guard := some (20, false) }) (v := ?tkv5026) rfl (by kernel_rfl) (by kernel_rfl) (by kernel_rfl) (fun _ _ _ h => h) (Or.inl ⟨by rfl, ?tky5026⟩) hH5018 ?tkr5026
        case tky5026 => (intro w' hSw; have z0 := HF29.out _ hSw; clear hSw; go_simp; try with_reducible rfl)
        try simp only [Act.put, List.setIfInBounds_toArray, List.set_cons_zero, List.set_cons_succ]
        refine wpAnyH_take (i := 28) (oi := { dst := some 157, op := Op.convert 29 9 (Operand.tmp 156), type := 9, pos := "law.go:65", after := #[{ on := 27, ground := Ground.data }, { on := 20, ground := Ground.guard }], guard := some (20, false) }) (v := ?tkv5027) rfl (by kernel_rfl) (by kernel_rfl) (by kernel_rfl) (fun _ _ _ h => h) (Or.inl ⟨by rfl, ?tky5027⟩) hH5018 ?tkr5027
        case tky5027 => (intro w' hSw; have z0 := HF29.out _ hSw; clear hSw; go_simp; try with_reducible rfl)
        try simp only [Act.put, List.setIfInBounds_toArray, List.set_cons_zero, List.set_cons_succ]
        refine wpAnyH_ready (rs := [22]) (by kernel_rfl) (by simp) ?_
        refine AllReadyH.cons (o := { dst := some 151, op := Op.call { callee := Callee.value (Operand.func 24), args := #[Operand.tmp 150], argTypes := #[25] }, type := 29, pos := "law.go:65", after := #[{ on := 21, ground := Ground.data }, { on := 20, ground := Ground.chain }, { on := 20, ground := Ground.guard }], guard := some (20, false) }) rfl (fun K hK => ?_) AllReadyH.nil
        go_simp
        refine (HBY.out _ hH5018).mono ?_
        rintro e' wby ⟨Ay, ny, cy, rfl, hny, hoy, hb22⟩
        obtain rfl : ny = 3584 := hny.out.trans (Fl.sub_length _ _ _)
        have HKY := Lib.hid (conv_own cy hoy)
        clear hny hoy
        go_simp
        refine hK.out _ _ ((hH5018).trans (hb22.mono (hH5018).size)) (fun hH5028 => ?_)
        clear hK K
        try simp only [Act.put, List.setIfInBounds_toArray, List.set_cons_zero, List.set_cons_succ]
        have hG5028 : (fun W => Below wx.heap.size wx W ∧ Below wby.heap.size wby W) wby := ⟨hH5028, Below.refl _ _⟩
        refine wpAnyH_grow (S' := (fun W => Below wx.heap.size wx W ∧ Below wby.heap.size wby W)) (fun _ h => h.1) _ _ _ _ ?_
        refine wpAnyH_take (i := 23) (oi := { dst := some 152, op := Op.convert 29 9 (Operand.tmp 151), type := 9, pos := "law.go:65", after := #[{ on := 22, ground := Ground.data }, { on := 20, ground := Ground.guard }], guard := some (20, false) }) (v := ?tkv5029) rfl (by kernel_rfl) (by kernel_rfl) (by kernel_rfl) (fun _ _ _ h => h) (Or.inl ⟨by rfl, ?tky5029⟩) hG5028 ?tkr5029
        case tky5029 => (intro w' hSw; have z0 := HF29.out _ hSw.1; have z1 := HKY.out _ hSw.2; clear hSw; go_simp; try with_reducible rfl)
        try simp only [Act.put, List.setIfInBounds_toArray, List.set_cons_zero, List.set_cons_succ]
        refine wpAnyH_take (i := 29) (oi := { dst := some 158, op := Op.binOp BinOp.neq 9 (Operand.tmp 152) (Operand.tmp 157) 9, type := 4, pos := "law.go:65", after := #[{ on := 23, ground := Ground.data }, { on := 28, ground := Ground.data }, { on := 20, ground := Ground.guard }], guard := some (20, false) }) (v := ?tkv5030) rfl (by kernel_rfl) (by kernel_rfl) (by kernel_rfl) (fun _ _ _ h => h) (Or.inl ⟨by rfl, ?tky5030⟩) hG5028 ?tkr5030
        case tky5030 => (intro w' hSw; clear hSw; go_simp; try with_reducible rfl)
        try simp only [Act.put, List.setIfInBounds_toArray, List.set_cons_zero, List.set_cons_succ]
        refine wpAnyH_take (i := 30) (oi := { dst := some 159, op := Op.pick (Operand.tmp 149) (Operand.const (Value.bool true)) (Operand.tmp 158), type := 4, pos := "law.go:65", after := #[{ on := 20, ground := Ground.data }, { on := 29, ground := Ground.data }], guard := none }) (v := ?tkv5031) rfl (by kernel_rfl) (by kernel_rfl) (by kernel_rfl) (fun _ _ _ h => h) (Or.inl ⟨by rfl, ?tky5031⟩) hG5028 ?tkr5031
        case tky5031 => (intro w' hSw; clear hSw; go_simp; try with_reducible rfl)
        try simp only [Act.put, List.setIfInBounds_toArray, List.set_cons_zero, List.set_cons_succ]
        refine wpAnyH_done (by kernel_rfl) ?_ _
        refine NoPanic.normal ?_
        have hEnd : Below wx.heap.size wx _ := hG5028.1
        have HE1 := Lib.hid (HF3.out.below hEnd)
        have HE2 := Lib.hid (HR3.out.below hEnd)
        have HE3 := Lib.hid (HB3.out.trans (hEnd.mono HB3.out.size))
        go_wp2_with fail
        go_roundw
        case rel => exact ⟨k + 1, f3, by omega, by go_num, HE1, HE2, HOK3, HE3⟩
        case measure => simp [intOf]; omega
    · obtain rfl : n = k := by omega
      have hE := fun s (hs : s < 14) => erases_any g s f wr hf.out hs
      have hEO := fun s (hs : s < 0 ∨ 14 ≤ s) => erases_out (some ⟨g, 0, none⟩) s wr (.inr hs)
      have HE := Lib.hid hE
      have HEO := Lib.hid hEO
      clear hE hEO
      go_wp2_with fail
      go_loop [14] (fun u => ∃ s : Int, -1 ≤ s ∧ s ≤ 15 ∧ u = .int .i64 s) (fun u => (15 - intOf u).toNat)
      case atStart => exact ⟨-1, by omega, by omega, rfl⟩
      case round =>
        obtain ⟨s, hs0, hs1, rfl⟩ := hrel
        by_cases h15 : s = 15
        · subst h15
          clear HE HEO
          go_wp2_with fail
          refine (awake16_any _).mono ?_
          rintro e w9 ⟨rfl, hb9⟩
          go_wp2_with fail
          go_ret
          exact ⟨rfl, hb.out.trans (hb9.mono hb.out.size)⟩
        have hs14 : s ≤ 14 := by omega
        by_cases hneg : s < 0
        · have HQ := Lib.hid (HEO.out s (.inl hneg))
          go_wp2_with fail
          refine HQ.out.mono ?_
          rintro e w9 ⟨rfl, rfl⟩
          go_wp2_with fail
          go_round
          case rel => exact ⟨s + 1, by omega, by omega, by go_num⟩
          case measure => simp [intOf]; omega
        by_cases hbig : s = 14
        · subst hbig
          have HQ := Lib.hid (HEO.out 14 (.inr (by omega)))
          go_wp2_with fail
          refine HQ.out.mono ?_
          rintro e w9 ⟨rfl, rfl⟩
          go_wp2_with fail
          go_round
          case rel => exact ⟨15, by omega, by omega, by go_num⟩
          case measure => simp [intOf]
        obtain ⟨q, rfl⟩ : ∃ q : Nat, s = q := ⟨s.toNat, by omega⟩
        have hq14 : q < 14 := by omega
        have hq14i : (q : Int) < 14 := by omega
        have hq0 : ¬ ((q : Int) < 0) := by omega
        have hq1 : (0 : Int) ≤ (q : Int) := by omega
        have HQ := Lib.hid (HE.out q hq14)
        have hce := hrf.out.erC hq14
        generalize f.er q = E at *
        have hee : (E != E) = false := by simp
        go_wp2_with fail
        refine HQ.out.mono ?_
        rintro e w9 ⟨rfl, rfl⟩
        go_wp2_with fail
        go_round
        case rel => exact ⟨(q : Int) + 1, by omega, by omega, by go_num⟩
        case measure => simp [intOf]; omega
end Go.Proofs.Ytdaiboaofjeliaa
