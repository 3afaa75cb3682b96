/- CellPlays: any calls, any fuses, any bytes written over it: each answer, all bytes, as the reference has them. Its walk. -/
import Derived.Test.YtmlmpjokmbgmcaaCPlIs
import Derived.Test.YtmlmpjokmbgmcaaCellAw
import Derived.Test.YtmlmpjokmbgmcaaRFl5
import Derived.Test.YtmlmpjokmbgmcaaFlFew
import Derived.Test.YtmlmpjokmbgmcaaFlChange
import Derived.Test.YtmlmpjokmbgmcaaLaw
import Derived.Deep.CutBlock
import Derived.Deep.DeepCutAuto
import Derived.Deep.RegionHeld3
namespace Go.Proofs.Ytmlmpjokmbgmcaa
open Go.ChangeShapes Go.WideShapes Go.ChangeAt Go.RowKit
theorem conv_own {w : World} {base n : Nat} {A : Option Addr} {l : List UInt8} (c : Nat) (h : w.ownsRow base 5 1 (.slice A n c) n (bv l)) : ∀ W, Below w.heap.size w W → (convert 27 9 (.slice A n c)).run Try.prog W = .ok (.string ⟨l.toArray⟩) W := fun _W hW =>
  run_string_row (Row.of_own (own_below h hW)) c 27 9 5 Try.underlying27 Try.underlying5 Try.underlying9
theorem conv_row {w : World} {B n : Nat} {A : Option Addr} {l : List UInt8} (c : Nat) (h : Row w B A n (bv l)) (hB : B ≤ w.heap.size) : ∀ W, Below w.heap.size w W → (convert 27 9 (.slice A n c)).run Try.prog W = .ok (.string ⟨l.toArray⟩) W := fun _W hW =>
  run_string_row (h.below (hW.mono hB)) c 27 9 5 Try.underlying27 Try.underlying5 Try.underlying9
def PrIs (f : Fl) (a : Nat) (l : List UInt8) (r : Fl × Int) : Prop := (f.down = true ∧ r = (f, 11)) ∨ (f.down = false ∧ r = f.prog a l)
theorem pr_any (f : Fl) (a : Nat) (l : List UInt8) : ∃ r, PrIs f a l r := by
  cases hd : f.down with
  | true => exact ⟨_, .inl ⟨hd, rfl⟩⟩
  | false => exact ⟨_, .inr ⟨hd, rfl⟩⟩
theorem PrIs.ok {f : Fl} {a : Nat} {l : List UInt8} {r : Fl × Int} {k : Int} (h : PrIs f a l r) (hok : f.Ok k) (hl : l.length ≤ 20) : r.1.Ok (k + 300) := by
  rcases h with ⟨_, rfl⟩ | ⟨_, rfl⟩
  · exact hok.more (by omega)
  · exact (hok.prog l a).more (by omega)
theorem prog_is (g a B n cap : Nat) (A : Option Addr) (l : List UInt8) (f : Fl) (w : World) (r : Fl × Int) (k : Int) (hf : FlAt w g f) (hl : Row w B A n (bv l)) (hA : 0 < n → ∀ b o, A = some ⟨b, o, none⟩ → b ≠ g) (hB : B ≤ w.heap.size) (ha : a + n ≤ 3584)
    (hok : f.Ok k) (hk : k ≤ 1000000) (h : PrIs f a l r) : Calls Try.prog 23 #[.pointer (some ⟨g, 0, none⟩), .int .i64 (a : Int), .slice A n cap] w fun e w' => e = .returned (.int .i64 r.2) ∧ Done g r.1 w w' := by
  rcases h with ⟨hd, rfl⟩ | ⟨hd, rfl⟩
  · refine (prog_bad (some ⟨g, 0, none⟩) a 11 n cap A w (may_any g f a n 11 w hf (by omega) (by unfold mayE; rw [hd]; rfl)) (by decide)).mono ?_
    rintro e w' ⟨rfl, rfl⟩
    exact ⟨rfl, done_below hf (Below.refl _ _)⟩
  · refine (prog_ok g a B n cap A l f w hf hl hA hB hd ha (by have := hok.1; omega) (by have := hok.2.1; omega) hok.2.2.1).mono ?_
    rintro e w' ⟨rfl, hdd⟩
    exact ⟨rfl, hdd.out⟩
theorem rprog_is (gm gB a B n cap : Nat) (A : Option Addr) (l : List UInt8) (f : Fl) (w : World) (r : Fl × Int) (k : Int) (hf : RfAt w gm gB f) (hl : Row w B A n (bv l)) (hA : 0 < n → ∀ b o, A = some ⟨b, o, none⟩ → b ≠ gm ∧ b ≠ gB) (hB : B ≤ w.heap.size) (ha : a + n ≤ 3584)
    (hok : f.Ok k) (hk : k ≤ 1000000) (h : PrIs f a l r) : Calls Try.prog 24 #[.pointer (some ⟨gm, 0, none⟩), .int .i64 (a : Int), .slice A n cap] w fun e w' => e = .returned (.int .i64 r.2) ∧ RDone gm gB r.1 w w' := by
  rcases h with ⟨hd, rfl⟩ | ⟨hd, rfl⟩
  · refine (rprog_bad gm gB n cap a 11 A f w hf (by omega) (by unfold mayE; rw [hd]; rfl) (by decide)).mono ?_
    rintro e w' ⟨rfl, rfl⟩
    exact ⟨rfl, rdone_below hf (Below.refl _ _)⟩
  · refine (rprog_ok gm gB a B n cap A l f w hf hl hA hB hd ha hok.1 (by have := hok.2.1; omega)).mono ?_
    rintro e w' ⟨rfl, hdd⟩
    exact ⟨rfl, hdd.out⟩
def BoxC (gc : Nat) (cs : Array Value) (W : World) : Prop := W.heap[gc]? = some (.cells cs 29 (0, 0))
/-- both flashes, and a call's box -/
def StC (gc : Nat) (cs : Array Value) (g gm gB : Nat) (f1 f2 : Fl) (w W : World) : Prop := BoxC gc cs W ∧ FlAt W g f1 ∧ RfAt W gm gB f2 ∧ Below w.heap.size w W
structure Apart3 (gc g gm gB B : Nat) : Prop where
  h1 : gc ≠ g
  h2 : gc ≠ gm
  h3 : gc ≠ gB
  h4 : gm ≠ g
  h5 : gB ≠ g
  h6 : B ≤ g
  h7 : B ≤ gm
  h8 : B ≤ gB
section
variable {gc g gm gB : Nat} {cs : Array Value} {f1 f2 f' : Fl} {w W W' : World}
theorem StC.lt (h : StC gc cs g gm gB f1 f2 w W) : gc < W.heap.size := (Array.getElem?_eq_some_iff.1 h.1).1
theorem StC.done (h : StC gc cs g gm gB f1 f2 w W) (ap : Apart3 gc g gm gB w.heap.size) (hd : Done g f' W W') : StC gc cs g gm gB f' f2 w W' :=
  ⟨(hd.2.block gc h.lt (by simpa using ap.h1)).trans h.1, hd.1, h.2.2.1.grown hd.2 ap.h4 ap.h5, h.2.2.2.grown hd.2 h.2.2.2.size (by intro q e; injection e with e; have := ap.h6; omega)⟩
theorem StC.rdone (h : StC gc cs g gm gB f1 f2 w W) (ap : Apart3 gc g gm gB w.heap.size) (hd : RDone gm gB f' W W') : StC gc cs g gm gB f1 f' w W' :=
  ⟨(hd.2.block gc h.lt ap.h2 ap.h3).trans h.1, h.2.1.gr2 hd.2 (fun e => ap.h4 e.symm) (fun e => ap.h5 e.symm), hd.1, below_gr2 h.2.2.2 hd.2 h.2.2.2.size ap.h7 ap.h8⟩
theorem StC.below (h : StC gc cs g gm gB f1 f2 w W) (hb : Below W.heap.size W W') : StC gc cs g gm gB f1 f2 w W' :=
  ⟨(hb.block gc h.lt).trans h.1, h.2.1.below hb, h.2.2.1.below hb, h.2.2.2.trans (hb.mono h.2.2.2.size)⟩
end
theorem mayE_zero {f : Fl} {a n : Int} (hk : mayE f a n = 0) : f.down = false ∧ 0 ≤ n ∧ 0 ≤ a ∧ a + n ≤ 3584 := by
  unfold mayE at hk
  cases hd : f.down with
  | true => rw [hd] at hk; simp at hk
  | false =>
    rw [hd] at hk
    simp only [Bool.false_eq_true, if_false] at hk
    by_cases h : n < 0 ∨ a < 0 ∨ 3584 - n < a
    · rw [if_pos h] at hk; cases hk
    · exact ⟨rfl, by omega, by omega, by omega⟩
set_option maxRecDepth 100000 in
set_option maxHeartbeats 25600000 in
theorem cplays_walk (wear : Int) (_ : -9223372036854775808 ≤ wear) (_ : wear ≤ 9223372036854775807) (A : Option Addr) (n cap : Nat) (ys : List FCall) (w : World) (hl : FCalls w A n ys) :
    Calls Try.prog 3 #[.int .i64 wear, .slice A n cap] w fun e w' => e = .returned (.bool true) ∧ Below w.heap.size w w' := by
  have HL := Lib.hid hl
  have HN := Lib.hid hl.1
  clear hl
  go_enter Try.func3, Try.ntmps3
  go_wp2_with fail
  obtain ⟨v, hv1, hv2, hnew⟩ := new_all wear w
  have hrnew := fun W => rnew_all wear W v hv2
  have HNEW := Lib.hid hnew
  have HRNEW := Lib.hid hrnew
  have hokv : ((flNew v).fill 0 3584).Ok 0 := ⟨Int.le_refl 0, Int.le_refl 0, by show _ ≤ (0 : Int) ∧ (0 : Int) ≤ _; decide, fun s => Int.le_refl 0, hv1⟩
  have HOK0 := Lib.hid hokv
  clear hnew hrnew hv1 hv2 hokv
  refine HNEW.out.mono ?_
  rintro e w1 ⟨g, rfl, hg, hf, hb1⟩
  have HB1 := Lib.hid hb1.out
  have hg1 := hf.out.lt
  go_wp2_with fail
  refine (HRNEW.out w1).mono ?_
  rintro e w2 ⟨gm, gB, rfl, hgm, hgB, hrf, hb2⟩
  have HF2 := Lib.hid (hf.out.below hb2.out)
  have HR2 := Lib.hid hrf.out
  generalize (flNew v).fill 0 3584 = f0 at *
  have hs1 := HB1.out.size
  have HB2 := Lib.hid (HB1.out.trans (hb2.out.mono hs1))
  have HGG : Hid (gm ≠ g ∧ gB ≠ g ∧ w.heap.size ≤ g ∧ w.heap.size ≤ gm ∧ w.heap.size ≤ gB) := ⟨by omega, by omega, by omega, by omega, by omega⟩
  clear hb1 hf hrf hb2 HB1 HNEW HRNEW hg hg1 hgm hgB hs1
  go_wp2_with fail
  go_loopw [24] (fun i wr => ∃ (k : Nat) (f : Fl), k ≤ n ∧ k ≤ 60 ∧ i = .int .i64 k ∧ Hid (FlAt wr g f) ∧ Hid (RfAt wr gm gB f) ∧ Hid (f.Ok (301 * k)) ∧ Hid (Below w.heap.size w wr)) (fun i _ => n - (intOf i).toNat)
  case atStart => exact ⟨0, f0, by omega, by omega, rfl, HF2, HR2, HOK0, HB2⟩
  case round =>
    clear HF2 HR2 HOK0 HB2
    obtain ⟨k, f, hk, hk60, rfl, hf, hrf, hok, hb⟩ := hrel
    have hsz := hb.out.size
    by_cases hlt : k < n
    · obtain ⟨b, o, y, rfl, hbl, hym, hyk, hyg, c0, c1, c2, c3⟩ := HL.out.at_ hb.out hlt
      obtain ⟨d, a, m, yA, ym, yc, yl⟩ := y
      dsimp only at c0 c1 c2 c3
      have HYG := Lib.hid hyg
      have hmg1 := HYG.out.2.2.2.2.2.1
      have hmg2 := HYG.out.2.2.2.2.2.2
      have hag1 := HYG.out.2.2.2.2.1.1
      have hag2 := HYG.out.2.2.2.2.1.2
      dsimp only at hmg1 hmg2 hag1 hag2
      by_cases h60 : k = 60
      · subst h60
        clear hf hrf
        go_wp2_with fail
        refine (awake17_any _).mono ?_
        rintro e w9 ⟨rfl, hb9⟩
        go_wp2_with fail
        go_ret
        exact ⟨rfl, (hb.out.alloc hb.out.size _).trans (hb9.mono (by simp; omega))⟩
      have hk59 : k < 60 := by omega
      by_cases h300 : 300 < ym
      · skip
        clear hf hrf
        go_wp2_with fail
        refine (awake17_any _).mono ?_
        rintro e w9 ⟨rfl, hb9⟩
        go_wp2_with fail
        go_ret
        exact ⟨rfl, (hb.out.alloc hb.out.size _).trans (hb9.mono (by simp; omega))⟩
      have hm3 : ym ≤ 300 := by omega
      have hk59i : ¬ (60 : Int) ≤ k := by omega
      have h300i : ¬ (300 : Int) < ym := by omega
      have HAG : Hid (0 < ym → ∀ b o, yA = some ⟨b, o, none⟩ → b ≠ g) := by
        intro h0 b' o' e
        obtain ⟨b2, o2, e2, hb2, _⟩ := HYG.out.1.2 h0
        have e3 := e2.symm.trans e
        injection e3 with e3
        injection e3 with e3
        have := HGG.out.2.2.1
        omega
      have HAR : Hid (0 < ym → ∀ b o, yA = some ⟨b, o, none⟩ → b ≠ gm ∧ b ≠ gB) := by
        intro h0 b' o' e
        obtain ⟨b2, o2, e2, hb2, _⟩ := HYG.out.1.2 h0
        have e3 := e2.symm.trans e
        injection e3 with e3
        injection e3 with e3
        have := HGG.out.2.2.2
        omega
      clear hyg hym hyk
      obtain ⟨CS, hCS⟩ : ∃ CS : Array Value, CS = #[.int .i64 d, .int .i64 a, .int .i64 m, .slice yA ym yc] := ⟨_, rfl⟩
      have HFB : Hid (∀ W, BoxC wr.heap.size CS W → W.cell? ⟨wr.heap.size, 0, none⟩ = some (.int .i64 d) ∧ W.cell? ⟨wr.heap.size, 1, none⟩ = some (.int .i64 a) ∧ W.cell? ⟨wr.heap.size, 2, none⟩ = some (.int .i64 m) ∧ W.cell? ⟨wr.heap.size, 3, none⟩ = some (.slice yA ym yc)) := Lib.hid fun W hW => by
        unfold BoxC at hW
        rw [hCS] at hW
        refine ⟨?_, ?_, ?_, ?_⟩ <;> (rw [cell_of_row W _ _ _ _ (0, 0) hW]; rfl)
      obtain ⟨W0, hW0⟩ : ∃ W0, wr.alloc (.cells #[.int .i64 d, .int .i64 a, .int .i64 m, .slice yA ym yc] 29) = W0 := ⟨_, rfl⟩
      have hbW : Below wr.heap.size wr W0 := by rw [← hW0]; exact (Below.refl _ _).alloc (Nat.le_refl _) _
      have hxW : BoxC wr.heap.size CS W0 := by rw [← hW0, hCS]; exact heap_alloc_new wr _
      have hgf := hf.out.lt
      have hgr := hrf.out.2.1.lt
      obtain ⟨_, _, _, _, _, hgh⟩ := hrf.out
      have hgr2 := hgh.lt
      have AP : Hid (Apart3 wr.heap.size g gm gB w.heap.size) := ⟨by omega, by omega, by omega, HGG.out.1, HGG.out.2.1, HGG.out.2.2.1, HGG.out.2.2.2.1, HGG.out.2.2.2.2⟩
      obtain ⟨gc, hgc⟩ : ∃ gc, wr.heap.size = gc := ⟨_, rfl⟩
      have HW0 := Lib.hid hW0
      have HBW := Lib.hid (hb.out.trans (hbW.mono hsz))
      have HF0 := Lib.hid (hf.out.below hbW)
      have HR0 := Lib.hid (hrf.out.below hbW)
      have HBOX := Lib.hid hxW
      clear hW0 hbW hxW hf hrf hb hgf hgr hgh hgr2 hCS
      go_upto_region 5 with fail
      rw [HW0.out]
      rw [hgc] at HBOX AP HFB
      clear HW0 c0 c1 c2 c3 hsz
      try rw [hgc]
      have HST0 : Hid (StC gc CS g gm gB f f w W0) := ⟨HBOX.out, HF0.out, HR0.out, HBW.out⟩
      obtain ⟨c0, c1, c2, c3⟩ := HFB.out _ HBOX.out
      go_upto_block 2 with fail
      go_cut [9] (fun s wx => s = .bool true ∧ ∃ f3 : Fl, Hid (FlAt wx g f3) ∧ Hid (RfAt wx gm gB f3) ∧ Hid (f3.Ok (301 * ((k + 1 : Nat) : Int))) ∧ Hid (Below w.heap.size w wx))
      case first =>
        by_cases k0 : d = 0
        · subst k0
          obtain ⟨dd, kk, hrd, hdl⟩ := rd_is f
          have HRD := Lib.hid (cread_is g f dd kk W0 HF0.out hrd)
          have HRR := Lib.hid (fun W (hW : RfAt W gm gB f) => rcread_any gm gB f dd kk W hW hrd)
          have hkb : (kk == kk) = true := by simp
          have HOK3 : Hid (f.Ok (301 * ((k + 1 : Nat) : Int))) := hok.out.more (by push_cast; omega)
          clear hrd hdl
          go_wp2_with fail
          refine HRD.out.mono ?_
          rintro e w3 ⟨A3, n3, k3, rfl, hn3, HR3, hb3⟩
          have HS3 := Lib.hid (HST0.out.below hb3.out)
          obtain ⟨d0, d1, d2, d3⟩ := HFB.out _ HS3.out.1
          clear hn3 HRD c0 c1 c2 c3
          go_wp2_with fail
          refine (HRR.out w3 HS3.out.2.2.1).mono ?_
          rintro e w4 ⟨A4, n4, k4, rfl, hn4, HR4, hb4⟩
          have HS4 := Lib.hid (HS3.out.below hb4.out)
          have hk1 := run_string_row (P := Try.prog) ((HR3.out.below hb4.out).more hb4.out.size) k3 27 9 5 Try.underlying27 Try.underlying5 Try.underlying9
          have hk2 := run_string_row (P := Try.prog) HR4.out k4 27 9 5 Try.underlying27 Try.underlying5 Try.underlying9
          have HFA := Lib.hid HS4.out.2.1
          have HRA := Lib.hid HS4.out.2.2.1
          have HBA := Lib.hid HS4.out.2.2.2
          clear hn4 hb3 hb4 HRR d0 d1 d2 d3 HS3 HS4 HR3 HR4
          go_wp2_with fail
          go_meet
          case rel => exact ⟨by first | rfl | simp, f, HFA, HRA, HOK3, HBA⟩
        by_cases k1 : d = 1
        · subst k1
          have hrw : ∀ W, Below w.heap.size w W → Row W w.heap.size yA ym (bv yl) := fun W hW => HYG.out.1.below hW
          obtain ⟨r, hwr⟩ := wr_any f yl
          have hok2 := hwr.ok hok.out
          have HOK3 : Hid (r.1.Ok (301 * ((k + 1 : Nat) : Int))) := hok2.more (by push_cast; omega)
          have hc1 : ∀ W, StC gc CS g gm gB f f w W → Calls Try.prog 19 #[.pointer (some ⟨g, 0, none⟩), .slice yA ym yc] W fun e w' => e = .returned (.int .i64 r.2) ∧ StC gc CS g gm gB r.1 f w w' := fun W hW => (cwrite_is g w.heap.size ym yc yA yl f W r _ hW.2.1 (hrw W hW.2.2.2) HAG.out hW.2.2.2.size hok.out (by omega) hwr).mono (by
            rintro e w' ⟨rfl, hdd⟩
            exact ⟨rfl, hW.done AP.out hdd⟩)
          have hc2 : ∀ W, StC gc CS g gm gB r.1 f w W → Calls Try.prog 20 #[.pointer (some ⟨gm, 0, none⟩), .slice yA ym yc] W fun e w' => e = .returned (.int .i64 r.2) ∧ StC gc CS g gm gB r.1 r.1 w w' := fun W hW => (rcwrite_is gm gB w.heap.size ym yc yA yl f W r _ hW.2.2.1 (hrw W hW.2.2.2) HAR.out hW.2.2.2.size hok.out (by omega) hwr).mono (by
            rintro e w' ⟨rfl, hdd⟩
            exact ⟨rfl, hW.rdone AP.out hdd⟩)
          have HC1 := Lib.hid hc1
          have HC2 := Lib.hid hc2
          clear hc1 hc2 hok2 hwr hrw c0 c1 c2 c3
          obtain ⟨f9, r9⟩ := r
          dsimp only at HC1 HC2 HOK3
          have hr9 : (r9 == r9) = true := by simp
          go_upto_region 16 with fail
          have HSTA : Hid (StC gc CS g gm gB f f w W0.drew) := Lib.hid ⟨HBOX.out, HF0.out, HR0.out, HBW.out.drew⟩
          refine wp_region_noPanic ?_
          refine wp_region_held_drew (S := (fun W => BoxC gc CS W)) (by kernel_rfl) HBOX.out (fun hH0 => ?_)
          have hH0 : BoxC gc CS W0.drew := hH0
          generalize W0.drew = wd1100 at *
          refine wpAnyH_take (i := 0) (oi := { dst := some 68, op := Op.move (Operand.tmp 5), type := 23, pos := "law.go:40", after := #[], guard := none }) (v := ?tkv1101) rfl (by kernel_rfl) (by kernel_rfl) (by kernel_rfl) (fun _ _ _ h => h) (Or.inl ⟨by rfl, ?tky1101⟩) hH0 ?tkr1101
          case tky1101 => (intro w' hSw; clear hSw; go_simp; try with_reducible rfl)
          try simp only [Act.put, List.setIfInBounds_toArray, List.set_cons_zero, List.set_cons_succ]
          refine wpAnyH_take (i := 1) (oi := { dst := some 69, op := Op.fieldAddr 29 (Operand.tmp 8) 3, type := 0, pos := "law.go:40", after := #[], guard := none }) (v := ?tkv1102) rfl (by kernel_rfl) (by kernel_rfl) (by kernel_rfl) (fun _ _ _ h => h) (Or.inl ⟨by rfl, ?tky1102⟩) hH0 ?tkr1102
          case tky1102 => (intro w' hSw; clear hSw; go_simp; try with_reducible rfl)
          try simp only [Act.put, List.setIfInBounds_toArray, List.set_cons_zero, List.set_cons_succ]
          refine wpAnyH_take (i := 2) (oi := { dst := some 70, op := Op.load 27 (Operand.tmp 69), type := 27, pos := "law.go:40", after := #[{ on := 1, ground := Ground.data }], guard := none }) (v := ?tkv1103) rfl (by kernel_rfl) (by kernel_rfl) (by kernel_rfl) (fun _ _ _ h => h) (Or.inl ⟨by rfl, ?tky1103⟩) hH0 ?tkr1103
          case tky1103 => (intro w' hSw; have z0 := HFB.out _ hSw; clear hSw; go_simp; try with_reducible rfl)
          try simp only [Act.put, List.setIfInBounds_toArray, List.set_cons_zero, List.set_cons_succ]
          refine wpAnyH_take (i := 4) (oi := { dst := some 72, op := Op.move (Operand.tmp 6), type := 25, pos := "law.go:40", after := #[], guard := none }) (v := ?tkv1104) rfl (by kernel_rfl) (by kernel_rfl) (by kernel_rfl) (fun _ _ _ h => h) (Or.inl ⟨by rfl, ?tky1104⟩) hH0 ?tkr1104
          case tky1104 => (intro w' hSw; clear hSw; go_simp; try with_reducible rfl)
          try simp only [Act.put, List.setIfInBounds_toArray, List.set_cons_zero, List.set_cons_succ]
          refine wpAnyH_take (i := 5) (oi := { dst := some 73, op := Op.fieldAddr 29 (Operand.tmp 8) 3, type := 0, pos := "law.go:40", after := #[], guard := none }) (v := ?tkv1105) rfl (by kernel_rfl) (by kernel_rfl) (by kernel_rfl) (fun _ _ _ h => h) (Or.inl ⟨by rfl, ?tky1105⟩) hH0 ?tkr1105
          case tky1105 => (intro w' hSw; clear hSw; go_simp; try with_reducible rfl)
          try simp only [Act.put, List.setIfInBounds_toArray, List.set_cons_zero, List.set_cons_succ]
          refine wpAnyH_take (i := 6) (oi := { dst := some 74, op := Op.load 27 (Operand.tmp 73), type := 27, pos := "law.go:40", after := #[{ on := 5, ground := Ground.data }], guard := none }) (v := ?tkv1106) rfl (by kernel_rfl) (by kernel_rfl) (by kernel_rfl) (fun _ _ _ h => h) (Or.inl ⟨by rfl, ?tky1106⟩) hH0 ?tkr1106
          case tky1106 => (intro w' hSw; have z0 := HFB.out _ hSw; clear hSw; go_simp; try with_reducible rfl)
          try simp only [Act.put, List.setIfInBounds_toArray, List.set_cons_zero, List.set_cons_succ]
          refine wpAnyH_ready (rs := [3]) (by kernel_rfl) (by simp) ?_
          refine AllReadyH.cons (o := { dst := some 71, op := Op.call { callee := Callee.value (Operand.func 19), args := #[Operand.tmp 68, Operand.tmp 70], argTypes := #[23, 27] }, type := 31, pos := "law.go:40", after := #[{ on := 0, ground := Ground.data }, { on := 2, ground := Ground.data }], guard := none }) rfl (fun K hK => ?_) AllReadyH.nil
          go_simp
          refine (HC1.out _ HSTA.out).mono ?_
          rintro e' wa ⟨rfl, hst⟩
          have HSTB := Lib.hid hst
          clear hst
          go_simp
          have hS1107 : BoxC gc CS wa := HSTB.out.1
          refine hK.out _ _ hS1107 (fun hH1107 => ?_)
          have hH1107 : BoxC gc CS wa := hH1107
          clear hK K hS1107
          try simp only [Act.put, List.setIfInBounds_toArray, List.set_cons_zero, List.set_cons_succ]
          refine wpAnyH_ready (rs := [7]) (by kernel_rfl) (by simp) ?_
          refine AllReadyH.cons (o := { dst := some 75, op := Op.call { callee := Callee.value (Operand.func 20), args := #[Operand.tmp 72, Operand.tmp 74], argTypes := #[25, 27] }, type := 31, pos := "law.go:40", after := #[{ on := 4, ground := Ground.data }, { on := 6, ground := Ground.data }, { on := 3, ground := Ground.chain }], guard := none }) rfl (fun K hK => ?_) AllReadyH.nil
          go_simp
          refine (HC2.out _ HSTB.out).mono ?_
          rintro e' wb ⟨rfl, hst⟩
          have HSTC := Lib.hid hst
          clear hst
          go_simp
          have hS1108 : BoxC gc CS wb := HSTC.out.1
          refine hK.out _ _ hS1108 (fun hH1108 => ?_)
          have hH1108 : BoxC gc CS wb := hH1108
          clear hK K hS1108
          try simp only [Act.put, List.setIfInBounds_toArray, List.set_cons_zero, List.set_cons_succ]
          refine wpAnyH_take (i := 8) (oi := { dst := some 76, op := Op.binOp BinOp.eql 31 (Operand.tmp 71) (Operand.tmp 75) 31, type := 4, pos := "law.go:40", after := #[{ on := 3, ground := Ground.data }, { on := 7, ground := Ground.data }], guard := none }) (v := ?tkv1109) rfl (by kernel_rfl) (by kernel_rfl) (by kernel_rfl) (fun _ _ _ h => h) (Or.inl ⟨by rfl, ?tky1109⟩) hH1108 ?tkr1109
          case tky1109 => (intro w' hSw; clear hSw; go_simp; try with_reducible rfl)
          try simp only [Act.put, List.setIfInBounds_toArray, List.set_cons_zero, List.set_cons_succ]
          refine wpAnyH_take (i := 9) (oi := { dst := some 9, op := Op.assign (Operand.tmp 76), type := 4, pos := "law.go:40", after := #[{ on := 8, ground := Ground.data }, { on := 7, ground := Ground.chain }, { on := 0, ground := Ground.phase }, { on := 1, ground := Ground.phase }, { on := 2, ground := Ground.phase }, { on := 3, ground := Ground.phase }, { on := 4, ground := Ground.phase }, { on := 5, ground := Ground.phase }, { on := 6, ground := Ground.phase }, { on := 7, ground := Ground.phase }, { on := 8, ground := Ground.phase }], guard := none }) (v := ?tkv1110) rfl (by kernel_rfl) (by kernel_rfl) (by kernel_rfl) (fun _ _ _ h => h) (Or.inl ⟨by rfl, ?tky1110⟩) hH1108 ?tkr1110
          case tky1110 => (intro w' hSw; clear hSw; go_simp; try with_reducible rfl)
          try simp only [Act.put, List.setIfInBounds_toArray, List.set_cons_zero, List.set_cons_succ]
          refine wpAnyH_done (by kernel_rfl) ?_ _
          refine NoPanic.normal ?_
          have HFA := Lib.hid HSTC.out.2.1
          have HRA := Lib.hid HSTC.out.2.2.1
          have HBA := Lib.hid HSTC.out.2.2.2
          clear HSTC
          go_wp2_with fail
          go_meet
          case rel => exact ⟨by first | rfl | simp, f9, HFA, HRA, HOK3, HBA⟩
        by_cases k2 : d = 2
        · subst k2
          have HOK3 : Hid (Fl.Ok { f with there := decide (0 ≤ a), left := a, torn := m } (301 * ((k + 1 : Nat) : Int))) := by
            have h := hok.out
            exact ⟨h.1, by have := h.2.1; show f.steps ≤ _; push_cast; omega, ⟨hag1, hag2⟩, h.2.2.2.1, h.2.2.2.2⟩
          have HC1 := Lib.hid (fuse_any g a m f W0 HF0.out)
          have HC2 := Lib.hid (fun W (hW : RfAt W gm gB f) => rfuse_any a m hW ⟨hag1, hag2⟩)
          generalize ({ f with there := decide (0 ≤ a), left := a, torn := m } : Fl) = f9 at *
          go_wp2_with fail
          refine HC1.out.mono ?_
          rintro e w3 ⟨rfl, hdd⟩
          have HS3 := Lib.hid (HST0.out.done AP.out hdd.out)
          obtain ⟨d0, d1, d2, d3⟩ := HFB.out _ HS3.out.1
          clear hdd c0 c1 c2 c3
          go_wp2_with fail
          refine (HC2.out w3 HS3.out.2.2.1).mono ?_
          rintro e w4 ⟨rfl, hdd⟩
          have HS4 := Lib.hid (HS3.out.rdone AP.out hdd.out)
          have HFA := Lib.hid HS4.out.2.1
          have HRA := Lib.hid HS4.out.2.2.1
          have HBA := Lib.hid HS4.out.2.2.2
          clear hdd d0 d1 d2 d3 HS3 HS4
          go_wp2_with fail
          go_meet
          case rel => exact ⟨by first | rfl | simp, f9, HFA, HRA, HOK3, HBA⟩
        by_cases k3 : d = 3
        · subst k3
          obtain ⟨pa, hpa, hpk⟩ := pick_in a 512 (by omega) (by omega)
          have HPK := Lib.hid hpk
          clear hpk
          rcases (show ym < 20 ∨ ym = 20 ∨ 20 < ym by omega) with hlt20 | rfl | hlt20
          · have hi1 : (ym : Int) < 20 := by omega
            have hi2 : ¬ (20 : Int) < ym := by omega
            have hi3 : (ym : Int) ≤ 20 := by omega
            have hi4 : ¬ (20 : Int) ≤ ym := by omega
            have hrw : ∀ W, Below w.heap.size w W → Row W w.heap.size yA (ym) (bv (yl.take (ym))) := fun W hW => by
              have h : Row W w.heap.size yA (ym) (bv yl) := HYG.out.1.below hW
              have := h.head (k := ym) (by omega)
              rwa [bv_take] at this
            have hbl : (yl.take (ym)).length ≤ 20 := by rw [List.length_take]; omega
            have hcp : ((ym : Nat) : Int) ≤ yc := by have h : (ym : Nat) ≤ yc := HYG.out.2.1; omega
            have hcq : ((ym : Nat) : Int) ≤ ym := by omega
            have hag : 0 < (ym : Nat) → ∀ b o, yA = some ⟨b, o, none⟩ → b ≠ g := fun h => HAG.out (by omega)
            have har : 0 < (ym : Nat) → ∀ b o, yA = some ⟨b, o, none⟩ → b ≠ gm ∧ b ≠ gB := fun h => HAR.out (by omega)
            obtain ⟨r, hpr⟩ := pr_any f pa (yl.take (ym))
            have hok2 := hpr.ok hok.out hbl
            have HOK3 : Hid (r.1.Ok (301 * ((k + 1 : Nat) : Int))) := hok2.more (by push_cast; omega)
            have HC1 := Lib.hid (fun cap => prog_is g pa w.heap.size (ym) cap yA _ f W0 r _ HF0.out (hrw W0 HBW.out) hag HBW.out.size (by omega) hok.out (by omega) hpr)
            have HC2 := Lib.hid (fun cap W (hW : StC gc CS g gm gB r.1 f w W) => rprog_is gm gB pa w.heap.size (ym) cap yA _ f W r _ hW.2.2.1 (hrw W hW.2.2.2) har hW.2.2.2.size (by omega) hok.out (by omega) hpr)
            clear hok2 hpr hrw hbl hag har
            obtain ⟨f9, r9⟩ := r
            dsimp only at HC1 HC2 HOK3
            have hr9 : (r9 == r9) = true := by simp
            go_upto_region 22 with fail
            rw [HPK.out]
            go_wp2_with fail
            refine (HC1.out _).mono ?_
            rintro e w3 ⟨rfl, hdd⟩
            have HS3 := Lib.hid (HST0.out.done AP.out hdd)
            obtain ⟨d0, d1, d2, d3⟩ := HFB.out _ HS3.out.1
            clear hdd c0 c1 c2 c3
            go_wp2_with fail
            refine (HC2.out _ w3 HS3.out).mono ?_
            rintro e w4 ⟨rfl, hdd⟩
            have HS4 := Lib.hid (HS3.out.rdone AP.out hdd)
            have HFA := Lib.hid HS4.out.2.1
            have HRA := Lib.hid HS4.out.2.2.1
            have HBA := Lib.hid HS4.out.2.2.2
            clear hdd d0 d1 d2 d3 HS3 HS4
            go_wp2_with fail
            go_meet
            case rel => exact ⟨by first | rfl | simp, f9, HFA, HRA, HOK3, HBA⟩
          · skip
            have hrw : ∀ W, Below w.heap.size w W → Row W w.heap.size yA (20) (bv (yl.take (20))) := fun W hW => by
              have h : Row W w.heap.size yA (20) (bv yl) := HYG.out.1.below hW
              have := h.head (k := 20) (by omega)
              rwa [bv_take] at this
            have hbl : (yl.take (20)).length ≤ 20 := by rw [List.length_take]; omega
            have hcp : ((20 : Nat) : Int) ≤ yc := by have h : (20 : Nat) ≤ yc := HYG.out.2.1; omega
            have hcq : ((20 : Nat) : Int) ≤ (20 : Int) := by omega
            have hag : 0 < (20 : Nat) → ∀ b o, yA = some ⟨b, o, none⟩ → b ≠ g := fun h => HAG.out (by omega)
            have har : 0 < (20 : Nat) → ∀ b o, yA = some ⟨b, o, none⟩ → b ≠ gm ∧ b ≠ gB := fun h => HAR.out (by omega)
            obtain ⟨r, hpr⟩ := pr_any f pa (yl.take (20))
            have hok2 := hpr.ok hok.out hbl
            have HOK3 : Hid (r.1.Ok (301 * ((k + 1 : Nat) : Int))) := hok2.more (by push_cast; omega)
            have HC1 := Lib.hid (fun cap => prog_is g pa w.heap.size (20) cap yA _ f W0 r _ HF0.out (hrw W0 HBW.out) hag HBW.out.size (by omega) hok.out (by omega) hpr)
            have HC2 := Lib.hid (fun cap W (hW : StC gc CS g gm gB r.1 f w W) => rprog_is gm gB pa w.heap.size (20) cap yA _ f W r _ hW.2.2.1 (hrw W hW.2.2.2) har hW.2.2.2.size (by omega) hok.out (by omega) hpr)
            clear hok2 hpr hrw hbl hag har
            obtain ⟨f9, r9⟩ := r
            dsimp only at HC1 HC2 HOK3
            have hr9 : (r9 == r9) = true := by simp
            go_upto_region 22 with fail
            rw [HPK.out]
            go_wp2_with fail
            refine (HC1.out _).mono ?_
            rintro e w3 ⟨rfl, hdd⟩
            have HS3 := Lib.hid (HST0.out.done AP.out hdd)
            obtain ⟨d0, d1, d2, d3⟩ := HFB.out _ HS3.out.1
            clear hdd c0 c1 c2 c3
            go_wp2_with fail
            refine (HC2.out _ w3 HS3.out).mono ?_
            rintro e w4 ⟨rfl, hdd⟩
            have HS4 := Lib.hid (HS3.out.rdone AP.out hdd)
            have HFA := Lib.hid HS4.out.2.1
            have HRA := Lib.hid HS4.out.2.2.1
            have HBA := Lib.hid HS4.out.2.2.2
            clear hdd d0 d1 d2 d3 HS3 HS4
            go_wp2_with fail
            go_meet
            case rel => exact ⟨by first | rfl | simp, f9, HFA, HRA, HOK3, HBA⟩
          · have hi1 : ¬ (ym : Int) < 20 := by omega
            have hi2 : (20 : Int) < ym := by omega
            have hi3 : ¬ (ym : Int) ≤ 20 := by omega
            have hi4 : (20 : Int) ≤ ym := by omega
            have hrw : ∀ W, Below w.heap.size w W → Row W w.heap.size yA (20) (bv (yl.take (20))) := fun W hW => by
              have h : Row W w.heap.size yA (ym) (bv yl) := HYG.out.1.below hW
              have := h.head (k := 20) (by omega)
              rwa [bv_take] at this
            have hbl : (yl.take (20)).length ≤ 20 := by rw [List.length_take]; omega
            have hcp : ((20 : Nat) : Int) ≤ yc := by have h : (ym : Nat) ≤ yc := HYG.out.2.1; omega
            have hcq : ((20 : Nat) : Int) ≤ (20 : Int) := by omega
            have hag : 0 < (20 : Nat) → ∀ b o, yA = some ⟨b, o, none⟩ → b ≠ g := fun h => HAG.out (by omega)
            have har : 0 < (20 : Nat) → ∀ b o, yA = some ⟨b, o, none⟩ → b ≠ gm ∧ b ≠ gB := fun h => HAR.out (by omega)
            obtain ⟨r, hpr⟩ := pr_any f pa (yl.take (20))
            have hok2 := hpr.ok hok.out hbl
            have HOK3 : Hid (r.1.Ok (301 * ((k + 1 : Nat) : Int))) := hok2.more (by push_cast; omega)
            have HC1 := Lib.hid (fun cap => prog_is g pa w.heap.size (20) cap yA _ f W0 r _ HF0.out (hrw W0 HBW.out) hag HBW.out.size (by omega) hok.out (by omega) hpr)
            have HC2 := Lib.hid (fun cap W (hW : StC gc CS g gm gB r.1 f w W) => rprog_is gm gB pa w.heap.size (20) cap yA _ f W r _ hW.2.2.1 (hrw W hW.2.2.2) har hW.2.2.2.size (by omega) hok.out (by omega) hpr)
            clear hok2 hpr hrw hbl hag har
            obtain ⟨f9, r9⟩ := r
            dsimp only at HC1 HC2 HOK3
            have hr9 : (r9 == r9) = true := by simp
            go_upto_region 22 with fail
            rw [HPK.out]
            go_wp2_with fail
            refine (HC1.out _).mono ?_
            rintro e w3 ⟨rfl, hdd⟩
            have HS3 := Lib.hid (HST0.out.done AP.out hdd)
            obtain ⟨d0, d1, d2, d3⟩ := HFB.out _ HS3.out.1
            clear hdd c0 c1 c2 c3
            go_wp2_with fail
            refine (HC2.out _ w3 HS3.out).mono ?_
            rintro e w4 ⟨rfl, hdd⟩
            have HS4 := Lib.hid (HS3.out.rdone AP.out hdd)
            have HFA := Lib.hid HS4.out.2.1
            have HRA := Lib.hid HS4.out.2.2.1
            have HBA := Lib.hid HS4.out.2.2.2
            clear hdd d0 d1 d2 d3 HS3 HS4
            go_wp2_with fail
            go_meet
            case rel => exact ⟨by first | rfl | simp, f9, HFA, HRA, HOK3, HBA⟩
        have HOK3 : Hid (Fl.Ok { f with down := false } (301 * ((k + 1 : Nat) : Int))) := by
          have h := hok.out
          exact ⟨h.1, by have := h.2.1; show f.steps ≤ _; push_cast; omega, h.2.2⟩
        have HC1 := Lib.hid (start_any g f W0 HF0.out)
        have HC2 := Lib.hid (fun W (hW : RfAt W gm gB f) => rstart_any hW)
        generalize ({ f with down := false } : Fl) = f9 at *
        go_wp2_with fail
        refine HC1.out.mono ?_
        rintro e w3 ⟨rfl, hdd⟩
        have HS3 := Lib.hid (HST0.out.done AP.out hdd.out)
        obtain ⟨d0, d1, d2, d3⟩ := HFB.out _ HS3.out.1
        clear hdd c0 c1 c2 c3
        go_wp2_with fail
        refine (HC2.out w3 HS3.out.2.2.1).mono ?_
        rintro e w4 ⟨rfl, hdd⟩
        have HS4 := Lib.hid (HS3.out.rdone AP.out hdd.out)
        have HFA := Lib.hid HS4.out.2.1
        have HRA := Lib.hid HS4.out.2.2.1
        have HBA := Lib.hid HS4.out.2.2.2
        clear hdd d0 d1 d2 d3 HS3 HS4
        go_wp2_with fail
        go_meet
        case rel => exact ⟨by first | rfl | simp, f9, HFA, HRA, HOK3, HBA⟩
      case rest =>
        obtain ⟨rfl, f3, HF3, HR3, HOK3, HB3⟩ := hcut
        generalize wc = wx at *
        have HBY := Lib.hid (fun W (hW : Below wx.heap.size wx W) => bytes_any g f3 W (HF3.out.below hW))
        have hrb : Row wx wx.heap.size (some ⟨gB, 0, none⟩) 3584 (bv (f3.sub 0 3584)) := HR3.out.2.1.row (a := 0) (n := 3584) (by omega)
        have HF29 : Hid (∀ W, Below wx.heap.size wx W → W.cell? ⟨gm, 0, none⟩ = some (.slice (some ⟨gB, 0, none⟩) 3584 3584) ∧ (convert 27 9 (.slice (some ⟨gB, 0, none⟩) 3584 3584)).run Try.prog W = .ok (.string ⟨(f3.sub 0 3584).toArray⟩) W) := Lib.hid fun W hW =>
          ⟨(HR3.out.below hW).slot0, conv_row _ hrb (Nat.le_refl _) W hW⟩
        clear HF0 HR0 HBOX HBW HST0 c0 c1 c2 c3 hrb
        go_upto_region 24 with fail
        refine wp_region_noPanic ?_
        refine wp_region_held_drew (S := (fun W => Below wx.heap.size wx W)) (by kernel_rfl) (Below.refl _ _).drew (fun hH0 => ?_)
        have hH0 : Below wx.heap.size wx wx.drew := hH0
        generalize wx.drew = wd at *
        refine wpAnyH_take (i := 0) (oi := { dst := some 114, op := Op.move (Operand.tmp 9), type := 4, pos := "law.go:52", after := #[], guard := none }) (v := ?tkv5001) rfl (by kernel_rfl) (by kernel_rfl) (by kernel_rfl) (fun _ _ _ h => h) (Or.inl ⟨by rfl, ?tky5001⟩) hH0 ?tkr5001
        case tky5001 => (intro w' hSw; clear hSw; go_simp; try with_reducible rfl)
        try simp only [Act.put, List.setIfInBounds_toArray, List.set_cons_zero, List.set_cons_succ]
        refine wpAnyH_take (i := 1) (oi := { dst := some 115, op := Op.unOp UnOp.not 4 (Operand.tmp 114), type := 4, pos := "law.go:52", after := #[{ on := 0, ground := Ground.data }], guard := none }) (v := ?tkv5002) rfl (by kernel_rfl) (by kernel_rfl) (by kernel_rfl) (fun _ _ _ h => h) (Or.inl ⟨by rfl, ?tky5002⟩) hH0 ?tkr5002
        case tky5002 => (intro w' hSw; clear hSw; go_simp; try with_reducible rfl)
        try simp only [Act.put, List.setIfInBounds_toArray, List.set_cons_zero, List.set_cons_succ]
        refine wpAnyH_take (i := 2) (oi := { dst := some 116, op := Op.move (Operand.tmp 115), type := 4, pos := "law.go:52", after := #[{ on := 1, ground := Ground.data }], guard := none }) (v := ?tkv5003) rfl (by kernel_rfl) (by kernel_rfl) (by kernel_rfl) (fun _ _ _ h => h) (Or.inl ⟨by rfl, ?tky5003⟩) hH0 ?tkr5003
        case tky5003 => (intro w' hSw; clear hSw; go_simp; try with_reducible rfl)
        try simp only [Act.put, List.setIfInBounds_toArray, List.set_cons_zero, List.set_cons_succ]
        refine wpAnyH_take (i := 3) (oi := { dst := some 117, op := Op.move (Operand.tmp 5), type := 23, pos := "law.go:52", after := #[{ on := 2, ground := Ground.guard }], guard := some (2, false) }) (v := ?tkv5004) rfl (by kernel_rfl) (by kernel_rfl) (by kernel_rfl) (fun _ _ _ h => h) (Or.inl ⟨by rfl, ?tky5004⟩) hH0 ?tkr5004
        case tky5004 => (intro w' hSw; clear hSw; go_simp; try with_reducible rfl)
        try simp only [Act.put, List.setIfInBounds_toArray, List.set_cons_zero, List.set_cons_succ]
        refine wpAnyH_take (i := 6) (oi := { dst := some 120, op := Op.move (Operand.tmp 6), type := 25, pos := "law.go:52", after := #[{ on := 2, ground := Ground.guard }], guard := some (2, false) }) (v := ?tkv5005) rfl (by kernel_rfl) (by kernel_rfl) (by kernel_rfl) (fun _ _ _ h => h) (Or.inl ⟨by rfl, ?tky5005⟩) hH0 ?tkr5005
        case tky5005 => (intro w' hSw; clear hSw; go_simp; try with_reducible rfl)
        try simp only [Act.put, List.setIfInBounds_toArray, List.set_cons_zero, List.set_cons_succ]
        refine wpAnyH_take (i := 7) (oi := { dst := some 121, op := Op.nilCheck (Operand.tmp 120), type := 0, pos := "law.go:52", after := #[{ on := 6, ground := Ground.data }, { on := 2, ground := Ground.guard }], guard := some (2, false) }) (v := ?tkv5006) rfl (by kernel_rfl) (by kernel_rfl) (by kernel_rfl) (fun _ _ _ h => h) (Or.inl ⟨by rfl, ?tky5006⟩) hH0 ?tkr5006
        case tky5006 => (intro w' hSw; clear hSw; go_simp; try with_reducible rfl)
        try simp only [Act.put, List.setIfInBounds_toArray, List.set_cons_zero, List.set_cons_succ]
        refine wpAnyH_take (i := 8) (oi := { dst := some 122, op := Op.fieldAddr 43 (Operand.tmp 121) 0, type := 0, pos := "law.go:52", after := #[{ on := 7, ground := Ground.data }, { on := 2, ground := Ground.guard }], guard := some (2, false) }) (v := ?tkv5007) rfl (by kernel_rfl) (by kernel_rfl) (by kernel_rfl) (fun _ _ _ h => h) (Or.inl ⟨by rfl, ?tky5007⟩) hH0 ?tkr5007
        case tky5007 => (intro w' hSw; clear hSw; go_simp; try with_reducible rfl)
        try simp only [Act.put, List.setIfInBounds_toArray, List.set_cons_zero, List.set_cons_succ]
        refine wpAnyH_take (i := 9) (oi := { dst := some 123, op := Op.load 27 (Operand.tmp 122), type := 27, pos := "law.go:52", after := #[{ on := 8, ground := Ground.data }, { on := 2, ground := Ground.guard }], guard := some (2, false) }) (v := ?tkv5008) rfl (by kernel_rfl) (by kernel_rfl) (by kernel_rfl) (fun _ _ _ h => h) (Or.inl ⟨by rfl, ?tky5008⟩) hH0 ?tkr5008
        case tky5008 => (intro w' hSw; have z0 := HF29.out _ hSw; clear hSw; go_simp; try with_reducible rfl)
        try simp only [Act.put, List.setIfInBounds_toArray, List.set_cons_zero, List.set_cons_succ]
        refine wpAnyH_take (i := 10) (oi := { dst := some 124, op := Op.convert 27 9 (Operand.tmp 123), type := 9, pos := "law.go:52", after := #[{ on := 9, ground := Ground.data }, { on := 2, ground := Ground.guard }], guard := some (2, false) }) (v := ?tkv5009) rfl (by kernel_rfl) (by kernel_rfl) (by kernel_rfl) (fun _ _ _ h => h) (Or.inl ⟨by rfl, ?tky5009⟩) hH0 ?tkr5009
        case tky5009 => (intro w' hSw; have z0 := HF29.out _ hSw; clear hSw; go_simp; try with_reducible rfl)
        try simp only [Act.put, List.setIfInBounds_toArray, List.set_cons_zero, List.set_cons_succ]
        refine wpAnyH_ready (rs := [4]) (by kernel_rfl) (by simp) ?_
        refine AllReadyH.cons (o := { dst := some 118, op := Op.call { callee := Callee.value (Operand.func 27), args := #[Operand.tmp 117], argTypes := #[23] }, type := 27, pos := "law.go:52", after := #[{ on := 3, ground := Ground.data }, { on := 2, ground := Ground.chain }, { on := 2, ground := Ground.guard }], guard := some (2, false) }) rfl (fun K hK => ?_) AllReadyH.nil
        go_simp
        refine (HBY.out _ hH0).mono ?_
        rintro e' wby ⟨Ay, ny, cy, rfl, hny, hoy, hb4⟩
        obtain rfl : ny = 3584 := hny.out.trans (Fl.sub_length _ _ _)
        have HKY := Lib.hid (conv_own cy hoy)
        clear hny hoy
        go_simp
        refine hK.out _ _ ((hH0).trans (hb4.mono (hH0).size)) (fun hH5010 => ?_)
        clear hK K
        try simp only [Act.put, List.setIfInBounds_toArray, List.set_cons_zero, List.set_cons_succ]
        have hG5010 : (fun W => Below wx.heap.size wx W ∧ Below wby.heap.size wby W) wby := ⟨hH5010, Below.refl _ _⟩
        refine wpAnyH_grow (S' := (fun W => Below wx.heap.size wx W ∧ Below wby.heap.size wby W)) (fun _ h => h.1) _ _ _ _ ?_
        refine wpAnyH_take (i := 5) (oi := { dst := some 119, op := Op.convert 27 9 (Operand.tmp 118), type := 9, pos := "law.go:52", after := #[{ on := 4, ground := Ground.data }, { on := 2, ground := Ground.guard }], guard := some (2, false) }) (v := ?tkv5011) rfl (by kernel_rfl) (by kernel_rfl) (by kernel_rfl) (fun _ _ _ h => h) (Or.inl ⟨by rfl, ?tky5011⟩) hG5010 ?tkr5011
        case tky5011 => (intro w' hSw; have z0 := HF29.out _ hSw.1; have z1 := HKY.out _ hSw.2; clear hSw; go_simp; try with_reducible rfl)
        try simp only [Act.put, List.setIfInBounds_toArray, List.set_cons_zero, List.set_cons_succ]
        refine wpAnyH_take (i := 11) (oi := { dst := some 125, op := Op.binOp BinOp.neq 9 (Operand.tmp 119) (Operand.tmp 124) 9, type := 4, pos := "law.go:52", after := #[{ on := 5, ground := Ground.data }, { on := 10, ground := Ground.data }, { on := 2, ground := Ground.guard }], guard := some (2, false) }) (v := ?tkv5012) rfl (by kernel_rfl) (by kernel_rfl) (by kernel_rfl) (fun _ _ _ h => h) (Or.inl ⟨by rfl, ?tky5012⟩) hG5010 ?tkr5012
        case tky5012 => (intro w' hSw; clear hSw; go_simp; try with_reducible rfl)
        try simp only [Act.put, List.setIfInBounds_toArray, List.set_cons_zero, List.set_cons_succ]
        refine wpAnyH_take (i := 12) (oi := { dst := some 126, op := Op.pick (Operand.tmp 116) (Operand.const (Value.bool true)) (Operand.tmp 125), type := 4, pos := "law.go:52", after := #[{ on := 2, ground := Ground.data }, { on := 11, ground := Ground.data }], guard := none }) (v := ?tkv5013) rfl (by kernel_rfl) (by kernel_rfl) (by kernel_rfl) (fun _ _ _ h => h) (Or.inl ⟨by rfl, ?tky5013⟩) hG5010 ?tkr5013
        case tky5013 => (intro w' hSw; clear hSw; go_simp; try with_reducible rfl)
        try simp only [Act.put, List.setIfInBounds_toArray, List.set_cons_zero, List.set_cons_succ]
        refine wpAnyH_done (by kernel_rfl) ?_ _
        refine NoPanic.normal ?_
        have hEnd : Below wx.heap.size wx _ := hG5010.1
        have HE1 := Lib.hid (HF3.out.below hEnd)
        have HE2 := Lib.hid (HR3.out.below hEnd)
        have HE3 := Lib.hid (HB3.out.trans (hEnd.mono HB3.out.size))
        go_wp2_with fail
        go_roundw
        case rel => exact ⟨k + 1, f3, by omega, by omega, by go_num, HE1, HE2, HOK3, HE3⟩
        case measure => simp [intOf]; omega
    · obtain rfl : n = k := by omega
      have HCR := Lib.hid (cread_er none 1 wr (noRead_nil wr) (by decide))
      have HCW := Lib.hid (fun W => cwrite_er none none 0 0 1 W (noRead_nil W) (by decide) (by omega))
      clear hf hrf hok
      go_wp2_with fail
      refine HCR.out.mono ?_
      rintro e w3 ⟨rfl, hb3⟩
      have HB3 := Lib.hid (hb.out.trans (hb3.out.mono hb.out.size))
      clear hb hb3 HCR
      go_wp2_with fail
      refine (HCW.out w3).mono ?_
      rintro e w4 ⟨rfl, hb4⟩
      have HB4 := Lib.hid (HB3.out.trans (hb4.out.mono HB3.out.size))
      clear HB3 hb4
      go_wp2_with fail
      refine (awake17_any _).mono ?_
      rintro e w9 ⟨rfl, hb9⟩
      go_wp2_with fail
      go_ret
      exact ⟨rfl, HB4.out.trans (hb9.mono HB4.out.size)⟩
end Go.Proofs.Ytmlmpjokmbgmcaa
