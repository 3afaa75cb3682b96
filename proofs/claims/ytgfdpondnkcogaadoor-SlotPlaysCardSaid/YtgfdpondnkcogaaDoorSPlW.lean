/- SlotPlays: any calls, any fuses, any bytes written over it: each answer, all bytes, as the reference has them. Its walk. -/
import Derived.Test.YtgfdpondnkcogaaDoorRSlot
import Derived.Test.YtgfdpondnkcogaaDoorSlAw
import Derived.Test.YtgfdpondnkcogaaDoorRFlash
import Derived.Test.YtgfdpondnkcogaaDoorLawSlCall
import Derived.Test.YtgfdpondnkcogaaDoorGrow
import Derived.Test.YtgfdpondnkcogaaDoorFlChange
import Derived.Test.YtgfdpondnkcogaaDoorLaw
import Derived.Deep.CutBlock
import Derived.Deep.DeepCutAuto
import Derived.Deep.RegionHeld3
namespace Go.Proofs.YtgfdpondnkcogaaDoor
open Go.ChangeShapes Go.WideShapes Go.ChangeAt Go.RowKit
def PrIs (f : Fl) (a : Nat) (l : List UInt8) (r : Fl × Int) : Prop := (f.down = true ∧ r = (f, 11)) ∨ (f.down = false ∧ r = f.prog a l)
theorem pr_any (f : Fl) (a : Nat) (l : List UInt8) : ∃ r, PrIs f a l r := by
  cases hd : f.down with
  | true => exact ⟨_, .inl ⟨hd, rfl⟩⟩
  | false => exact ⟨_, .inr ⟨hd, rfl⟩⟩
theorem PrIs.ok {f : Fl} {a : Nat} {l : List UInt8} {r : Fl × Int} {k : Int} (h : PrIs f a l r) (hok : f.Ok k) (hl : l.length ≤ 20) : r.1.Ok (k + 300) := by
  rcases h with ⟨_, rfl⟩ | ⟨_, rfl⟩
  · exact hok.more (by omega)
  · exact (hok.prog l a).more (by omega)
theorem prog_is (g a B n cap : Nat) (A : Option Addr) (l : List UInt8) (f : Fl) (w : World) (r : Fl × Int) (k : Int) (hf : FlAt w g f) (hl : Row w B A n (bv l)) (hA : 0 < n → ∀ b o, A = some ⟨b, o, none⟩ → b ≠ g) (hB : B ≤ w.heap.size) (ha : a + n ≤ 3584)
    (hok : f.Ok k) (hk : k ≤ 1000000) (h : PrIs f a l r) : Calls Tryd.prog 21 #[.pointer (some ⟨g, 0, none⟩), .int .i64 (a : Int), .slice A n cap] w fun e w' => e = .returned (.int .i64 r.2) ∧ Done g r.1 w w' := by
  rcases h with ⟨hd, rfl⟩ | ⟨hd, rfl⟩
  · refine (prog_bad (some ⟨g, 0, none⟩) a 11 n cap A w (may_any g f a n 11 w hf (by omega) (by unfold mayE; rw [hd]; rfl)) (by decide)).mono ?_
    rintro e w' ⟨rfl, rfl⟩
    exact ⟨rfl, sdone_below hf (Below.refl _ _)⟩
  · refine (prog_ok g a B n cap A l f w hf hl hA hB hd ha (by have := hok.1; omega) (by have := hok.2.1; omega) hok.2.2.1).mono ?_
    rintro e w' ⟨rfl, hdd⟩
    exact ⟨rfl, hdd.out⟩
theorem rprog_is (gm gB a B n cap : Nat) (A : Option Addr) (l : List UInt8) (f : Fl) (w : World) (r : Fl × Int) (k : Int) (hf : RfAt w gm gB f) (hl : Row w B A n (bv l)) (hA : 0 < n → ∀ b o, A = some ⟨b, o, none⟩ → b ≠ gm ∧ b ≠ gB) (hB : B ≤ w.heap.size) (ha : a + n ≤ 3584)
    (hok : f.Ok k) (hk : k ≤ 1000000) (h : PrIs f a l r) : Calls Tryd.prog 22 #[.pointer (some ⟨gm, 0, none⟩), .int .i64 (a : Int), .slice A n cap] w fun e w' => e = .returned (.int .i64 r.2) ∧ RDone gm gB r.1 w w' := by
  rcases h with ⟨hd, rfl⟩ | ⟨hd, rfl⟩
  · refine (rprog_bad gm gB n cap a 11 A f w hf (by omega) (by unfold mayE; rw [hd]; rfl) (by decide)).mono ?_
    rintro e w' ⟨rfl, rfl⟩
    exact ⟨rfl, rdone_refl hf⟩
  · refine (rprog_ok gm gB a B n cap A l f w hf hl hA hB hd ha hok.1 (by have := hok.2.1; omega)).mono ?_
    rintro e w' ⟨rfl, hdd⟩
    exact ⟨rfl, hdd.out⟩
def BoxC (gc : Nat) (cs : Array Value) (W : World) : Prop := W.heap[gc]? = some (.cells cs 30 (0, 0))
/-- both flashes, and a call's box -/
def StC (gc : Nat) (cs : Array Value) (g gm gB : Nat) (f1 f2 : Fl) (w W : World) : Prop := BoxC gc cs W ∧ FlAt W g f1 ∧ RfAt W gm gB f2 ∧ Below w.heap.size w W
structure Apart3 (gc g gm gB B : Nat) : Prop where
  h1 : gc ≠ g
  h2 : gc ≠ gm
  h3 : gc ≠ gB
  h4 : gm ≠ g
  h5 : gB ≠ g
  h6 : B ≤ g
  h7 : B ≤ gm
  h8 : B ≤ gB
section
variable {gc g gm gB : Nat} {cs : Array Value} {f1 f2 f' : Fl} {w W W' : World}
theorem StC.lt (h : StC gc cs g gm gB f1 f2 w W) : gc < W.heap.size := (Array.getElem?_eq_some_iff.1 h.1).1
theorem StC.done (h : StC gc cs g gm gB f1 f2 w W) (ap : Apart3 gc g gm gB w.heap.size) (hd : Done g f' W W') : StC gc cs g gm gB f' f2 w W' :=
  ⟨(hd.2.block gc h.lt (by simpa using ap.h1)).trans h.1, hd.1, h.2.2.1.grown hd.2 ap.h4 ap.h5, h.2.2.2.grown hd.2 h.2.2.2.size (by intro q e; injection e with e; have := ap.h6; omega)⟩
theorem StC.rdone (h : StC gc cs g gm gB f1 f2 w W) (ap : Apart3 gc g gm gB w.heap.size) (hd : RDone gm gB f' W W') : StC gc cs g gm gB f1 f' w W' :=
  ⟨(hd.2.block gc h.lt ap.h2 ap.h3).trans h.1, h.2.1.gr2 hd.2 (fun e => ap.h4 e.symm) (fun e => ap.h5 e.symm), hd.1, below_gr2 h.2.2.2 hd.2 h.2.2.2.size ap.h7 ap.h8⟩
theorem StC.below (h : StC gc cs g gm gB f1 f2 w W) (hb : Below W.heap.size W W') : StC gc cs g gm gB f1 f2 w W' :=
  ⟨(hb.block gc h.lt).trans h.1, h.2.1.below hb, h.2.2.1.below hb, h.2.2.2.trans (hb.mono h.2.2.2.size)⟩
end
theorem mayE_zero {f : Fl} {a n : Int} (hk : mayE f a n = 0) : f.down = false ∧ 0 ≤ n ∧ 0 ≤ a ∧ a + n ≤ 3584 := by
  unfold mayE at hk
  cases hd : f.down with
  | true => rw [hd] at hk; simp at hk
  | false =>
    rw [hd] at hk
    simp only [Bool.false_eq_true, if_false] at hk
    by_cases h : n < 0 ∨ a < 0 ∨ 3584 - n < a
    · rw [if_pos h] at hk; cases hk
    · exact ⟨rfl, by omega, by omega, by omega⟩
set_option maxRecDepth 100000 in
set_option maxHeartbeats 25600000 in
theorem splays_walk (wear : Int) (_ : -9223372036854775808 ≤ wear) (_ : wear ≤ 9223372036854775807) (A : Option Addr) (n cap : Nat) (ver : Nat) (ys : List SCall) (w : World) (ht : Sh.Tab w) (hl : SCalls w A n ys) :
    Calls Tryd.prog 3 #[.int .i64 wear, .int .u32 (ver : Int), .slice A n cap] w fun e w' => e = .returned (.bool true) ∧ Below w.heap.size w w' := by
  have HL := Lib.hid hl
  have HN := Lib.hid hl.1
  have HT := Lib.hid ht
  clear hl ht
  go_enter Tryd.func3, Tryd.ntmps3
  go_wp2_with fail
  obtain ⟨v, hv1, hv2, hnew⟩ := new_all wear w
  have hrnew := fun W => rnew_all wear W v hv2
  have HNEW := Lib.hid hnew
  have HRNEW := Lib.hid hrnew
  have hokv : ((flNew v).fill 0 3584).Ok 0 := ⟨Int.le_refl 0, Int.le_refl 0, by show _ ≤ (0 : Int) ∧ (0 : Int) ≤ _; decide, fun s => Int.le_refl 0, hv1⟩
  have HOK0 := Lib.hid hokv
  clear hnew hrnew hv1 hv2 hokv
  refine HNEW.out.mono ?_
  rintro e w1 ⟨g, rfl, hg, hf, hb1⟩
  have HB1 := Lib.hid hb1.out
  have hg1 := hf.out.lt
  go_wp2_with fail
  refine (HRNEW.out w1).mono ?_
  rintro e w2 ⟨gm, gB, rfl, hgm, hgB, hrf, hb2⟩
  have HF2 := Lib.hid (hf.out.below hb2.out)
  have HR2 := Lib.hid hrf.out
  generalize (flNew v).fill 0 3584 = f0 at *
  have hs1 := HB1.out.size
  have HB2 := Lib.hid (HB1.out.trans (hb2.out.mono hs1))
  have HGG : Hid (gm ≠ g ∧ gB ≠ g ∧ w.heap.size ≤ g ∧ w.heap.size ≤ gm ∧ w.heap.size ≤ gB) := ⟨by omega, by omega, by omega, by omega, by omega⟩
  clear hb1 hf hrf hb2 HB1 HNEW HRNEW hg hg1 hgm hgB hs1
  go_wp2_with fail
  go_loopw [30] (fun i wr => ∃ (k : Nat) (f : Fl), k ≤ n ∧ k ≤ 30 ∧ i = .int .i64 k ∧ Hid (FlAt wr g f) ∧ Hid (RfAt wr gm gB f) ∧ Hid (f.Ok (600 * k)) ∧ Hid (Below w.heap.size w wr)) (fun i _ => n - (intOf i).toNat)
  case atStart => exact ⟨0, f0, by omega, by omega, rfl, HF2, HR2, HOK0, HB2⟩
  case round =>
    clear HF2 HR2 HOK0 HB2
    obtain ⟨k, f, hk, hk60, rfl, hf, hrf, hok, hb⟩ := hrel
    have hsz := hb.out.size
    by_cases hlt : k < n
    · obtain ⟨b, o, y, rfl, hbl, hym, hyk, hyg, c0, c1, c2, c3, c4⟩ := HL.out.at_ hb.out hlt
      obtain ⟨d, s, a, m, yA, ym, yc, yl⟩ := y
      dsimp only at c0 c1 c2 c3 c4
      have HYG := Lib.hid hyg
      have hmg1 := HYG.out.2.2.2.2.2.2.1
      have hmg2 := HYG.out.2.2.2.2.2.2.2
      have hag1 := HYG.out.2.2.2.2.2.1.1
      have hag2 := HYG.out.2.2.2.2.2.1.2
      dsimp only at hmg1 hmg2 hag1 hag2
      by_cases h60 : k = 30
      · subst h60
        clear hf hrf
        go_wp2_with fail
        refine (awake20_any _ (HT.out.below (by first | exact HB4.out | exact (hb.out.alloc hb.out.size _)) HT.out.1)).mono ?_
        rintro e w9 ⟨rfl, hb9⟩
        go_wp2_with fail
        go_ret
        exact ⟨rfl, (hb.out.alloc hb.out.size _).trans (hb9.mono (by simp; omega))⟩
      have hk59 : k < 30 := by omega
      by_cases h300 : 600 < ym
      · skip
        clear hf hrf
        go_wp2_with fail
        refine (awake20_any _ (HT.out.below (by first | exact HB4.out | exact (hb.out.alloc hb.out.size _)) HT.out.1)).mono ?_
        rintro e w9 ⟨rfl, hb9⟩
        go_wp2_with fail
        go_ret
        exact ⟨rfl, (hb.out.alloc hb.out.size _).trans (hb9.mono (by simp; omega))⟩
      have hm3 : ym ≤ 600 := by omega
      have hk59i : ¬ (30 : Int) ≤ k := by omega
      have h300i : ¬ (600 : Int) < ym := by omega
      have HAG : Hid (0 < ym → ∀ b o, yA = some ⟨b, o, none⟩ → b ≠ g) := by
        intro h0 b' o' e
        obtain ⟨b2, o2, e2, hb2, _⟩ := HYG.out.1.2 h0
        have e3 := e2.symm.trans e
        injection e3 with e3
        injection e3 with e3
        have := HGG.out.2.2.1
        omega
      have HAR : Hid (0 < ym → ∀ b o, yA = some ⟨b, o, none⟩ → b ≠ gm ∧ b ≠ gB) := by
        intro h0 b' o' e
        obtain ⟨b2, o2, e2, hb2, _⟩ := HYG.out.1.2 h0
        have e3 := e2.symm.trans e
        injection e3 with e3
        injection e3 with e3
        have := HGG.out.2.2.2
        omega
      clear hyg hym hyk
      obtain ⟨CS, hCS⟩ : ∃ CS : Array Value, CS = #[.int .i64 d, .int .i64 s, .int .i64 a, .int .i64 m, .slice yA ym yc] := ⟨_, rfl⟩
      have HFB : Hid (∀ W, BoxC wr.heap.size CS W → W.cell? ⟨wr.heap.size, 0, none⟩ = some (.int .i64 d) ∧ W.cell? ⟨wr.heap.size, 1, none⟩ = some (.int .i64 s) ∧ W.cell? ⟨wr.heap.size, 2, none⟩ = some (.int .i64 a) ∧ W.cell? ⟨wr.heap.size, 3, none⟩ = some (.int .i64 m) ∧ W.cell? ⟨wr.heap.size, 4, none⟩ = some (.slice yA ym yc)) := Lib.hid fun W hW => by
        unfold BoxC at hW
        rw [hCS] at hW
        refine ⟨?_, ?_, ?_, ?_, ?_⟩ <;> (rw [cell_of_row W _ _ _ _ (0, 0) hW]; rfl)
      obtain ⟨W0, hW0⟩ : ∃ W0, wr.alloc (.cells #[.int .i64 d, .int .i64 s, .int .i64 a, .int .i64 m, .slice yA ym yc] 30) = W0 := ⟨_, rfl⟩
      have hbW : Below wr.heap.size wr W0 := by rw [← hW0]; exact (Below.refl _ _).alloc (Nat.le_refl _) _
      have hxW : BoxC wr.heap.size CS W0 := by rw [← hW0, hCS]; exact heap_alloc_new wr _
      have hgf := hf.out.lt
      have hgr := hrf.out.2.1.lt
      obtain ⟨_, _, _, _, _, hgh⟩ := hrf.out
      have hgr2 := hgh.lt
      have AP : Hid (Apart3 wr.heap.size g gm gB w.heap.size) := ⟨by omega, by omega, by omega, HGG.out.1, HGG.out.2.1, HGG.out.2.2.1, HGG.out.2.2.2.1, HGG.out.2.2.2.2⟩
      obtain ⟨gc, hgc⟩ : ∃ gc, wr.heap.size = gc := ⟨_, rfl⟩
      have HW0 := Lib.hid hW0
      have HBW := Lib.hid (hb.out.trans (hbW.mono hsz))
      have HF0 := Lib.hid (hf.out.below hbW)
      have HR0 := Lib.hid (hrf.out.below hbW)
      have HBOX := Lib.hid hxW
      clear hW0 hbW hxW hf hrf hb hgf hgr hgh hgr2 hCS
      go_upto_region 5 with fail
      rw [HW0.out]
      rw [hgc] at HBOX AP HFB
      clear HW0 c0 c1 c2 c3 c4 hsz
      try rw [hgc]
      have HST0 : Hid (StC gc CS g gm gB f f w W0) := ⟨HBOX.out, HF0.out, HR0.out, HBW.out⟩
      obtain ⟨c0, c1, c2, c3, c4⟩ := HFB.out _ HBOX.out
      obtain ⟨V, M, q9, HH, O, hso, hM512⟩ := so_any ver ym yl
      have HSOA := Lib.hid (fun W (hW : Below w.heap.size w W) => sof_is ver ym w.heap.size yc V M q9 HH O yA yl W (HT.out.below hW HT.out.1) (HYG.out.1.below hW) hW.size hso)
      have HSOB := Lib.hid (fun W (hW : Below w.heap.size w W) => rsof_is ver ym w.heap.size yc V M q9 HH O yA yl W (HYG.out.1.below hW) hW.size hso)
      clear hso
      go_wp2_with fail
      refine (HSOA.out W0 HBW.out).mono ?_
      rintro e w3 ⟨Ah, ch, rfl, hrh, hb3⟩
      have HS3 : Hid (StC gc CS g gm gB f f w (w3.alloc (.cells #[.int .u32 (V : Int), .int .i64 (M : Int), .slice Ah q9 ch] 33))) := (HST0.out.below hb3.out).below ((Below.refl _ _).alloc (Nat.le_refl _) _)
      have hza := heap_alloc_new w3 (.cells #[.int .u32 (V : Int), .int .i64 (M : Int), .slice Ah q9 ch] 33)
      obtain ⟨d0, d1, d2, d3, d4⟩ := HFB.out _ HS3.out.1
      have hrh2 : Row (w3.alloc (.cells #[.int .u32 (V : Int), .int .i64 (M : Int), .slice Ah q9 ch] 33)) w3.heap.size Ah q9 (bv HH) := hrh.out.alloc (Nat.le_refl _) _
      obtain ⟨ga, hga⟩ : ∃ ga, w3.heap.size = ga := ⟨_, rfl⟩
      rw [hga] at hza hrh2
      have HZA := Lib.hid hza
      have HRH := Lib.hid hrh2
      clear hza hrh2 hrh hb3 HSOA HST0 HBOX HF0 HR0 HBW c0 c1 c2 c3 c4
      go_upto_region 8 with fail
      try rw [hga]
      generalize w3.alloc (.cells #[.int .u32 (V : Int), .int .i64 (M : Int), .slice Ah q9 ch] 33) = W3 at *
      have hgl3 : ga < W3.heap.size := (Array.getElem?_eq_some_iff.1 HZA.out).1
      clear hga
      go_wp2_with fail
      refine (HSOB.out W3 HS3.out.2.2.2).mono ?_
      rintro e w4 ⟨Ai, ci, rfl, hri, hb4⟩
      have hb5 : Below W3.heap.size W3 (w4.alloc (.cells #[.int .u32 (V : Int), .int .i64 (M : Int), .slice Ai q9 ci] 33)) := hb4.out.alloc hb4.out.size _
      have HST0 : Hid (StC gc CS g gm gB f f w (w4.alloc (.cells #[.int .u32 (V : Int), .int .i64 (M : Int), .slice Ai q9 ci] 33))) := HS3.out.below hb5
      have hza5 := (hb5.block ga hgl3).trans HZA.out
      have hzb5 := heap_alloc_new w4 (.cells #[.int .u32 (V : Int), .int .i64 (M : Int), .slice Ai q9 ci] 33)
      have hri5 : Row (w4.alloc (.cells #[.int .u32 (V : Int), .int .i64 (M : Int), .slice Ai q9 ci] 33)) w4.heap.size Ai q9 (bv HH) := hri.out.alloc (Nat.le_refl _) _
      have hrh5 := (HRH.out.more (Nat.le_of_lt hgl3)).below hb5
      have hs5 : (w4.alloc (.cells #[.int .u32 (V : Int), .int .i64 (M : Int), .slice Ai q9 ci] 33)).heap.size = w4.heap.size + 1 := by simp
      have HSZ5 := Lib.hid hs5
      have HSZ35 := Lib.hid hb5.size
      obtain ⟨gb, hgb⟩ : ∃ gb, w4.heap.size = gb := ⟨_, rfl⟩
      rw [hgb] at hzb5 hri5
      have HZA5 := Lib.hid hza5
      have HZB5 := Lib.hid hzb5
      have HRI5 := Lib.hid hri5
      have HRH5 := Lib.hid hrh5
      clear hza5 hzb5 hri5 hrh5 hs5 hb5 hri hb4 HSOB HS3 HZA HRH d0 d1 d2 d3 d4
      go_upto_region 9 with fail
      try rw [hgb]
      generalize w4.alloc (.cells #[.int .u32 (V : Int), .int .i64 (M : Int), .slice Ai q9 ci] 33) = W5 at *
      have hrh6 := HRH5.out.more HSZ35.out
      have hri6 := HRI5.out.more (show gb ≤ W5.heap.size from by have := HSZ5.out; omega)
      have hkh := run_string_row (P := Tryd.prog) hrh6 ch 28 9 5 Tryd.underlying28 Tryd.underlying5 Tryd.underlying9
      have hki := run_string_row (P := Tryd.prog) hri6 ci 28 9 5 Tryd.underlying28 Tryd.underlying5 Tryd.underlying9
      obtain ⟨y0, y1, y2⟩ := c3 HZA5.out
      obtain ⟨z0, z1, z2⟩ := c3 HZB5.out
      have hVV : ((V : Int) == (V : Int)) = true := by simp
      have hMM : ((M : Int) == (M : Int)) = true := by simp
      have hOO : (O == O) = true := by simp
      have HF0 := Lib.hid HST0.out.2.1
      have HR0 := Lib.hid HST0.out.2.2.1
      have HBW := Lib.hid HST0.out.2.2.2
      have HBOX := Lib.hid HST0.out.1
      clear hgb HRH5 hrh6 hri6
      go_upto_region 10 with fail

      clear y0 y1 y2 z0 z1 z2 hkh hki hVV hMM hOO
      obtain ⟨c0, c1, c2, c3, c4⟩ := HFB.out _ HBOX.out
      go_upto_block 2 with fail
      go_cut [15] (fun s wx => s = .bool true ∧ ∃ f3 : Fl, Hid (FlAt wx g f3) ∧ Hid (RfAt wx gm gB f3) ∧ Hid (f3.Ok (600 * ((k + 1 : Nat) : Int))) ∧ Hid (Below w.heap.size w wx))
      case first =>
        by_cases k0 : d = 0
        · subst k0
          as_aux_lemma =>
            have hrw : ∀ W, Below w.heap.size w W → Row W w.heap.size yA ym (bv yl) := fun W hW => HYG.out.1.below hW
            obtain ⟨r, hwr⟩ := swr_any f s yl
            have hok2 := hwr.ok hok.out
            have HOK3 : Hid (r.1.Ok (600 * ((k + 1 : Nat) : Int))) := hok2.more (by push_cast; omega)
            have hc1 : ∀ W, StC gc CS g gm gB f f w W → Calls Tryd.prog 13 #[.pointer (some ⟨g, 0, none⟩), .int .i64 s, .slice yA ym yc] W fun e w' => e = .returned (.int .i64 r.2) ∧ StC gc CS g gm gB r.1 f w w' := fun W hW => (swrite_is g w.heap.size ym yc s yA yl f W r _ hW.2.1 (hrw W hW.2.2.2) HAG.out hW.2.2.2.size hok.out (by omega) hwr).mono (by
              rintro e w' ⟨rfl, hdd⟩
              exact ⟨rfl, hW.done AP.out hdd⟩)
            have hc2 : ∀ W, StC gc CS g gm gB r.1 f w W → Calls Tryd.prog 14 #[.pointer (some ⟨gm, 0, none⟩), .int .i64 s, .slice yA ym yc] W fun e w' => e = .returned (.int .i64 r.2) ∧ StC gc CS g gm gB r.1 r.1 w w' := fun W hW => (rswrite_is gm gB w.heap.size ym yc s yA yl f W r _ hW.2.2.1 (hrw W hW.2.2.2) HAR.out hW.2.2.2.size hok.out (by omega) hwr).mono (by
              rintro e w' ⟨rfl, hdd⟩
              exact ⟨rfl, hW.rdone AP.out hdd⟩)
            have HC1 := Lib.hid hc1
            have HC2 := Lib.hid hc2
            clear hc1 hc2 hok2 hwr hrw c0 c1 c2 c3 c4
            obtain ⟨f9, r9⟩ := r
            dsimp only at HC1 HC2 HOK3
            have hr9 : (r9 == r9) = true := by simp
            go_upto_region 14 with fail
            have HSTA : Hid (StC gc CS g gm gB f f w W5.drew) := Lib.hid ⟨HBOX.out, HF0.out, HR0.out, HBW.out.drew⟩
            refine wp_region_noPanic ?_
            refine wp_region_held_drew (S := (fun W => BoxC gc CS W)) (by kernel_rfl) HBOX.out (fun hH0 => ?_)
            have hH0 : BoxC gc CS W5.drew := hH0
            generalize W5.drew = wd1100 at *
            refine wpAnyH_take (i := 0) (oi := { dst := some 92, op := Op.move (Operand.tmp 15), type := 4, pos := "law.go:39", after := #[], guard := none }) (v := ?tkv1101) rfl (by kernel_rfl) (by kernel_rfl) (by kernel_rfl) (fun _ _ _ h => h) (Or.inl ⟨by rfl, ?tky1101⟩) hH0 ?tkr1101
            case tky1101 => (intro w' hSw; clear hSw; go_simp; try with_reducible rfl)
            try simp only [Act.put, List.setIfInBounds_toArray, List.set_cons_zero, List.set_cons_succ]
            refine wpAnyH_take (i := 1) (oi := { dst := some 93, op := Op.move (Operand.tmp 92), type := 4, pos := "law.go:39", after := #[{ on := 0, ground := Ground.data }], guard := none }) (v := ?tkv1102) rfl (by kernel_rfl) (by kernel_rfl) (by kernel_rfl) (fun _ _ _ h => h) (Or.inl ⟨by rfl, ?tky1102⟩) hH0 ?tkr1102
            case tky1102 => (intro w' hSw; clear hSw; go_simp; try with_reducible rfl)
            try simp only [Act.put, List.setIfInBounds_toArray, List.set_cons_zero, List.set_cons_succ]
            refine wpAnyH_take (i := 2) (oi := { dst := some 94, op := Op.move (Operand.tmp 7), type := 24, pos := "law.go:39", after := #[{ on := 1, ground := Ground.guard }], guard := some (1, true) }) (v := ?tkv1103) rfl (by kernel_rfl) (by kernel_rfl) (by kernel_rfl) (fun _ _ _ h => h) (Or.inl ⟨by rfl, ?tky1103⟩) hH0 ?tkr1103
            case tky1103 => (intro w' hSw; clear hSw; go_simp; try with_reducible rfl)
            try simp only [Act.put, List.setIfInBounds_toArray, List.set_cons_zero, List.set_cons_succ]
            refine wpAnyH_take (i := 3) (oi := { dst := some 95, op := Op.fieldAddr 30 (Operand.tmp 10) 1, type := 0, pos := "law.go:39", after := #[{ on := 1, ground := Ground.guard }], guard := some (1, true) }) (v := ?tkv1104) rfl (by kernel_rfl) (by kernel_rfl) (by kernel_rfl) (fun _ _ _ h => h) (Or.inl ⟨by rfl, ?tky1104⟩) hH0 ?tkr1104
            case tky1104 => (intro w' hSw; clear hSw; go_simp; try with_reducible rfl)
            try simp only [Act.put, List.setIfInBounds_toArray, List.set_cons_zero, List.set_cons_succ]
            refine wpAnyH_take (i := 4) (oi := { dst := some 96, op := Op.load 3 (Operand.tmp 95), type := 3, pos := "law.go:39", after := #[{ on := 3, ground := Ground.data }, { on := 1, ground := Ground.guard }], guard := some (1, true) }) (v := ?tkv1105) rfl (by kernel_rfl) (by kernel_rfl) (by kernel_rfl) (fun _ _ _ h => h) (Or.inl ⟨by rfl, ?tky1105⟩) hH0 ?tkr1105
            case tky1105 => (intro w' hSw; have z0 := HFB.out _ hSw; clear hSw; go_simp; try with_reducible rfl)
            try simp only [Act.put, List.setIfInBounds_toArray, List.set_cons_zero, List.set_cons_succ]
            refine wpAnyH_take (i := 5) (oi := { dst := some 97, op := Op.fieldAddr 30 (Operand.tmp 10) 4, type := 0, pos := "law.go:39", after := #[{ on := 1, ground := Ground.guard }], guard := some (1, true) }) (v := ?tkv1106) rfl (by kernel_rfl) (by kernel_rfl) (by kernel_rfl) (fun _ _ _ h => h) (Or.inl ⟨by rfl, ?tky1106⟩) hH0 ?tkr1106
            case tky1106 => (intro w' hSw; clear hSw; go_simp; try with_reducible rfl)
            try simp only [Act.put, List.setIfInBounds_toArray, List.set_cons_zero, List.set_cons_succ]
            refine wpAnyH_take (i := 6) (oi := { dst := some 98, op := Op.load 28 (Operand.tmp 97), type := 28, pos := "law.go:39", after := #[{ on := 5, ground := Ground.data }, { on := 1, ground := Ground.guard }], guard := some (1, true) }) (v := ?tkv1107) rfl (by kernel_rfl) (by kernel_rfl) (by kernel_rfl) (fun _ _ _ h => h) (Or.inl ⟨by rfl, ?tky1107⟩) hH0 ?tkr1107
            case tky1107 => (intro w' hSw; have z0 := HFB.out _ hSw; clear hSw; go_simp; try with_reducible rfl)
            try simp only [Act.put, List.setIfInBounds_toArray, List.set_cons_zero, List.set_cons_succ]
            refine wpAnyH_take (i := 8) (oi := { dst := some 100, op := Op.move (Operand.tmp 8), type := 26, pos := "law.go:39", after := #[{ on := 1, ground := Ground.guard }], guard := some (1, true) }) (v := ?tkv1108) rfl (by kernel_rfl) (by kernel_rfl) (by kernel_rfl) (fun _ _ _ h => h) (Or.inl ⟨by rfl, ?tky1108⟩) hH0 ?tkr1108
            case tky1108 => (intro w' hSw; clear hSw; go_simp; try with_reducible rfl)
            try simp only [Act.put, List.setIfInBounds_toArray, List.set_cons_zero, List.set_cons_succ]
            refine wpAnyH_take (i := 9) (oi := { dst := some 101, op := Op.fieldAddr 30 (Operand.tmp 10) 1, type := 0, pos := "law.go:39", after := #[{ on := 1, ground := Ground.guard }], guard := some (1, true) }) (v := ?tkv1109) rfl (by kernel_rfl) (by kernel_rfl) (by kernel_rfl) (fun _ _ _ h => h) (Or.inl ⟨by rfl, ?tky1109⟩) hH0 ?tkr1109
            case tky1109 => (intro w' hSw; clear hSw; go_simp; try with_reducible rfl)
            try simp only [Act.put, List.setIfInBounds_toArray, List.set_cons_zero, List.set_cons_succ]
            refine wpAnyH_take (i := 10) (oi := { dst := some 102, op := Op.load 3 (Operand.tmp 101), type := 3, pos := "law.go:39", after := #[{ on := 9, ground := Ground.data }, { on := 1, ground := Ground.guard }], guard := some (1, true) }) (v := ?tkv1110) rfl (by kernel_rfl) (by kernel_rfl) (by kernel_rfl) (fun _ _ _ h => h) (Or.inl ⟨by rfl, ?tky1110⟩) hH0 ?tkr1110
            case tky1110 => (intro w' hSw; have z0 := HFB.out _ hSw; clear hSw; go_simp; try with_reducible rfl)
            try simp only [Act.put, List.setIfInBounds_toArray, List.set_cons_zero, List.set_cons_succ]
            refine wpAnyH_take (i := 11) (oi := { dst := some 103, op := Op.fieldAddr 30 (Operand.tmp 10) 4, type := 0, pos := "law.go:39", after := #[{ on := 1, ground := Ground.guard }], guard := some (1, true) }) (v := ?tkv1111) rfl (by kernel_rfl) (by kernel_rfl) (by kernel_rfl) (fun _ _ _ h => h) (Or.inl ⟨by rfl, ?tky1111⟩) hH0 ?tkr1111
            case tky1111 => (intro w' hSw; clear hSw; go_simp; try with_reducible rfl)
            try simp only [Act.put, List.setIfInBounds_toArray, List.set_cons_zero, List.set_cons_succ]
            refine wpAnyH_take (i := 12) (oi := { dst := some 104, op := Op.load 28 (Operand.tmp 103), type := 28, pos := "law.go:39", after := #[{ on := 11, ground := Ground.data }, { on := 1, ground := Ground.guard }], guard := some (1, true) }) (v := ?tkv1112) rfl (by kernel_rfl) (by kernel_rfl) (by kernel_rfl) (fun _ _ _ h => h) (Or.inl ⟨by rfl, ?tky1112⟩) hH0 ?tkr1112
            case tky1112 => (intro w' hSw; have z0 := HFB.out _ hSw; clear hSw; go_simp; try with_reducible rfl)
            try simp only [Act.put, List.setIfInBounds_toArray, List.set_cons_zero, List.set_cons_succ]
            refine wpAnyH_ready (rs := [7]) (by kernel_rfl) (by simp) ?_
            refine AllReadyH.cons (o := { dst := some 99, op := Op.call { callee := Callee.value (Operand.func 13), args := #[Operand.tmp 94, Operand.tmp 96, Operand.tmp 98], argTypes := #[24, 3, 28] }, type := 36, pos := "law.go:39", after := #[{ on := 2, ground := Ground.data }, { on := 4, ground := Ground.data }, { on := 6, ground := Ground.data }, { on := 1, ground := Ground.chain }, { on := 1, ground := Ground.guard }], guard := some (1, true) }) rfl (fun K hK => ?_) AllReadyH.nil
            go_simp
            refine (HC1.out _ HSTA.out).mono ?_
            rintro e' wa ⟨rfl, hst⟩
            have HSTB := Lib.hid hst
            clear hst
            go_simp
            have hS1113 : BoxC gc CS wa := HSTB.out.1
            refine hK.out _ _ hS1113 (fun hH1113 => ?_)
            have hH1113 : BoxC gc CS wa := hH1113
            clear hK K hS1113
            try simp only [Act.put, List.setIfInBounds_toArray, List.set_cons_zero, List.set_cons_succ]
            refine wpAnyH_ready (rs := [13]) (by kernel_rfl) (by simp) ?_
            refine AllReadyH.cons (o := { dst := some 105, op := Op.call { callee := Callee.value (Operand.func 14), args := #[Operand.tmp 100, Operand.tmp 102, Operand.tmp 104], argTypes := #[26, 3, 28] }, type := 36, pos := "law.go:39", after := #[{ on := 8, ground := Ground.data }, { on := 10, ground := Ground.data }, { on := 12, ground := Ground.data }, { on := 7, ground := Ground.chain }, { on := 1, ground := Ground.guard }], guard := some (1, true) }) rfl (fun K hK => ?_) AllReadyH.nil
            go_simp
            refine (HC2.out _ HSTB.out).mono ?_
            rintro e' wb ⟨rfl, hst⟩
            have HSTC := Lib.hid hst
            clear hst
            go_simp
            have hS1114 : BoxC gc CS wb := HSTC.out.1
            refine hK.out _ _ hS1114 (fun hH1114 => ?_)
            have hH1114 : BoxC gc CS wb := hH1114
            clear hK K hS1114
            try simp only [Act.put, List.setIfInBounds_toArray, List.set_cons_zero, List.set_cons_succ]
            refine wpAnyH_take (i := 14) (oi := { dst := some 106, op := Op.binOp BinOp.eql 36 (Operand.tmp 99) (Operand.tmp 105) 36, type := 4, pos := "law.go:39", after := #[{ on := 7, ground := Ground.data }, { on := 13, ground := Ground.data }, { on := 1, ground := Ground.guard }], guard := some (1, true) }) (v := ?tkv1115) rfl (by kernel_rfl) (by kernel_rfl) (by kernel_rfl) (fun _ _ _ h => h) (Or.inl ⟨by rfl, ?tky1115⟩) hH1114 ?tkr1115
            case tky1115 => (intro w' hSw; clear hSw; go_simp; try with_reducible rfl)
            try simp only [Act.put, List.setIfInBounds_toArray, List.set_cons_zero, List.set_cons_succ]
            refine wpAnyH_take (i := 15) (oi := { dst := some 107, op := Op.pick (Operand.tmp 93) (Operand.tmp 106) (Operand.const (Value.bool false)), type := 4, pos := "law.go:39", after := #[{ on := 1, ground := Ground.data }, { on := 14, ground := Ground.data }], guard := none }) (v := ?tkv1116) rfl (by kernel_rfl) (by kernel_rfl) (by kernel_rfl) (fun _ _ _ h => h) (Or.inl ⟨by rfl, ?tky1116⟩) hH1114 ?tkr1116
            case tky1116 => (intro w' hSw; clear hSw; go_simp; try with_reducible rfl)
            try simp only [Act.put, List.setIfInBounds_toArray, List.set_cons_zero, List.set_cons_succ]
            refine wpAnyH_take (i := 16) (oi := { dst := some 15, op := Op.assign (Operand.tmp 107), type := 4, pos := "law.go:39", after := #[{ on := 15, ground := Ground.data }, { on := 13, ground := Ground.chain }, { on := 0, ground := Ground.phase }, { on := 1, ground := Ground.phase }, { on := 2, ground := Ground.phase }, { on := 3, ground := Ground.phase }, { on := 4, ground := Ground.phase }, { on := 5, ground := Ground.phase }, { on := 6, ground := Ground.phase }, { on := 7, ground := Ground.phase }, { on := 8, ground := Ground.phase }, { on := 9, ground := Ground.phase }, { on := 10, ground := Ground.phase }, { on := 11, ground := Ground.phase }, { on := 12, ground := Ground.phase }, { on := 13, ground := Ground.phase }, { on := 14, ground := Ground.phase }, { on := 15, ground := Ground.phase }], guard := none }) (v := ?tkv1117) rfl (by kernel_rfl) (by kernel_rfl) (by kernel_rfl) (fun _ _ _ h => h) (Or.inl ⟨by rfl, ?tky1117⟩) hH1114 ?tkr1117
            case tky1117 => (intro w' hSw; clear hSw; go_simp; try with_reducible rfl)
            try simp only [Act.put, List.setIfInBounds_toArray, List.set_cons_zero, List.set_cons_succ]
            refine wpAnyH_done (by kernel_rfl) ?_ _
            refine NoPanic.normal ?_
            have HFA := Lib.hid HSTC.out.2.1
            have HRA := Lib.hid HSTC.out.2.2.1
            have HBA := Lib.hid HSTC.out.2.2.2
            clear HSTC
            go_wp2_with fail
            go_meet
            case rel => exact ⟨by first | rfl | simp, f9, HFA, HRA, HOK3, HBA⟩
        by_cases k1 : d = 1
        · subst k1
          as_aux_lemma =>
            obtain ⟨dd, kk, hrd, hdl⟩ := srd_any f s a
            have HRD := Lib.hid (sread_is g f s a dd kk W5 HF0.out hrd)
            have HRR := Lib.hid (fun W (hW : RfAt W gm gB f) => rsread_any gm gB f s a dd kk W hag1 hag2 hW hrd)
            have hkb : (kk == kk) = true := by simp
            have HOK3 : Hid (f.Ok (600 * ((k + 1 : Nat) : Int))) := hok.out.more (by push_cast; omega)
            clear hrd hdl
            go_wp2_with fail
            refine HRD.out.mono ?_
            rintro e w3 ⟨A3, n3, k3, rfl, hn3, HR3, hb3⟩
            have HS3 := Lib.hid (HST0.out.below hb3.out)
            obtain ⟨d0, d1, d2, d3, d4⟩ := HFB.out _ HS3.out.1
            clear hn3 HRD c0 c1 c2 c3 c4
            go_wp2_with fail
            refine (HRR.out w3 HS3.out.2.2.1).mono ?_
            rintro e w4 ⟨A4, n4, k4, rfl, hn4, HR4, hb4⟩
            have HS4 := Lib.hid (HS3.out.below hb4.out)
            have hk1 := run_string_row (P := Tryd.prog) ((HR3.out.below hb4.out).more hb4.out.size) k3 28 9 5 Tryd.underlying28 Tryd.underlying5 Tryd.underlying9
            have hk2 := run_string_row (P := Tryd.prog) HR4.out k4 28 9 5 Tryd.underlying28 Tryd.underlying5 Tryd.underlying9
            have HFA := Lib.hid HS4.out.2.1
            have HRA := Lib.hid HS4.out.2.2.1
            have HBA := Lib.hid HS4.out.2.2.2
            clear hn4 hb3 hb4 HRR d0 d1 d2 d3 d4 HS3 HS4 HR3 HR4
            go_wp2_with fail
            go_meet
            case rel => exact ⟨by first | rfl | simp, f, HFA, HRA, HOK3, HBA⟩
        by_cases k2 : d = 2
        · subst k2
          as_aux_lemma =>
            obtain ⟨dd, kk, hrd, hdl⟩ := srd_any f s M
            obtain ⟨bb, hbb⟩ : ∃ bb : Bool, bb = (decide (1 ≤ M) && (kk == 0) && (Sha.D dd == HH)) := ⟨_, rfl⟩
            have hgb5 : gb < W5.heap.size := (Array.getElem?_eq_some_iff.1 HZB5.out).1
            have hrw5 : Row W5 W5.heap.size Ai q9 (bv HH) := HRI5.out.more (Nat.le_of_lt hgb5)
            have HQ1 := Lib.hid (fun W (hW : Below W5.heap.size W5 W) => right_is g V q9 M ci s Ai HH f dd kk W (HT.out.below (HBW.out.trans (hW.mono HBW.out.size)) HT.out.1) (HF0.out.below hW) hrd hM512 ((hrw5.below hW).more hW.size) bb hbb)
            have HQ2 := Lib.hid (fun W (hW : Below W5.heap.size W5 W) => rright_any gm gB V q9 M ci s Ai HH f dd kk W (HR0.out.below hW) hrd hdl hM512 ((hrw5.below hW).more hW.size) bb hbb)
            have HF20 : Hid (∀ W, Below W5.heap.size W5 W → W.cell? ⟨gc, 1, none⟩ = some (.int .i64 s) ∧ W.cell? ⟨gb, 0, none⟩ = some (.int .u32 (V : Int)) ∧ W.cell? ⟨gb, 1, none⟩ = some (.int .i64 (M : Int)) ∧ W.cell? ⟨gb, 2, none⟩ = some (.slice Ai q9 ci)) := Lib.hid fun W hW => by
              obtain ⟨d0, d1, d2, d3, d4⟩ := HFB.out W (HST0.out.below hW).1
              obtain ⟨x0, x1, x2⟩ := Go.Proofs.YtgfdpondnkcogaaDoor.c3 ((hW.block gb hgb5).trans HZB5.out)
              exact ⟨d1, x0, x1, x2⟩
            have hbbb : (bb == bb) = true := by simp
            have HOK3 : Hid (f.Ok (600 * ((k + 1 : Nat) : Int))) := hok.out.more (by push_cast; omega)
            clear hrd hdl hbb hrw5 hgb5 c0 c1 c2 c3 c4
            go_upto_region 20 with fail
            refine wp_region_noPanic ?_
            refine wp_region_held_drew (S := (fun W => Below W5.heap.size W5 W)) (by kernel_rfl) (Below.refl _ _).drew (fun hH0 => ?_)
            have hH0 : Below W5.heap.size W5 W5.drew := hH0
            generalize W5.drew = wd at *
            refine wpAnyH_take (i := 0) (oi := { dst := some 143, op := Op.move (Operand.tmp 15), type := 4, pos := "law.go:45", after := #[], guard := none }) (v := ?tkv3001) rfl (by kernel_rfl) (by kernel_rfl) (by kernel_rfl) (fun _ _ _ h => h) (Or.inl ⟨by rfl, ?tky3001⟩) hH0 ?tkr3001
            case tky3001 => (intro w' hSw; clear hSw; go_simp; try with_reducible rfl)
            try simp only [Act.put, List.setIfInBounds_toArray, List.set_cons_zero, List.set_cons_succ]
            refine wpAnyH_take (i := 1) (oi := { dst := some 144, op := Op.move (Operand.tmp 143), type := 4, pos := "law.go:45", after := #[{ on := 0, ground := Ground.data }], guard := none }) (v := ?tkv3002) rfl (by kernel_rfl) (by kernel_rfl) (by kernel_rfl) (fun _ _ _ h => h) (Or.inl ⟨by rfl, ?tky3002⟩) hH0 ?tkr3002
            case tky3002 => (intro w' hSw; clear hSw; go_simp; try with_reducible rfl)
            try simp only [Act.put, List.setIfInBounds_toArray, List.set_cons_zero, List.set_cons_succ]
            refine wpAnyH_take (i := 2) (oi := { dst := some 145, op := Op.move (Operand.tmp 7), type := 24, pos := "law.go:45", after := #[{ on := 1, ground := Ground.guard }], guard := some (1, true) }) (v := ?tkv3003) rfl (by kernel_rfl) (by kernel_rfl) (by kernel_rfl) (fun _ _ _ h => h) (Or.inl ⟨by rfl, ?tky3003⟩) hH0 ?tkr3003
            case tky3003 => (intro w' hSw; clear hSw; go_simp; try with_reducible rfl)
            try simp only [Act.put, List.setIfInBounds_toArray, List.set_cons_zero, List.set_cons_succ]
            refine wpAnyH_take (i := 3) (oi := { dst := some 146, op := Op.fieldAddr 30 (Operand.tmp 10) 1, type := 0, pos := "law.go:45", after := #[{ on := 1, ground := Ground.guard }], guard := some (1, true) }) (v := ?tkv3004) rfl (by kernel_rfl) (by kernel_rfl) (by kernel_rfl) (fun _ _ _ h => h) (Or.inl ⟨by rfl, ?tky3004⟩) hH0 ?tkr3004
            case tky3004 => (intro w' hSw; clear hSw; go_simp; try with_reducible rfl)
            try simp only [Act.put, List.setIfInBounds_toArray, List.set_cons_zero, List.set_cons_succ]
            refine wpAnyH_take (i := 4) (oi := { dst := some 147, op := Op.load 3 (Operand.tmp 146), type := 3, pos := "law.go:45", after := #[{ on := 3, ground := Ground.data }, { on := 1, ground := Ground.guard }], guard := some (1, true) }) (v := ?tkv3005) rfl (by kernel_rfl) (by kernel_rfl) (by kernel_rfl) (fun _ _ _ h => h) (Or.inl ⟨by rfl, ?tky3005⟩) hH0 ?tkr3005
            case tky3005 => (intro w' hSw; have z0 := HF20.out _ hSw; clear hSw; go_simp; try with_reducible rfl)
            try simp only [Act.put, List.setIfInBounds_toArray, List.set_cons_zero, List.set_cons_succ]
            refine wpAnyH_take (i := 5) (oi := { dst := some 148, op := Op.load 33 (Operand.tmp 13), type := 33, pos := "law.go:45", after := #[{ on := 1, ground := Ground.guard }], guard := some (1, true) }) (v := ?tkv3006) rfl (by kernel_rfl) (by kernel_rfl) (by kernel_rfl) (fun _ _ _ h => h) (Or.inl ⟨by rfl, ?tky3006⟩) hH0 ?tkr3006
            case tky3006 => (intro w' hSw; have z0 := HF20.out _ hSw; clear hSw; go_simp; try with_reducible rfl)
            try simp only [Act.put, List.setIfInBounds_toArray, List.set_cons_zero, List.set_cons_succ]
            refine wpAnyH_take (i := 7) (oi := { dst := some 150, op := Op.move (Operand.tmp 8), type := 26, pos := "law.go:45", after := #[{ on := 1, ground := Ground.guard }], guard := some (1, true) }) (v := ?tkv3007) rfl (by kernel_rfl) (by kernel_rfl) (by kernel_rfl) (fun _ _ _ h => h) (Or.inl ⟨by rfl, ?tky3007⟩) hH0 ?tkr3007
            case tky3007 => (intro w' hSw; clear hSw; go_simp; try with_reducible rfl)
            try simp only [Act.put, List.setIfInBounds_toArray, List.set_cons_zero, List.set_cons_succ]
            refine wpAnyH_take (i := 8) (oi := { dst := some 151, op := Op.fieldAddr 30 (Operand.tmp 10) 1, type := 0, pos := "law.go:45", after := #[{ on := 1, ground := Ground.guard }], guard := some (1, true) }) (v := ?tkv3008) rfl (by kernel_rfl) (by kernel_rfl) (by kernel_rfl) (fun _ _ _ h => h) (Or.inl ⟨by rfl, ?tky3008⟩) hH0 ?tkr3008
            case tky3008 => (intro w' hSw; clear hSw; go_simp; try with_reducible rfl)
            try simp only [Act.put, List.setIfInBounds_toArray, List.set_cons_zero, List.set_cons_succ]
            refine wpAnyH_take (i := 9) (oi := { dst := some 152, op := Op.load 3 (Operand.tmp 151), type := 3, pos := "law.go:45", after := #[{ on := 8, ground := Ground.data }, { on := 1, ground := Ground.guard }], guard := some (1, true) }) (v := ?tkv3009) rfl (by kernel_rfl) (by kernel_rfl) (by kernel_rfl) (fun _ _ _ h => h) (Or.inl ⟨by rfl, ?tky3009⟩) hH0 ?tkr3009
            case tky3009 => (intro w' hSw; have z0 := HF20.out _ hSw; clear hSw; go_simp; try with_reducible rfl)
            try simp only [Act.put, List.setIfInBounds_toArray, List.set_cons_zero, List.set_cons_succ]
            refine wpAnyH_take (i := 10) (oi := { dst := some 153, op := Op.load 33 (Operand.tmp 13), type := 33, pos := "law.go:45", after := #[{ on := 1, ground := Ground.guard }], guard := some (1, true) }) (v := ?tkv3010) rfl (by kernel_rfl) (by kernel_rfl) (by kernel_rfl) (fun _ _ _ h => h) (Or.inl ⟨by rfl, ?tky3010⟩) hH0 ?tkr3010
            case tky3010 => (intro w' hSw; have z0 := HF20.out _ hSw; clear hSw; go_simp; try with_reducible rfl)
            try simp only [Act.put, List.setIfInBounds_toArray, List.set_cons_zero, List.set_cons_succ]
            refine wpAnyH_ready (rs := [6]) (by kernel_rfl) (by simp) ?_
            refine AllReadyH.cons (o := { dst := some 149, op := Op.call { callee := Callee.value (Operand.func 17), args := #[Operand.tmp 145, Operand.tmp 147, Operand.tmp 148], argTypes := #[24, 3, 33] }, type := 4, pos := "law.go:45", after := #[{ on := 2, ground := Ground.data }, { on := 4, ground := Ground.data }, { on := 5, ground := Ground.data }, { on := 1, ground := Ground.chain }, { on := 1, ground := Ground.guard }], guard := some (1, true) }) rfl (fun K hK => ?_) AllReadyH.nil
            go_simp
            refine (HQ1.out _ hH0).mono ?_
            rintro e' wr1 ⟨rfl, hb6h⟩
            have hb6 := hb6h.out
            go_simp
            refine hK.out _ _ ((hH0).trans (hb6.mono (hH0).size)) (fun hH3011 => ?_)
            clear hK K
            try simp only [Act.put, List.setIfInBounds_toArray, List.set_cons_zero, List.set_cons_succ]
            have hG3011 : (fun W => Below W5.heap.size W5 W ∧ Below wr1.heap.size wr1 W) wr1 := ⟨hH3011, Below.refl _ _⟩
            refine wpAnyH_grow (S' := (fun W => Below W5.heap.size W5 W ∧ Below wr1.heap.size wr1 W)) (fun _ h => h.1) _ _ _ _ ?_
            refine wpAnyH_ready (rs := [11]) (by kernel_rfl) (by simp) ?_
            refine AllReadyH.cons (o := { dst := some 154, op := Op.call { callee := Callee.value (Operand.func 18), args := #[Operand.tmp 150, Operand.tmp 152, Operand.tmp 153], argTypes := #[26, 3, 33] }, type := 4, pos := "law.go:45", after := #[{ on := 7, ground := Ground.data }, { on := 9, ground := Ground.data }, { on := 10, ground := Ground.data }, { on := 6, ground := Ground.chain }, { on := 1, ground := Ground.guard }], guard := some (1, true) }) rfl (fun K hK => ?_) AllReadyH.nil
            go_simp
            refine (HQ2.out _ hG3011.1).mono ?_
            rintro e' wr2 ⟨rfl, hb11h⟩
            have hb11 := hb11h.out
            go_simp
            refine hK.out _ _ (⟨(hG3011.1).trans (hb11.mono (hG3011.1).size), (hG3011.2).trans (hb11.mono (hG3011.2).size)⟩) (fun hH3012 => ?_)
            clear hK K
            try simp only [Act.put, List.setIfInBounds_toArray, List.set_cons_zero, List.set_cons_succ]
            have hG3012 : (fun W => Below W5.heap.size W5 W ∧ Below wr1.heap.size wr1 W ∧ Below wr2.heap.size wr2 W) wr2 := ⟨hH3012.1, hH3012.2, Below.refl _ _⟩
            refine wpAnyH_grow (S' := (fun W => Below W5.heap.size W5 W ∧ Below wr1.heap.size wr1 W ∧ Below wr2.heap.size wr2 W)) (fun _ h => ⟨h.1, h.2.1⟩) _ _ _ _ ?_
            refine wpAnyH_take (i := 12) (oi := { dst := some 155, op := Op.binOp BinOp.eql 4 (Operand.tmp 149) (Operand.tmp 154) 4, type := 4, pos := "law.go:45", after := #[{ on := 6, ground := Ground.data }, { on := 11, ground := Ground.data }, { on := 1, ground := Ground.guard }], guard := some (1, true) }) (v := ?tkv3013) rfl (by kernel_rfl) (by kernel_rfl) (by kernel_rfl) (fun _ _ _ h => h) (Or.inl ⟨by rfl, ?tky3013⟩) hG3012 ?tkr3013
            case tky3013 => (intro w' hSw; clear hSw; go_simp; try with_reducible rfl)
            try simp only [Act.put, List.setIfInBounds_toArray, List.set_cons_zero, List.set_cons_succ]
            refine wpAnyH_take (i := 13) (oi := { dst := some 156, op := Op.pick (Operand.tmp 144) (Operand.tmp 155) (Operand.const (Value.bool false)), type := 4, pos := "law.go:45", after := #[{ on := 1, ground := Ground.data }, { on := 12, ground := Ground.data }], guard := none }) (v := ?tkv3014) rfl (by kernel_rfl) (by kernel_rfl) (by kernel_rfl) (fun _ _ _ h => h) (Or.inl ⟨by rfl, ?tky3014⟩) hG3012 ?tkr3014
            case tky3014 => (intro w' hSw; clear hSw; go_simp; try with_reducible rfl)
            try simp only [Act.put, List.setIfInBounds_toArray, List.set_cons_zero, List.set_cons_succ]
            refine wpAnyH_take (i := 14) (oi := { dst := some 15, op := Op.assign (Operand.tmp 156), type := 4, pos := "law.go:45", after := #[{ on := 13, ground := Ground.data }, { on := 11, ground := Ground.chain }, { on := 0, ground := Ground.phase }, { on := 1, ground := Ground.phase }, { on := 2, ground := Ground.phase }, { on := 3, ground := Ground.phase }, { on := 4, ground := Ground.phase }, { on := 5, ground := Ground.phase }, { on := 6, ground := Ground.phase }, { on := 7, ground := Ground.phase }, { on := 8, ground := Ground.phase }, { on := 9, ground := Ground.phase }, { on := 10, ground := Ground.phase }, { on := 11, ground := Ground.phase }, { on := 12, ground := Ground.phase }, { on := 13, ground := Ground.phase }], guard := none }) (v := ?tkv3015) rfl (by kernel_rfl) (by kernel_rfl) (by kernel_rfl) (fun _ _ _ h => h) (Or.inl ⟨by rfl, ?tky3015⟩) hG3012 ?tkr3015
            case tky3015 => (intro w' hSw; clear hSw; go_simp; try with_reducible rfl)
            try simp only [Act.put, List.setIfInBounds_toArray, List.set_cons_zero, List.set_cons_succ]
            refine wpAnyH_done (by kernel_rfl) ?_ _
            refine NoPanic.normal ?_
            have hEnd : Below W5.heap.size W5 _ := hG3012.1
            have HS9 := Lib.hid (HST0.out.below hEnd)
            have HFA := Lib.hid HS9.out.2.1
            have HRA := Lib.hid HS9.out.2.2.1
            have HBA := Lib.hid HS9.out.2.2.2
            clear HS9
            go_wp2_with fail
            go_meet
            case rel => exact ⟨by first | rfl | simp, f, HFA, HRA, HOK3, HBA⟩
        by_cases k3 : d = 3
        · subst k3
          as_aux_lemma =>
            have HOK3 : Hid (Fl.Ok { f with there := decide (0 ≤ a), left := a, torn := m } (600 * ((k + 1 : Nat) : Int))) := by
              have h := hok.out
              exact ⟨h.1, by have := h.2.1; show f.steps ≤ _; push_cast; omega, ⟨hag1, hag2⟩, h.2.2.2.1, h.2.2.2.2⟩
            have HC1 := Lib.hid (fuse_any g a m f W5 HF0.out)
            have HC2 := Lib.hid (fun W (hW : RfAt W gm gB f) => rfuse_any a m hW ⟨hag1, hag2⟩)
            generalize ({ f with there := decide (0 ≤ a), left := a, torn := m } : Fl) = f9 at *
            go_wp2_with fail
            refine HC1.out.mono ?_
            rintro e w3 ⟨rfl, hdd⟩
            have HS3 := Lib.hid (HST0.out.done AP.out hdd.out)
            obtain ⟨d0, d1, d2, d3, d4⟩ := HFB.out _ HS3.out.1
            clear hdd c0 c1 c2 c3 c4
            go_wp2_with fail
            refine (HC2.out w3 HS3.out.2.2.1).mono ?_
            rintro e w4 ⟨rfl, hdd⟩
            have HS4 := Lib.hid (HS3.out.rdone AP.out hdd.out)
            have HFA := Lib.hid HS4.out.2.1
            have HRA := Lib.hid HS4.out.2.2.1
            have HBA := Lib.hid HS4.out.2.2.2
            clear hdd d0 d1 d2 d3 d4 HS3 HS4
            go_wp2_with fail
            go_meet
            case rel => exact ⟨by first | rfl | simp, f9, HFA, HRA, HOK3, HBA⟩
        by_cases k4 : d = 4
        · subst k4
          as_aux_lemma =>
            obtain ⟨pa, hpa, hpk⟩ := pick_in a 1000 (by omega) (by omega)
            obtain ⟨pq, hpq⟩ : ∃ pq, 512 + pa = pq := ⟨_, rfl⟩
            have hpq2 : pq < 1512 := by omega
            have HPK : Hid (wrap64 (512 + wrap64 ((IntKind.u64.wrap a).tmod 1000)) = (pq : Int)) := by
              show _ = _
              rw [hpk, show (512 : Int) + (pa : Int) = (pq : Int) by omega]
              unfold wrap64
              omega
            have HPK2 : Hid (512 + wrap64 ((IntKind.u64.wrap a).tmod 1000) = (pq : Int)) := by
              show _ = _
              rw [hpk]
              omega
            clear hpk hpa hpq
            rcases (show ym < 20 ∨ ym = 20 ∨ 20 < ym by omega) with hlt20 | rfl | hlt20
            · have hi1 : (ym : Int) < 20 := by omega
              have hi2 : ¬ (20 : Int) < ym := by omega
              have hi3 : (ym : Int) ≤ 20 := by omega
              have hi4 : ¬ (20 : Int) ≤ ym := by omega
              have hrw : ∀ W, Below w.heap.size w W → Row W w.heap.size yA (ym) (bv (yl.take (ym))) := fun W hW => by
                have h : Row W w.heap.size yA (ym) (bv yl) := HYG.out.1.below hW
                have := h.head (k := ym) (by omega)
                rwa [bv_take] at this
              have hbl : (yl.take (ym)).length ≤ 20 := by rw [List.length_take]; omega
              have hcp : ((ym : Nat) : Int) ≤ yc := by have h : (ym : Nat) ≤ yc := HYG.out.2.1; omega
              have hcq : ((ym : Nat) : Int) ≤ ym := by omega
              have hag : 0 < (ym : Nat) → ∀ b o, yA = some ⟨b, o, none⟩ → b ≠ g := fun h => HAG.out (by omega)
              have har : 0 < (ym : Nat) → ∀ b o, yA = some ⟨b, o, none⟩ → b ≠ gm ∧ b ≠ gB := fun h => HAR.out (by omega)
              obtain ⟨r, hpr⟩ := pr_any f pq (yl.take (ym))
              have hok2 := hpr.ok hok.out hbl
              have HOK3 : Hid (r.1.Ok (600 * ((k + 1 : Nat) : Int))) := hok2.more (by push_cast; omega)
              have hc1 : ∀ cap W, StC gc CS g gm gB f f w W → Calls Tryd.prog 21 #[.pointer (some ⟨g, 0, none⟩), .int .i64 (pq : Int), .slice yA (ym) cap] W fun e w' => e = .returned (.int .i64 r.2) ∧ StC gc CS g gm gB r.1 f w w' := fun cap W hW => (prog_is g pq w.heap.size (ym) cap yA _ f W r _ hW.2.1 (hrw W hW.2.2.2) hag hW.2.2.2.size (by omega) hok.out (by omega) hpr).mono (by
                rintro e w' ⟨rfl, hdd⟩
                exact ⟨rfl, hW.done AP.out hdd⟩)
              have hc2 : ∀ cap W, StC gc CS g gm gB r.1 f w W → Calls Tryd.prog 22 #[.pointer (some ⟨gm, 0, none⟩), .int .i64 (pq : Int), .slice yA (ym) cap] W fun e w' => e = .returned (.int .i64 r.2) ∧ StC gc CS g gm gB r.1 r.1 w w' := fun cap W hW => (rprog_is gm gB pq w.heap.size (ym) cap yA _ f W r _ hW.2.2.1 (hrw W hW.2.2.2) har hW.2.2.2.size (by omega) hok.out (by omega) hpr).mono (by
                rintro e w' ⟨rfl, hdd⟩
                exact ⟨rfl, hW.rdone AP.out hdd⟩)
              have HC1 := Lib.hid (hc1 yc)
              have HC2 := Lib.hid (hc2 yc)
              clear hok2 hpr hrw hbl hag har hc1 hc2
              obtain ⟨f9, r9⟩ := r
              dsimp only at HC1 HC2 HOK3
              have hr9 : (r9 == r9) = true := by simp
              go_upto_region 26 with fail
              first | rw [HPK.out] | rw [HPK2.out]
              go_wp2_with fail
              refine (HC1.out W5 HST0.out).mono ?_
              rintro e w3 ⟨rfl, HSA3⟩
              have HSA := Lib.hid HSA3
              obtain ⟨d0, d1, d2, d3, d4⟩ := HFB.out _ HSA.out.1
              clear c0 c1 c2 c3 c4 HSA3
              go_wp2_with fail
              refine (HC2.out w3 HSA.out).mono ?_
              rintro e w4 ⟨rfl, HSB3⟩
              have HSTC := Lib.hid HSB3
              clear d0 d1 d2 d3 d4 HSA HSB3
              have HFA := Lib.hid HSTC.out.2.1
              have HRA := Lib.hid HSTC.out.2.2.1
              have HBA := Lib.hid HSTC.out.2.2.2
              clear HSTC
              go_wp2_with fail
              go_meet
              case rel => exact ⟨by first | rfl | simp, f9, HFA, HRA, HOK3, HBA⟩
            · skip
              have hrw : ∀ W, Below w.heap.size w W → Row W w.heap.size yA (20) (bv (yl.take (20))) := fun W hW => by
                have h : Row W w.heap.size yA (20) (bv yl) := HYG.out.1.below hW
                have := h.head (k := 20) (by omega)
                rwa [bv_take] at this
              have hbl : (yl.take (20)).length ≤ 20 := by rw [List.length_take]; omega
              have hcp : ((20 : Nat) : Int) ≤ yc := by have h : (20 : Nat) ≤ yc := HYG.out.2.1; omega
              have hcq : ((20 : Nat) : Int) ≤ (20 : Int) := by omega
              have hag : 0 < (20 : Nat) → ∀ b o, yA = some ⟨b, o, none⟩ → b ≠ g := fun h => HAG.out (by omega)
              have har : 0 < (20 : Nat) → ∀ b o, yA = some ⟨b, o, none⟩ → b ≠ gm ∧ b ≠ gB := fun h => HAR.out (by omega)
              obtain ⟨r, hpr⟩ := pr_any f pq (yl.take (20))
              have hok2 := hpr.ok hok.out hbl
              have HOK3 : Hid (r.1.Ok (600 * ((k + 1 : Nat) : Int))) := hok2.more (by push_cast; omega)
              have hc1 : ∀ cap W, StC gc CS g gm gB f f w W → Calls Tryd.prog 21 #[.pointer (some ⟨g, 0, none⟩), .int .i64 (pq : Int), .slice yA (20) cap] W fun e w' => e = .returned (.int .i64 r.2) ∧ StC gc CS g gm gB r.1 f w w' := fun cap W hW => (prog_is g pq w.heap.size (20) cap yA _ f W r _ hW.2.1 (hrw W hW.2.2.2) hag hW.2.2.2.size (by omega) hok.out (by omega) hpr).mono (by
                rintro e w' ⟨rfl, hdd⟩
                exact ⟨rfl, hW.done AP.out hdd⟩)
              have hc2 : ∀ cap W, StC gc CS g gm gB r.1 f w W → Calls Tryd.prog 22 #[.pointer (some ⟨gm, 0, none⟩), .int .i64 (pq : Int), .slice yA (20) cap] W fun e w' => e = .returned (.int .i64 r.2) ∧ StC gc CS g gm gB r.1 r.1 w w' := fun cap W hW => (rprog_is gm gB pq w.heap.size (20) cap yA _ f W r _ hW.2.2.1 (hrw W hW.2.2.2) har hW.2.2.2.size (by omega) hok.out (by omega) hpr).mono (by
                rintro e w' ⟨rfl, hdd⟩
                exact ⟨rfl, hW.rdone AP.out hdd⟩)
              have HC1 := Lib.hid (hc1 yc)
              have HC2 := Lib.hid (hc2 yc)
              clear hok2 hpr hrw hbl hag har hc1 hc2
              obtain ⟨f9, r9⟩ := r
              dsimp only at HC1 HC2 HOK3
              have hr9 : (r9 == r9) = true := by simp
              go_upto_region 26 with fail
              first | rw [HPK.out] | rw [HPK2.out]
              go_wp2_with fail
              refine (HC1.out W5 HST0.out).mono ?_
              rintro e w3 ⟨rfl, HSA3⟩
              have HSA := Lib.hid HSA3
              obtain ⟨d0, d1, d2, d3, d4⟩ := HFB.out _ HSA.out.1
              clear c0 c1 c2 c3 c4 HSA3
              go_wp2_with fail
              refine (HC2.out w3 HSA.out).mono ?_
              rintro e w4 ⟨rfl, HSB3⟩
              have HSTC := Lib.hid HSB3
              clear d0 d1 d2 d3 d4 HSA HSB3
              have HFA := Lib.hid HSTC.out.2.1
              have HRA := Lib.hid HSTC.out.2.2.1
              have HBA := Lib.hid HSTC.out.2.2.2
              clear HSTC
              go_wp2_with fail
              go_meet
              case rel => exact ⟨by first | rfl | simp, f9, HFA, HRA, HOK3, HBA⟩
            · have hi1 : ¬ (ym : Int) < 20 := by omega
              have hi2 : (20 : Int) < ym := by omega
              have hi3 : ¬ (ym : Int) ≤ 20 := by omega
              have hi4 : (20 : Int) ≤ ym := by omega
              have hrw : ∀ W, Below w.heap.size w W → Row W w.heap.size yA (20) (bv (yl.take (20))) := fun W hW => by
                have h : Row W w.heap.size yA (ym) (bv yl) := HYG.out.1.below hW
                have := h.head (k := 20) (by omega)
                rwa [bv_take] at this
              have hbl : (yl.take (20)).length ≤ 20 := by rw [List.length_take]; omega
              have hcp : ((20 : Nat) : Int) ≤ yc := by have h : (ym : Nat) ≤ yc := HYG.out.2.1; omega
              have hcq : ((20 : Nat) : Int) ≤ (20 : Int) := by omega
              have hag : 0 < (20 : Nat) → ∀ b o, yA = some ⟨b, o, none⟩ → b ≠ g := fun h => HAG.out (by omega)
              have har : 0 < (20 : Nat) → ∀ b o, yA = some ⟨b, o, none⟩ → b ≠ gm ∧ b ≠ gB := fun h => HAR.out (by omega)
              obtain ⟨r, hpr⟩ := pr_any f pq (yl.take (20))
              have hok2 := hpr.ok hok.out hbl
              have HOK3 : Hid (r.1.Ok (600 * ((k + 1 : Nat) : Int))) := hok2.more (by push_cast; omega)
              have hc1 : ∀ cap W, StC gc CS g gm gB f f w W → Calls Tryd.prog 21 #[.pointer (some ⟨g, 0, none⟩), .int .i64 (pq : Int), .slice yA (20) cap] W fun e w' => e = .returned (.int .i64 r.2) ∧ StC gc CS g gm gB r.1 f w w' := fun cap W hW => (prog_is g pq w.heap.size (20) cap yA _ f W r _ hW.2.1 (hrw W hW.2.2.2) hag hW.2.2.2.size (by omega) hok.out (by omega) hpr).mono (by
                rintro e w' ⟨rfl, hdd⟩
                exact ⟨rfl, hW.done AP.out hdd⟩)
              have hc2 : ∀ cap W, StC gc CS g gm gB r.1 f w W → Calls Tryd.prog 22 #[.pointer (some ⟨gm, 0, none⟩), .int .i64 (pq : Int), .slice yA (20) cap] W fun e w' => e = .returned (.int .i64 r.2) ∧ StC gc CS g gm gB r.1 r.1 w w' := fun cap W hW => (rprog_is gm gB pq w.heap.size (20) cap yA _ f W r _ hW.2.2.1 (hrw W hW.2.2.2) har hW.2.2.2.size (by omega) hok.out (by omega) hpr).mono (by
                rintro e w' ⟨rfl, hdd⟩
                exact ⟨rfl, hW.rdone AP.out hdd⟩)
              have HC1 := Lib.hid (hc1 yc)
              have HC2 := Lib.hid (hc2 yc)
              clear hok2 hpr hrw hbl hag har hc1 hc2
              obtain ⟨f9, r9⟩ := r
              dsimp only at HC1 HC2 HOK3
              have hr9 : (r9 == r9) = true := by simp
              go_upto_region 26 with fail
              first | rw [HPK.out] | rw [HPK2.out]
              go_wp2_with fail
              refine (HC1.out W5 HST0.out).mono ?_
              rintro e w3 ⟨rfl, HSA3⟩
              have HSA := Lib.hid HSA3
              obtain ⟨d0, d1, d2, d3, d4⟩ := HFB.out _ HSA.out.1
              clear c0 c1 c2 c3 c4 HSA3
              go_wp2_with fail
              refine (HC2.out w3 HSA.out).mono ?_
              rintro e w4 ⟨rfl, HSB3⟩
              have HSTC := Lib.hid HSB3
              clear d0 d1 d2 d3 d4 HSA HSB3
              have HFA := Lib.hid HSTC.out.2.1
              have HRA := Lib.hid HSTC.out.2.2.1
              have HBA := Lib.hid HSTC.out.2.2.2
              clear HSTC
              go_wp2_with fail
              go_meet
              case rel => exact ⟨by first | rfl | simp, f9, HFA, HRA, HOK3, HBA⟩
        have HOK3 : Hid (Fl.Ok { f with down := false } (600 * ((k + 1 : Nat) : Int))) := by
          have h := hok.out
          exact ⟨h.1, by have := h.2.1; show f.steps ≤ _; push_cast; omega, h.2.2⟩
        have HC1 := Lib.hid (start_any g f W5 HF0.out)
        have HC2 := Lib.hid (fun W (hW : RfAt W gm gB f) => rstart_any hW)
        generalize ({ f with down := false } : Fl) = f9 at *
        go_wp2_with fail
        refine HC1.out.mono ?_
        rintro e w3 ⟨rfl, hdd⟩
        have HS3 := Lib.hid (HST0.out.done AP.out hdd.out)
        obtain ⟨d0, d1, d2, d3, d4⟩ := HFB.out _ HS3.out.1
        clear hdd c0 c1 c2 c3 c4
        go_wp2_with fail
        refine (HC2.out w3 HS3.out.2.2.1).mono ?_
        rintro e w4 ⟨rfl, hdd⟩
        have HS4 := Lib.hid (HS3.out.rdone AP.out hdd.out)
        have HFA := Lib.hid HS4.out.2.1
        have HRA := Lib.hid HS4.out.2.2.1
        have HBA := Lib.hid HS4.out.2.2.2
        clear hdd d0 d1 d2 d3 d4 HS3 HS4
        go_wp2_with fail
        go_meet
        case rel => exact ⟨by first | rfl | simp, f9, HFA, HRA, HOK3, HBA⟩
      case rest =>
        obtain ⟨rfl, f3, HF3, HR3, HOK3, HB3⟩ := hcut
        generalize wc = wx at *
        have HBY := Lib.hid (fun W (hW : Below wx.heap.size wx W) => bytes_any g f3 W (HF3.out.below hW))
        have hrb : Row wx wx.heap.size (some ⟨gB, 0, none⟩) 3584 (bv (f3.sub 0 3584)) := HR3.out.2.1.row (a := 0) (n := 3584) (by omega)
        have HF29 : Hid (∀ W, Below wx.heap.size wx W → W.cell? ⟨gm, 0, none⟩ = some (.slice (some ⟨gB, 0, none⟩) 3584 3584) ∧ (convert 28 9 (.slice (some ⟨gB, 0, none⟩) 3584 3584)).run Tryd.prog W = .ok (.string ⟨(f3.sub 0 3584).toArray⟩) W) := Lib.hid fun W hW =>
          ⟨(HR3.out.below hW).slot0, conv_row _ hrb (Nat.le_refl _) W hW⟩
        clear HF0 HR0 HBOX HBW HST0 c0 c1 c2 c3 c4 hrb
        go_upto_region 28 with fail
        refine wp_region_noPanic ?_
        refine wp_region_held_drew (S := (fun W => Below wx.heap.size wx W)) (by kernel_rfl) (Below.refl _ _).drew (fun hH0 => ?_)
        have hH0 : Below wx.heap.size wx wx.drew := hH0
        generalize wx.drew = wd at *
        refine wpAnyH_take (i := 0) (oi := { dst := some 198, op := Op.move (Operand.tmp 15), type := 4, pos := "law.go:57", after := #[], guard := none }) (v := ?tkv5001) rfl (by kernel_rfl) (by kernel_rfl) (by kernel_rfl) (fun _ _ _ h => h) (Or.inl ⟨by rfl, ?tky5001⟩) hH0 ?tkr5001
        case tky5001 => (intro w' hSw; clear hSw; go_simp; try with_reducible rfl)
        try simp only [Act.put, List.setIfInBounds_toArray, List.set_cons_zero, List.set_cons_succ]
        refine wpAnyH_take (i := 1) (oi := { dst := some 199, op := Op.unOp UnOp.not 4 (Operand.tmp 198), type := 4, pos := "law.go:57", after := #[{ on := 0, ground := Ground.data }], guard := none }) (v := ?tkv5002) rfl (by kernel_rfl) (by kernel_rfl) (by kernel_rfl) (fun _ _ _ h => h) (Or.inl ⟨by rfl, ?tky5002⟩) hH0 ?tkr5002
        case tky5002 => (intro w' hSw; clear hSw; go_simp; try with_reducible rfl)
        try simp only [Act.put, List.setIfInBounds_toArray, List.set_cons_zero, List.set_cons_succ]
        refine wpAnyH_take (i := 2) (oi := { dst := some 200, op := Op.move (Operand.tmp 199), type := 4, pos := "law.go:57", after := #[{ on := 1, ground := Ground.data }], guard := none }) (v := ?tkv5003) rfl (by kernel_rfl) (by kernel_rfl) (by kernel_rfl) (fun _ _ _ h => h) (Or.inl ⟨by rfl, ?tky5003⟩) hH0 ?tkr5003
        case tky5003 => (intro w' hSw; clear hSw; go_simp; try with_reducible rfl)
        try simp only [Act.put, List.setIfInBounds_toArray, List.set_cons_zero, List.set_cons_succ]
        refine wpAnyH_take (i := 3) (oi := { dst := some 201, op := Op.move (Operand.tmp 7), type := 24, pos := "law.go:57", after := #[{ on := 2, ground := Ground.guard }], guard := some (2, false) }) (v := ?tkv5004) rfl (by kernel_rfl) (by kernel_rfl) (by kernel_rfl) (fun _ _ _ h => h) (Or.inl ⟨by rfl, ?tky5004⟩) hH0 ?tkr5004
        case tky5004 => (intro w' hSw; clear hSw; go_simp; try with_reducible rfl)
        try simp only [Act.put, List.setIfInBounds_toArray, List.set_cons_zero, List.set_cons_succ]
        refine wpAnyH_take (i := 6) (oi := { dst := some 204, op := Op.move (Operand.tmp 8), type := 26, pos := "law.go:57", after := #[{ on := 2, ground := Ground.guard }], guard := some (2, false) }) (v := ?tkv5005) rfl (by kernel_rfl) (by kernel_rfl) (by kernel_rfl) (fun _ _ _ h => h) (Or.inl ⟨by rfl, ?tky5005⟩) hH0 ?tkr5005
        case tky5005 => (intro w' hSw; clear hSw; go_simp; try with_reducible rfl)
        try simp only [Act.put, List.setIfInBounds_toArray, List.set_cons_zero, List.set_cons_succ]
        refine wpAnyH_take (i := 7) (oi := { dst := some 205, op := Op.nilCheck (Operand.tmp 204), type := 0, pos := "law.go:57", after := #[{ on := 6, ground := Ground.data }, { on := 2, ground := Ground.guard }], guard := some (2, false) }) (v := ?tkv5006) rfl (by kernel_rfl) (by kernel_rfl) (by kernel_rfl) (fun _ _ _ h => h) (Or.inl ⟨by rfl, ?tky5006⟩) hH0 ?tkr5006
        case tky5006 => (intro w' hSw; clear hSw; go_simp; try with_reducible rfl)
        try simp only [Act.put, List.setIfInBounds_toArray, List.set_cons_zero, List.set_cons_succ]
        refine wpAnyH_take (i := 8) (oi := { dst := some 206, op := Op.fieldAddr 50 (Operand.tmp 205) 0, type := 0, pos := "law.go:57", after := #[{ on := 7, ground := Ground.data }, { on := 2, ground := Ground.guard }], guard := some (2, false) }) (v := ?tkv5007) rfl (by kernel_rfl) (by kernel_rfl) (by kernel_rfl) (fun _ _ _ h => h) (Or.inl ⟨by rfl, ?tky5007⟩) hH0 ?tkr5007
        case tky5007 => (intro w' hSw; clear hSw; go_simp; try with_reducible rfl)
        try simp only [Act.put, List.setIfInBounds_toArray, List.set_cons_zero, List.set_cons_succ]
        refine wpAnyH_take (i := 9) (oi := { dst := some 207, op := Op.load 28 (Operand.tmp 206), type := 28, pos := "law.go:57", after := #[{ on := 8, ground := Ground.data }, { on := 2, ground := Ground.guard }], guard := some (2, false) }) (v := ?tkv5008) rfl (by kernel_rfl) (by kernel_rfl) (by kernel_rfl) (fun _ _ _ h => h) (Or.inl ⟨by rfl, ?tky5008⟩) hH0 ?tkr5008
        case tky5008 => (intro w' hSw; have z0 := HF29.out _ hSw; clear hSw; go_simp; try with_reducible rfl)
        try simp only [Act.put, List.setIfInBounds_toArray, List.set_cons_zero, List.set_cons_succ]
        refine wpAnyH_take (i := 10) (oi := { dst := some 208, op := Op.convert 28 9 (Operand.tmp 207), type := 9, pos := "law.go:57", after := #[{ on := 9, ground := Ground.data }, { on := 2, ground := Ground.guard }], guard := some (2, false) }) (v := ?tkv5009) rfl (by kernel_rfl) (by kernel_rfl) (by kernel_rfl) (fun _ _ _ h => h) (Or.inl ⟨by rfl, ?tky5009⟩) hH0 ?tkr5009
        case tky5009 => (intro w' hSw; have z0 := HF29.out _ hSw; clear hSw; go_simp; try with_reducible rfl)
        try simp only [Act.put, List.setIfInBounds_toArray, List.set_cons_zero, List.set_cons_succ]
        refine wpAnyH_ready (rs := [4]) (by kernel_rfl) (by simp) ?_
        refine AllReadyH.cons (o := { dst := some 202, op := Op.call { callee := Callee.value (Operand.func 25), args := #[Operand.tmp 201], argTypes := #[24] }, type := 28, pos := "law.go:57", after := #[{ on := 3, ground := Ground.data }, { on := 2, ground := Ground.chain }, { on := 2, ground := Ground.guard }], guard := some (2, false) }) rfl (fun K hK => ?_) AllReadyH.nil
        go_simp
        refine (HBY.out _ hH0).mono ?_
        rintro e' wby ⟨Ay, ny, cy, rfl, hny, hoy, hb4⟩
        obtain rfl : ny = 3584 := hny.out.trans (Fl.sub_length _ _ _)
        have HKY := Lib.hid (conv_own cy hoy)
        clear hny hoy
        go_simp
        refine hK.out _ _ ((hH0).trans (hb4.mono (hH0).size)) (fun hH5010 => ?_)
        clear hK K
        try simp only [Act.put, List.setIfInBounds_toArray, List.set_cons_zero, List.set_cons_succ]
        have hG5010 : (fun W => Below wx.heap.size wx W ∧ Below wby.heap.size wby W) wby := ⟨hH5010, Below.refl _ _⟩
        refine wpAnyH_grow (S' := (fun W => Below wx.heap.size wx W ∧ Below wby.heap.size wby W)) (fun _ h => h.1) _ _ _ _ ?_
        refine wpAnyH_take (i := 5) (oi := { dst := some 203, op := Op.convert 28 9 (Operand.tmp 202), type := 9, pos := "law.go:57", after := #[{ on := 4, ground := Ground.data }, { on := 2, ground := Ground.guard }], guard := some (2, false) }) (v := ?tkv5011) rfl (by kernel_rfl) (by kernel_rfl) (by kernel_rfl) (fun _ _ _ h => h) (Or.inl ⟨by rfl, ?tky5011⟩) hG5010 ?tkr5011
        case tky5011 => (intro w' hSw; have z0 := HF29.out _ hSw.1; have z1 := HKY.out _ hSw.2; clear hSw; go_simp; try with_reducible rfl)
        try simp only [Act.put, List.setIfInBounds_toArray, List.set_cons_zero, List.set_cons_succ]
        refine wpAnyH_take (i := 11) (oi := { dst := some 209, op := Op.binOp BinOp.neq 9 (Operand.tmp 203) (Operand.tmp 208) 9, type := 4, pos := "law.go:57", after := #[{ on := 5, ground := Ground.data }, { on := 10, ground := Ground.data }, { on := 2, ground := Ground.guard }], guard := some (2, false) }) (v := ?tkv5012) rfl (by kernel_rfl) (by kernel_rfl) (by kernel_rfl) (fun _ _ _ h => h) (Or.inl ⟨by rfl, ?tky5012⟩) hG5010 ?tkr5012
        case tky5012 => (intro w' hSw; clear hSw; go_simp; try with_reducible rfl)
        try simp only [Act.put, List.setIfInBounds_toArray, List.set_cons_zero, List.set_cons_succ]
        refine wpAnyH_take (i := 12) (oi := { dst := some 210, op := Op.pick (Operand.tmp 200) (Operand.const (Value.bool true)) (Operand.tmp 209), type := 4, pos := "law.go:57", after := #[{ on := 2, ground := Ground.data }, { on := 11, ground := Ground.data }], guard := none }) (v := ?tkv5013) rfl (by kernel_rfl) (by kernel_rfl) (by kernel_rfl) (fun _ _ _ h => h) (Or.inl ⟨by rfl, ?tky5013⟩) hG5010 ?tkr5013
        case tky5013 => (intro w' hSw; clear hSw; go_simp; try with_reducible rfl)
        try simp only [Act.put, List.setIfInBounds_toArray, List.set_cons_zero, List.set_cons_succ]
        refine wpAnyH_done (by kernel_rfl) ?_ _
        refine NoPanic.normal ?_
        have hEnd : Below wx.heap.size wx _ := hG5010.1
        have HE1 := Lib.hid (HF3.out.below hEnd)
        have HE2 := Lib.hid (HR3.out.below hEnd)
        have HE3 := Lib.hid (HB3.out.trans (hEnd.mono HB3.out.size))
        go_wp2_with fail
        go_roundw
        case rel => exact ⟨k + 1, f3, by omega, by omega, by go_num, HE1, HE2, HOK3, HE3⟩
        case measure => simp [intOf]; omega
    · obtain rfl : n = k := by omega
      have HCR := Lib.hid (sread_nil wr)
      have HCW := Lib.hid (fun n cap A W => swrite_nil n cap 0 A W)
      have HRL := Lib.hid (fun W => right_len none 0 0 0 0 0 none W (by omega))
      clear hf hrf hok
      go_wp2_with fail
      refine HCR.out.mono ?_
      rintro e w3 ⟨rfl, rfl⟩
      go_wp2_with fail
      refine (HCW.out _ _ _ _).mono ?_
      rintro e w4 ⟨rfl, rfl⟩
      have HB4 : Hid (Below w.heap.size w (wr.alloc (.cells #[.int .u8 1] 5))) := hb.out.alloc hb.out.size _
      go_wp2_with fail
      refine (HRL.out _).mono ?_
      rintro e w5 ⟨rfl, hb5⟩
      have HB5 := Lib.hid (HB4.out.trans (hb5.out.mono HB4.out.size))
      go_wp2_with fail
      refine (awake20_any _ (HT.out.below HB5.out HT.out.1)).mono ?_
      rintro e w9 ⟨rfl, hb9⟩
      go_wp2_with fail
      go_ret
      exact ⟨rfl, HB5.out.trans (hb9.mono HB5.out.size)⟩
end Go.Proofs.YtgfdpondnkcogaaDoor
