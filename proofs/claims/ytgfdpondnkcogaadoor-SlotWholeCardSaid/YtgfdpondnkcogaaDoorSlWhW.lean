/- SlotWhole: its walks. -/
import Derived.Test.YtgfdpondnkcogaaDoorSlAw
import Derived.Test.YtgfdpondnkcogaaDoorRDig
import Derived.Test.YtgfdpondnkcogaaDoorGrow
namespace Go.Proofs.YtgfdpondnkcogaaDoor
open Go.RowKit Go.ChangeShapes Go.WideShapes Go.ChangeAt Sh
/-- power, no fuse, at most e erasures of each sector -/
structure SQ (f : Fl) (e K : Int) : Prop where
  down : f.down = false
  there : f.there = false
  wear : f.wear = 10
  er : ∀ j, f.er j ≤ e
  ok : f.Ok K
theorem SQ.lt {f : Fl} {e K : Int} (h : SQ f e K) (j : Nat) (he : e < 10) : f.er j < f.wear := by
  have := h.er j; rw [h.wear]; omega
theorem SQ.next {f f' : Fl} {e K : Int} {a : Nat} {l : List UInt8} (h : SQ f e K) (hs : SWrote f a l 0 f') (hok : f'.Ok (K + 514)) : SQ f' (e + 1) (K + 514) := by
  obtain ⟨_, _, _, q4, q5⟩ := hs.yes rfl
  refine ⟨q4.trans h.down, q5 h.there, hs.wear.trans h.wear, fun j => ?_, hok⟩
  have h1 := hs.er j
  have h2 := h.er j
  split at h1 <;> omega
theorem SQ.fuse {f : Fl} {e K : Int} (h : SQ f e K) (x : Bool) (n t : Int) (hn : -9223372036854775808 ≤ n ∧ n ≤ 9223372036854775807) : ({ f with there := x, left := n, torn := t } : Fl).down = false ∧ ({ f with there := x, left := n, torn := t } : Fl).wear = 10 ∧ (∀ j, ({ f with there := x, left := n, torn := t } : Fl).er j ≤ e) ∧ ({ f with there := x, left := n, torn := t } : Fl).Ok K :=
  ⟨h.down, h.wear, h.er, h.ok.1, h.ok.2.1, hn, h.ok.2.2.2⟩
set_option maxRecDepth 100000 in
set_option maxHeartbeats 12800000 in
theorem whole_walk0 (x : Int) (hx : wrap64 ((IntKind.u64.wrap x).tmod 2) = 0) (WA : Option Addr) (nw wcap : Nat) (was : List UInt8) (IA : Option Addr) (ni icap : Nat) (img : List UInt8) (fz tn : Int) (w : World) (ht : Tab w) (hl : Row w w.heap.size WA nw (bv was)) (hl2 : Row w w.heap.size IA ni (bv img))
    (hw1 : 1 ≤ nw) (hw2 : nw ≤ 512) (hi1 : 1 ≤ ni) (hi2 : ni ≤ 512) :
    Calls Tryd.prog 4 #[.int .i64 x, .slice WA nw wcap, .slice IA ni icap, .int .i64 fz, .int .i64 tn] w fun e w' => e = .returned (.bool true) ∧ Below w.heap.size w w' := by
  have HT := Lib.hid ht
  have HW := Lib.hid hl
  have HI := Lib.hid hl2
  have HWL := Lib.hid hl.blen
  have HIL := Lib.hid hl2.blen
  have HK := Lib.hid hx
  obtain ⟨p, hp, hP⟩ := pick_in fz 600 (by omega) (by omega)
  have HP := Lib.hid hP
  have hw1' : ¬ ((nw : Int) < 1) := by omega
  have hi1' : ¬ ((ni : Int) < 1) := by omega
  clear ht hl hl2 hx hP
  go_enter Tryd.func4, Tryd.ntmps4
  go_wp2_with (rw [HK.out])
  refine (new_any 10 w ⟨by omega, by omega⟩).mono ?_
  rintro e w1 ⟨g, rfl, hg, hf, hb⟩
  have HQ0 : Hid (SQ ((flNew 10).fill 0 3584) 0 0) := ⟨rfl, rfl, rfl, fun s => Int.le_refl 0, new_ok2 10 (by decide)⟩
  generalize (flNew 10).fill 0 3584 = f0 at *
  have HB1 : Hid (Below w.heap.size w w1) := hb
  have HF1 : Hid (FlAt w1 g f0) := hf
  have HA : ∀ (A : Option Addr) (n : Nat) (l : List UInt8), Row w w.heap.size A n (bv l) → 0 < n → ∀ b o, A = some ⟨b, o, none⟩ → b ≠ g := by
    intro A n l hr h0 b' o' e
    obtain ⟨b2, o2, e2, hb2, _⟩ := hr.2 h0
    have e3 := e2.symm.trans e
    injection e3 with e3
    injection e3 with e3
    omega
  have HAW := Lib.hid (HA _ _ _ HW.out)
  have HAI := Lib.hid (HA _ _ _ HI.out)
  clear hb hf HA
  go_wp2_with fail
  refine (swrite_free (s := 1) (a := 4) (cap := wcap) HF1.out (HW.out.below HB1.out) HAW.out HB1.out.size HQ0.out.down (.inr rfl) rfl hw1 hw2 HQ0.out.ok (by omega) (HQ0.out.lt _ (by omega)) (HQ0.out.lt _ (by omega)) HQ0.out.there).mono ?_
  rintro e w2 ⟨f1, rfl, hd, hsw, hok⟩
  have HW1 : Hid (f1.sub (256 * 4) nw = was) := by have := (hsw.out.yes rfl).1; rw [HWL.out] at this; exact this
  have HQ1 := Lib.hid (HQ0.out.next hsw.out hok.out)
  have HB2 : Hid (Below w.heap.size w w2) := below_done2 HB1.out hd.out HB1.out.size hg
  have HF2 : Hid (FlAt w2 g f1) := hd.out.1
  clear hd hsw hok HF1 HB1 HQ0
  go_wp2_with fail
  refine (swrite_free (s := 0) (a := 2) (cap := wcap) HF2.out (HW.out.below HB2.out) HAW.out HB2.out.size HQ1.out.down (.inl rfl) rfl hw1 hw2 HQ1.out.ok (by omega) (HQ1.out.lt _ (by omega)) (HQ1.out.lt _ (by omega)) HQ1.out.there).mono ?_
  rintro e w3 ⟨f2, rfl, hd, hsw, hok⟩
  have HW2 : Hid (f2.sub (256 * 4) nw = was) := (outside_sub hsw.out.out _ _ (by omega)).trans HW1.out
  have HQ2 := Lib.hid (HQ1.out.next hsw.out hok.out)
  have HB3 : Hid (Below w.heap.size w w3) := below_done2 HB2.out hd.out HB2.out.size hg
  have HF3 : Hid (FlAt w3 g f2) := hd.out.1
  clear hd hsw hok HF2 HB2 HQ1 HW1
  go_wp2_with (rw [HP.out])
  refine (fuse_any g p tn f2 w3 HF3.out).mono ?_
  rintro e w4 ⟨rfl, hd⟩
  have HQ3 := Lib.hid (HQ2.out.fuse (decide (0 ≤ (p : Int))) p tn ⟨by omega, by omega⟩)
  have HW3 : Hid (({ f2 with there := decide (0 ≤ (p : Int)), left := (p : Int), torn := tn } : Fl).sub (256 * 4) nw = was) := HW2.out
  have HB4 : Hid (Below w.heap.size w w4) := below_done2 HB3.out hd.out HB3.out.size hg
  have HF4 : Hid (FlAt w4 g _) := hd.out.1
  generalize ({ f2 with there := decide (0 ≤ (p : Int)), left := (p : Int), torn := tn } : Fl) = f3 at *
  clear hd HF3 HB3 HQ2 HW2
  go_wp2_with fail
  refine (swrite_cs (s := 0) (a := 2) (cap := icap) HF4.out (HI.out.below HB4.out) HAI.out HB4.out.size HQ3.out.1 (.inl rfl) rfl hi1 hi2 HQ3.out.2.2.2 (by omega) (by have := HQ3.out.2.1; have := HQ3.out.2.2.1 2; omega) (by have := HQ3.out.2.1; have := HQ3.out.2.2.1 (2 + 1); omega)).mono ?_
  rintro e w5 ⟨r, f4, rfl, hd, hsw, hok⟩
  have HW4 : Hid (f4.sub (256 * 4) nw = was) := (outside_sub hsw.out.out _ _ (by omega)).trans HW3.out
  have HQ4 : Hid (SQ { f4 with down := false, there := decide (0 ≤ (-1 : Int)), left := -1, torn := 0 } 3 (0 + 514 + 514 + 514)) := by
    refine ⟨rfl, rfl, hsw.out.wear.trans HQ3.out.2.1, fun j => ?_, ⟨hok.out.1, hok.out.2.1, by show _ ≤ (-1 : Int) ∧ (-1 : Int) ≤ _; decide, hok.out.2.2.2⟩⟩
    show f4.er j ≤ _
    have h1 := hsw.out.er j
    have h2 := HQ3.out.2.2.1 j
    split at h1 <;> omega
  have HR : Hid (r = 0 ∨ r = 11) := by
    by_cases h : r = 0
    · exact .inl h
    · exact .inr (hsw.out.no h).1
  have HB5 : Hid (Below w.heap.size w w5) := below_done2 HB4.out hd.out HB4.out.size hg
  have HF5 : Hid (FlAt w5 g f4) := hd.out.1
  clear hd hsw hok HF4 HB4 HQ3 HW3
  go_wp2_with fail
  refine (start_any g f4 w5 HF5.out).mono ?_
  rintro e w5a ⟨rfl, hd5⟩
  have HB5a : Hid (Below w.heap.size w w5a) := below_done2 HB5.out hd5.out HB5.out.size hg
  have HF5a : Hid (FlAt w5a g { f4 with down := false }) := hd5.out.1
  clear hd5 HB5 HF5
  go_wp2_with fail
  refine (fuse_any g (-1) 0 _ w5a HF5a.out).mono ?_
  rintro e w6 ⟨rfl, hd6⟩
  have HW6 : Hid (({ f4 with down := false, there := decide (0 ≤ (-1 : Int)), left := -1, torn := 0 } : Fl).sub (256 * 4) nw = was) := HW4.out
  have HB6 : Hid (Below w.heap.size w w6) := below_done2 HB5a.out hd6.out HB5a.out.size hg
  have HF6 : Hid (FlAt w6 g { f4 with down := false, there := decide (0 ≤ (-1 : Int)), left := -1, torn := 0 }) := hd6.out.1
  have HQ6 := HQ4
  clear hd6 HB5a HF5a HQ4 HW4
  generalize ({ f4 with down := false, there := decide (0 ≤ (-1 : Int)), left := -1, torn := 0 } : Fl) = f6 at *
  rcases HR.out with h | h
  · subst h
    clear HR
    go_wp2_with fail
    refine (swrite_free (s := 0) (a := 2) (cap := icap) HF6.out (HI.out.below HB6.out) HAI.out HB6.out.size HQ6.out.down (.inl rfl) rfl hi1 hi2 HQ6.out.ok (by omega) (HQ6.out.lt _ (by omega)) (HQ6.out.lt _ (by omega)) HQ6.out.there).mono ?_
    rintro e w7 ⟨f7, rfl, hd, hsw, hok⟩
    obtain ⟨q1, _, _, q4, _⟩ := hsw.out.yes rfl
    have HB7 : Hid (Below w.heap.size w w7) := below_done2 HB6.out hd.out HB6.out.size hg
    have HF7 : Hid (FlAt w7 g f7) := hd.out.1
    have HQ7 : Hid (f7.down = false ∧ f7.sub (256 * 2) ni = img ∧ f7.sub (256 * 4) nw = was) := ⟨q4.trans HQ6.out.down, by have := HIL.out; rw [← this]; exact q1, (outside_sub hsw.out.out _ _ (by omega)).trans HW6.out⟩
    have HRI := Lib.hid (sread_any g 0 2 ni f7 w7 HF7.out HQ7.out.1 (.inl rfl) rfl hi2)
    rw [HQ7.out.2.1] at HRI
    have HRW := Lib.hid (fun W (hW : FlAt W g f7) => sread_any g 1 4 nw f7 W hW HQ7.out.1 (.inr rfl) rfl hw2)
    rw [HQ7.out.2.2] at HRW
    clear q1 q4 hd hsw hok HF6 HB6 HQ6 HW6
    go_wp2_with fail
    refine HRI.out.mono ?_
    rintro e w8 ⟨A8, n8, c8, rfl, hn8, hown8, hb8⟩
    have HB8 : Hid (Below w.heap.size w w8) := HB7.out.trans (hb8.out.mono HB7.out.size)
    have HF8 : Hid (FlAt w8 g f7) := HF7.out.below hb8.out
    have HR8 := Lib.hid (Row.of_own hown8.out)
    clear hn8 hown8 hb8 HB7 HF7 HRI
    go_wp2_with fail
    refine (HRW.out w8 HF8.out).mono ?_
    rintro e w9 ⟨A9, n9, c9, rfl, hn9, hown9, hb9⟩
    have HB9 : Hid (Below w.heap.size w w9) := HB8.out.trans (hb9.out.mono HB8.out.size)
    have HF9 : Hid (FlAt w9 g f7) := HF8.out.below hb9.out
    have HR89 : Hid (Row w9 w9.heap.size A8 n8 (bv img)) := (HR8.out.below hb9.out).more hb9.out.size
    have HR9 := Lib.hid (Row.of_own hown9.out)
    have HSO := Lib.hid (sof_yes 1 ni w.heap.size icap IA img w9 (HT.out.below HB9.out HT.out.1) (HI.out.below HB9.out) HB9.out.size hi1 hi2)
    clear hn9 hown9 hb9 HB8 HF8 HR8 HRW
    go_wp2_with fail
    refine HSO.out.mono ?_
    rintro e w1x ⟨AH, cH, rfl, hrh, hah, _, hbx⟩
    have HB1x : Hid (Below w.heap.size w w1x) := HB9.out.trans (hbx.out.mono HB9.out.size)
    obtain ⟨w10, hw10⟩ : ∃ w10, w1x.alloc (.cells #[.int .u32 1, .int .i64 (ni : Int), .slice AH 32 cH] 33) = w10 := ⟨_, rfl⟩
    have hbw : Below w1x.heap.size w1x w10 := by rw [← hw10]; exact (Below.refl _ _).alloc (Nat.le_refl _) _
    have hz : w10.heap[w1x.heap.size]? = some (.cells #[.int .u32 1, .int .i64 (ni : Int), .slice AH 32 cH] 33 (0, 0)) := by rw [← hw10]; exact heap_alloc_new _ _
    have HB10 : Hid (Below w.heap.size w w10) := HB1x.out.trans (hbw.mono HB1x.out.size)
    have hb910 : Below w9.heap.size w9 w10 := hbx.out.trans (hbw.mono hbx.out.size)
    have hrh10 : Row w10 w10.heap.size AH 32 (bv (Sha.D img)) := (hrh.out.below hbw).more hbw.size
    have HW10 := Lib.hid hw10
    have HRG := Lib.hid (fun W (hW : Below w10.heap.size w10 W) => right_any g 0 2 1 32 ni cH AH (Sha.D img) f7 W (HT.out.below (HB10.out.trans (hW.mono HB10.out.size)) HT.out.1) ((HF9.out.below hb910).below hW) HQ7.out.1 (.inl rfl) rfl hi1 hi2 ((hrh10.below hW).more hW.size))
    rw [HQ7.out.2.1, beq_self_eq_true] at HRG
    have HDG := Lib.hid (fun W (hW : Below w10.heap.size w10 W) => rdig_any w.heap.size ni icap IA img W (HI.out.below (HB10.out.trans (hW.mono HB10.out.size))) (Nat.le_trans HB10.out.size hW.size) (by omega))
    have HAWK := Lib.hid (fun W (hW : Below w10.heap.size w10 W) => awake20_any W (HT.out.below (HB10.out.trans (hW.mono HB10.out.size)) HT.out.1))
    obtain ⟨gb, hgb⟩ : ∃ gb, w1x.heap.size = gb := ⟨_, rfl⟩
    rw [hgb] at hz
    have hgl : gb < w10.heap.size := (Array.getElem?_eq_some_iff.1 hz).1
    have hR8x : Row w10 w10.heap.size A8 n8 (bv img) := (HR89.out.below hb910).more hb910.size
    have hR9x : Row w10 w10.heap.size A9 n9 (bv was) := (HR9.out.below hb910).more hb910.size
    have hIx : Row w10 w10.heap.size IA ni (bv img) := (HI.out.below HB10.out).more HB10.out.size
    have hWx : Row w10 w10.heap.size WA nw (bv was) := (HW.out.below HB10.out).more HB10.out.size
    have HF16 : Hid (∀ W, Below w10.heap.size w10 W → (convert 28 9 (.slice A8 n8 c8)).run Tryd.prog W = .ok (.string ⟨(img).toArray⟩) W ∧ (convert 28 9 (.slice A9 n9 c9)).run Tryd.prog W = .ok (.string ⟨(was).toArray⟩) W ∧ (convert 28 9 (.slice IA ni icap)).run Tryd.prog W = .ok (.string ⟨(img).toArray⟩) W ∧ (convert 28 9 (.slice WA nw wcap)).run Tryd.prog W = .ok (.string ⟨(was).toArray⟩) W ∧ (convert 28 9 (.slice AH 32 cH)).run Tryd.prog W = .ok (.string ⟨(Sha.D img).toArray⟩) W ∧ W.cell? ⟨gb, 0, none⟩ = some (.int .u32 1) ∧ W.cell? ⟨gb, 1, none⟩ = some (.int .i64 (ni : Int)) ∧ W.cell? ⟨gb, 2, none⟩ = some (.slice AH 32 cH)) := Lib.hid fun W hW =>
      ⟨conv_row _ hR8x (Nat.le_refl _) W hW, conv_row _ hR9x (Nat.le_refl _) W hW, conv_row _ hIx (Nat.le_refl _) W hW, conv_row _ hWx (Nat.le_refl _) W hW, conv_row _ hrh10 (Nat.le_refl _) W hW, c3 ((hW.block gb hgl).trans hz)⟩
    have HGB := Lib.hid hgb
    clear hw10 hbw hz hrh hah hbx hb910 hrh10 hR8x hR9x hIx hWx HB1x HF9 HR89 HR9 HSO HB9 HQ7 hgl hgb
    go_upto_region 16 with fail
    rw [HW10.out]
    try rw [HGB.out]
    clear HW10 HGB
    refine wp_region_noPanic ?_
    refine wp_region_held_drew (S := (fun W => Below w10.heap.size w10 W)) (by kernel_rfl) (Below.refl _ _).drew (fun hH0 => ?_)
    have hH0 : Below w10.heap.size w10 w10.drew := hH0
    generalize w10.drew = wd at *
    refine wpAnyH_take (i := 0) (oi := { dst := some 106, op := Op.move (Operand.tmp 14), type := 36, pos := "law.go:85", after := #[], guard := none }) (v := ?tkv901) rfl (by kernel_rfl) (by kernel_rfl) (by kernel_rfl) (fun _ _ _ h => h) (Or.inl ⟨by rfl, ?tky901⟩) hH0 ?tkr901
    case tky901 => (intro w' hSw; clear hSw; go_simp; try with_reducible rfl)
    try simp only [Act.put, List.setIfInBounds_toArray, List.set_cons_zero, List.set_cons_succ]
    refine wpAnyH_take (i := 1) (oi := { dst := some 107, op := Op.binOp BinOp.eql 36 (Operand.tmp 106) (Operand.const (Value.int IntKind.i64 0)) 36, type := 4, pos := "law.go:85", after := #[{ on := 0, ground := Ground.data }], guard := none }) (v := ?tkv902) rfl (by kernel_rfl) (by kernel_rfl) (by kernel_rfl) (fun _ _ _ h => h) (Or.inl ⟨by rfl, ?tky902⟩) hH0 ?tkr902
    case tky902 => (intro w' hSw; clear hSw; go_simp; try with_reducible rfl)
    try simp only [Act.put, List.setIfInBounds_toArray, List.set_cons_zero, List.set_cons_succ]
    refine wpAnyH_take (i := 2) (oi := { dst := some 108, op := Op.move (Operand.tmp 107), type := 4, pos := "law.go:85", after := #[{ on := 1, ground := Ground.data }], guard := none }) (v := ?tkv903) rfl (by kernel_rfl) (by kernel_rfl) (by kernel_rfl) (fun _ _ _ h => h) (Or.inl ⟨by rfl, ?tky903⟩) hH0 ?tkr903
    case tky903 => (intro w' hSw; clear hSw; go_simp; try with_reducible rfl)
    try simp only [Act.put, List.setIfInBounds_toArray, List.set_cons_zero, List.set_cons_succ]
    refine wpAnyH_take (i := 3) (oi := { dst := some 109, op := Op.move (Operand.tmp 16), type := 36, pos := "law.go:85", after := #[{ on := 2, ground := Ground.guard }], guard := some (2, true) }) (v := ?tkv904) rfl (by kernel_rfl) (by kernel_rfl) (by kernel_rfl) (fun _ _ _ h => h) (Or.inl ⟨by rfl, ?tky904⟩) hH0 ?tkr904
    case tky904 => (intro w' hSw; clear hSw; go_simp; try with_reducible rfl)
    try simp only [Act.put, List.setIfInBounds_toArray, List.set_cons_zero, List.set_cons_succ]
    refine wpAnyH_take (i := 4) (oi := { dst := some 110, op := Op.binOp BinOp.eql 36 (Operand.tmp 109) (Operand.const (Value.int IntKind.i64 0)) 36, type := 4, pos := "law.go:85", after := #[{ on := 3, ground := Ground.data }, { on := 2, ground := Ground.guard }], guard := some (2, true) }) (v := ?tkv905) rfl (by kernel_rfl) (by kernel_rfl) (by kernel_rfl) (fun _ _ _ h => h) (Or.inl ⟨by rfl, ?tky905⟩) hH0 ?tkr905
    case tky905 => (intro w' hSw; clear hSw; go_simp; try with_reducible rfl)
    try simp only [Act.put, List.setIfInBounds_toArray, List.set_cons_zero, List.set_cons_succ]
    refine wpAnyH_take (i := 5) (oi := { dst := some 111, op := Op.pick (Operand.tmp 108) (Operand.tmp 110) (Operand.const (Value.bool false)), type := 4, pos := "law.go:85", after := #[{ on := 2, ground := Ground.data }, { on := 4, ground := Ground.data }], guard := none }) (v := ?tkv906) rfl (by kernel_rfl) (by kernel_rfl) (by kernel_rfl) (fun _ _ _ h => h) (Or.inl ⟨by rfl, ?tky906⟩) hH0 ?tkr906
    case tky906 => (intro w' hSw; clear hSw; go_simp; try with_reducible rfl)
    try simp only [Act.put, List.setIfInBounds_toArray, List.set_cons_zero, List.set_cons_succ]
    refine wpAnyH_take (i := 6) (oi := { dst := some 112, op := Op.move (Operand.tmp 111), type := 4, pos := "law.go:85", after := #[{ on := 5, ground := Ground.data }, { on := 2, ground := Ground.chain }], guard := none }) (v := ?tkv907) rfl (by kernel_rfl) (by kernel_rfl) (by kernel_rfl) (fun _ _ _ h => h) (Or.inl ⟨by rfl, ?tky907⟩) hH0 ?tkr907
    case tky907 => (intro w' hSw; clear hSw; go_simp; try with_reducible rfl)
    try simp only [Act.put, List.setIfInBounds_toArray, List.set_cons_zero, List.set_cons_succ]
    refine wpAnyH_take (i := 7) (oi := { dst := some 113, op := Op.move (Operand.tmp 18), type := 4, pos := "law.go:85", after := #[{ on := 6, ground := Ground.guard }], guard := some (6, true) }) (v := ?tkv908) rfl (by kernel_rfl) (by kernel_rfl) (by kernel_rfl) (fun _ _ _ h => h) (Or.inl ⟨by rfl, ?tky908⟩) hH0 ?tkr908
    case tky908 => (intro w' hSw; clear hSw; go_simp; try with_reducible rfl)
    try simp only [Act.put, List.setIfInBounds_toArray, List.set_cons_zero, List.set_cons_succ]
    refine wpAnyH_take (i := 8) (oi := { dst := some 114, op := Op.pick (Operand.tmp 112) (Operand.tmp 113) (Operand.const (Value.bool false)), type := 4, pos := "law.go:85", after := #[{ on := 6, ground := Ground.data }, { on := 7, ground := Ground.data }], guard := none }) (v := ?tkv909) rfl (by kernel_rfl) (by kernel_rfl) (by kernel_rfl) (fun _ _ _ h => h) (Or.inl ⟨by rfl, ?tky909⟩) hH0 ?tkr909
    case tky909 => (intro w' hSw; clear hSw; go_simp; try with_reducible rfl)
    try simp only [Act.put, List.setIfInBounds_toArray, List.set_cons_zero, List.set_cons_succ]
    refine wpAnyH_take (i := 9) (oi := { dst := some 115, op := Op.move (Operand.tmp 114), type := 4, pos := "law.go:85", after := #[{ on := 8, ground := Ground.data }, { on := 6, ground := Ground.chain }], guard := none }) (v := ?tkv910) rfl (by kernel_rfl) (by kernel_rfl) (by kernel_rfl) (fun _ _ _ h => h) (Or.inl ⟨by rfl, ?tky910⟩) hH0 ?tkr910
    case tky910 => (intro w' hSw; clear hSw; go_simp; try with_reducible rfl)
    try simp only [Act.put, List.setIfInBounds_toArray, List.set_cons_zero, List.set_cons_succ]
    refine wpAnyH_take (i := 10) (oi := { dst := some 116, op := Op.move (Operand.tmp 13), type := 28, pos := "law.go:85", after := #[{ on := 9, ground := Ground.guard }], guard := some (9, true) }) (v := ?tkv911) rfl (by kernel_rfl) (by kernel_rfl) (by kernel_rfl) (fun _ _ _ h => h) (Or.inl ⟨by rfl, ?tky911⟩) hH0 ?tkr911
    case tky911 => (intro w' hSw; clear hSw; go_simp; try with_reducible rfl)
    try simp only [Act.put, List.setIfInBounds_toArray, List.set_cons_zero, List.set_cons_succ]
    refine wpAnyH_take (i := 11) (oi := { dst := some 117, op := Op.convert 28 9 (Operand.tmp 116), type := 9, pos := "law.go:85", after := #[{ on := 10, ground := Ground.data }, { on := 9, ground := Ground.guard }], guard := some (9, true) }) (v := ?tkv912) rfl (by kernel_rfl) (by kernel_rfl) (by kernel_rfl) (fun _ _ _ h => h) (Or.inl ⟨by rfl, ?tky912⟩) hH0 ?tkr912
    case tky912 => (intro w' hSw; have z0 := HF16.out _ hSw; clear hSw; go_simp; try with_reducible rfl)
    try simp only [Act.put, List.setIfInBounds_toArray, List.set_cons_zero, List.set_cons_succ]
    refine wpAnyH_take (i := 12) (oi := { dst := some 118, op := Op.move (Operand.tmp 2), type := 28, pos := "law.go:85", after := #[{ on := 9, ground := Ground.guard }], guard := some (9, true) }) (v := ?tkv913) rfl (by kernel_rfl) (by kernel_rfl) (by kernel_rfl) (fun _ _ _ h => h) (Or.inl ⟨by rfl, ?tky913⟩) hH0 ?tkr913
    case tky913 => (intro w' hSw; clear hSw; go_simp; try with_reducible rfl)
    try simp only [Act.put, List.setIfInBounds_toArray, List.set_cons_zero, List.set_cons_succ]
    refine wpAnyH_take (i := 13) (oi := { dst := some 119, op := Op.convert 28 9 (Operand.tmp 118), type := 9, pos := "law.go:85", after := #[{ on := 12, ground := Ground.data }, { on := 9, ground := Ground.guard }], guard := some (9, true) }) (v := ?tkv914) rfl (by kernel_rfl) (by kernel_rfl) (by kernel_rfl) (fun _ _ _ h => h) (Or.inl ⟨by rfl, ?tky914⟩) hH0 ?tkr914
    case tky914 => (intro w' hSw; have z0 := HF16.out _ hSw; clear hSw; go_simp; try with_reducible rfl)
    try simp only [Act.put, List.setIfInBounds_toArray, List.set_cons_zero, List.set_cons_succ]
    refine wpAnyH_take (i := 14) (oi := { dst := some 120, op := Op.binOp BinOp.eql 9 (Operand.tmp 117) (Operand.tmp 119) 9, type := 4, pos := "law.go:85", after := #[{ on := 11, ground := Ground.data }, { on := 13, ground := Ground.data }, { on := 9, ground := Ground.guard }], guard := some (9, true) }) (v := ?tkv915) rfl (by kernel_rfl) (by kernel_rfl) (by kernel_rfl) (fun _ _ _ h => h) (Or.inl ⟨by rfl, ?tky915⟩) hH0 ?tkr915
    case tky915 => (intro w' hSw; clear hSw; go_simp; try with_reducible rfl)
    try simp only [Act.put, List.setIfInBounds_toArray, List.set_cons_zero, List.set_cons_succ]
    refine wpAnyH_take (i := 15) (oi := { dst := some 121, op := Op.pick (Operand.tmp 115) (Operand.tmp 120) (Operand.const (Value.bool false)), type := 4, pos := "law.go:85", after := #[{ on := 9, ground := Ground.data }, { on := 14, ground := Ground.data }], guard := none }) (v := ?tkv916) rfl (by kernel_rfl) (by kernel_rfl) (by kernel_rfl) (fun _ _ _ h => h) (Or.inl ⟨by rfl, ?tky916⟩) hH0 ?tkr916
    case tky916 => (intro w' hSw; clear hSw; go_simp; try with_reducible rfl)
    try simp only [Act.put, List.setIfInBounds_toArray, List.set_cons_zero, List.set_cons_succ]
    refine wpAnyH_take (i := 16) (oi := { dst := some 122, op := Op.move (Operand.tmp 121), type := 4, pos := "law.go:85", after := #[{ on := 15, ground := Ground.data }, { on := 9, ground := Ground.chain }], guard := none }) (v := ?tkv917) rfl (by kernel_rfl) (by kernel_rfl) (by kernel_rfl) (fun _ _ _ h => h) (Or.inl ⟨by rfl, ?tky917⟩) hH0 ?tkr917
    case tky917 => (intro w' hSw; clear hSw; go_simp; try with_reducible rfl)
    try simp only [Act.put, List.setIfInBounds_toArray, List.set_cons_zero, List.set_cons_succ]
    refine wpAnyH_take (i := 17) (oi := { dst := some 123, op := Op.move (Operand.tmp 15), type := 28, pos := "law.go:85", after := #[{ on := 16, ground := Ground.guard }], guard := some (16, true) }) (v := ?tkv918) rfl (by kernel_rfl) (by kernel_rfl) (by kernel_rfl) (fun _ _ _ h => h) (Or.inl ⟨by rfl, ?tky918⟩) hH0 ?tkr918
    case tky918 => (intro w' hSw; clear hSw; go_simp; try with_reducible rfl)
    try simp only [Act.put, List.setIfInBounds_toArray, List.set_cons_zero, List.set_cons_succ]
    refine wpAnyH_take (i := 18) (oi := { dst := some 124, op := Op.convert 28 9 (Operand.tmp 123), type := 9, pos := "law.go:85", after := #[{ on := 17, ground := Ground.data }, { on := 16, ground := Ground.guard }], guard := some (16, true) }) (v := ?tkv919) rfl (by kernel_rfl) (by kernel_rfl) (by kernel_rfl) (fun _ _ _ h => h) (Or.inl ⟨by rfl, ?tky919⟩) hH0 ?tkr919
    case tky919 => (intro w' hSw; have z0 := HF16.out _ hSw; clear hSw; go_simp; try with_reducible rfl)
    try simp only [Act.put, List.setIfInBounds_toArray, List.set_cons_zero, List.set_cons_succ]
    refine wpAnyH_take (i := 19) (oi := { dst := some 125, op := Op.move (Operand.tmp 1), type := 28, pos := "law.go:85", after := #[{ on := 16, ground := Ground.guard }], guard := some (16, true) }) (v := ?tkv920) rfl (by kernel_rfl) (by kernel_rfl) (by kernel_rfl) (fun _ _ _ h => h) (Or.inl ⟨by rfl, ?tky920⟩) hH0 ?tkr920
    case tky920 => (intro w' hSw; clear hSw; go_simp; try with_reducible rfl)
    try simp only [Act.put, List.setIfInBounds_toArray, List.set_cons_zero, List.set_cons_succ]
    refine wpAnyH_take (i := 20) (oi := { dst := some 126, op := Op.convert 28 9 (Operand.tmp 125), type := 9, pos := "law.go:85", after := #[{ on := 19, ground := Ground.data }, { on := 16, ground := Ground.guard }], guard := some (16, true) }) (v := ?tkv921) rfl (by kernel_rfl) (by kernel_rfl) (by kernel_rfl) (fun _ _ _ h => h) (Or.inl ⟨by rfl, ?tky921⟩) hH0 ?tkr921
    case tky921 => (intro w' hSw; have z0 := HF16.out _ hSw; clear hSw; go_simp; try with_reducible rfl)
    try simp only [Act.put, List.setIfInBounds_toArray, List.set_cons_zero, List.set_cons_succ]
    refine wpAnyH_take (i := 21) (oi := { dst := some 127, op := Op.binOp BinOp.eql 9 (Operand.tmp 124) (Operand.tmp 126) 9, type := 4, pos := "law.go:85", after := #[{ on := 18, ground := Ground.data }, { on := 20, ground := Ground.data }, { on := 16, ground := Ground.guard }], guard := some (16, true) }) (v := ?tkv922) rfl (by kernel_rfl) (by kernel_rfl) (by kernel_rfl) (fun _ _ _ h => h) (Or.inl ⟨by rfl, ?tky922⟩) hH0 ?tkr922
    case tky922 => (intro w' hSw; clear hSw; go_simp; try with_reducible rfl)
    try simp only [Act.put, List.setIfInBounds_toArray, List.set_cons_zero, List.set_cons_succ]
    refine wpAnyH_take (i := 22) (oi := { dst := some 128, op := Op.pick (Operand.tmp 122) (Operand.tmp 127) (Operand.const (Value.bool false)), type := 4, pos := "law.go:85", after := #[{ on := 16, ground := Ground.data }, { on := 21, ground := Ground.data }], guard := none }) (v := ?tkv923) rfl (by kernel_rfl) (by kernel_rfl) (by kernel_rfl) (fun _ _ _ h => h) (Or.inl ⟨by rfl, ?tky923⟩) hH0 ?tkr923
    case tky923 => (intro w' hSw; clear hSw; go_simp; try with_reducible rfl)
    try simp only [Act.put, List.setIfInBounds_toArray, List.set_cons_zero, List.set_cons_succ]
    refine wpAnyH_take (i := 23) (oi := { dst := some 129, op := Op.move (Operand.tmp 128), type := 4, pos := "law.go:85", after := #[{ on := 22, ground := Ground.data }, { on := 16, ground := Ground.chain }], guard := none }) (v := ?tkv924) rfl (by kernel_rfl) (by kernel_rfl) (by kernel_rfl) (fun _ _ _ h => h) (Or.inl ⟨by rfl, ?tky924⟩) hH0 ?tkr924
    case tky924 => (intro w' hSw; clear hSw; go_simp; try with_reducible rfl)
    try simp only [Act.put, List.setIfInBounds_toArray, List.set_cons_zero, List.set_cons_succ]
    refine wpAnyH_take (i := 24) (oi := { dst := some 130, op := Op.move (Operand.tmp 11), type := 24, pos := "law.go:85", after := #[{ on := 23, ground := Ground.guard }], guard := some (23, true) }) (v := ?tkv925) rfl (by kernel_rfl) (by kernel_rfl) (by kernel_rfl) (fun _ _ _ h => h) (Or.inl ⟨by rfl, ?tky925⟩) hH0 ?tkr925
    case tky925 => (intro w' hSw; clear hSw; go_simp; try with_reducible rfl)
    try simp only [Act.put, List.setIfInBounds_toArray, List.set_cons_zero, List.set_cons_succ]
    refine wpAnyH_take (i := 25) (oi := { dst := some 131, op := Op.move (Operand.tmp 0), type := 3, pos := "law.go:85", after := #[{ on := 23, ground := Ground.guard }], guard := some (23, true) }) (v := ?tkv926) rfl (by kernel_rfl) (by kernel_rfl) (by kernel_rfl) (fun _ _ _ h => h) (Or.inl ⟨by rfl, ?tky926⟩) hH0 ?tkr926
    case tky926 => (intro w' hSw; clear hSw; go_simp; try with_reducible rfl)
    try simp only [Act.put, List.setIfInBounds_toArray, List.set_cons_zero, List.set_cons_succ]
    refine wpAnyH_take (i := 26) (oi := { dst := some 132, op := Op.load 33 (Operand.tmp 17), type := 33, pos := "law.go:85", after := #[{ on := 23, ground := Ground.guard }], guard := some (23, true) }) (v := ?tkv927) rfl (by kernel_rfl) (by kernel_rfl) (by kernel_rfl) (fun _ _ _ h => h) (Or.inl ⟨by rfl, ?tky927⟩) hH0 ?tkr927
    case tky927 => (intro w' hSw; have z0 := HF16.out _ hSw; clear hSw; go_simp; try with_reducible rfl)
    try simp only [Act.put, List.setIfInBounds_toArray, List.set_cons_zero, List.set_cons_succ]
    refine wpAnyH_ready (rs := [27]) (by kernel_rfl) (by simp) ?_
    refine AllReadyH.cons (o := { dst := some 133, op := Op.call { callee := Callee.value (Operand.func 17), args := #[Operand.tmp 130, Operand.tmp 131, Operand.tmp 132], argTypes := #[24, 3, 33] }, type := 4, pos := "law.go:85", after := #[{ on := 24, ground := Ground.data }, { on := 25, ground := Ground.data }, { on := 26, ground := Ground.data }, { on := 23, ground := Ground.chain }, { on := 23, ground := Ground.guard }], guard := some (23, true) }) rfl (fun K hK => ?_) AllReadyH.nil
    go_simp
    refine (HRG.out _ hH0).mono ?_
    rintro e' wra ⟨rfl, hbx⟩
    have hb27 := hbx.out
    clear hbx
    go_simp
    refine hK.out _ _ ((hH0).trans (hb27.mono (hH0).size)) (fun hH928 => ?_)
    clear hK K
    try simp only [Act.put, List.setIfInBounds_toArray, List.set_cons_zero, List.set_cons_succ]
    have hG928 : (fun W => Below w10.heap.size w10 W ∧ Below wra.heap.size wra W) wra := ⟨hH928, Below.refl _ _⟩
    refine wpAnyH_grow (S' := (fun W => Below w10.heap.size w10 W ∧ Below wra.heap.size wra W)) (fun _ h => h.1) _ _ _ _ ?_
    refine wpAnyH_take (i := 28) (oi := { dst := some 134, op := Op.pick (Operand.tmp 129) (Operand.tmp 133) (Operand.const (Value.bool false)), type := 4, pos := "law.go:85", after := #[{ on := 23, ground := Ground.data }, { on := 27, ground := Ground.data }], guard := none }) (v := ?tkv929) rfl (by kernel_rfl) (by kernel_rfl) (by kernel_rfl) (fun _ _ _ h => h) (Or.inl ⟨by rfl, ?tky929⟩) hG928 ?tkr929
    case tky929 => (intro w' hSw; clear hSw; go_simp; try with_reducible rfl)
    try simp only [Act.put, List.setIfInBounds_toArray, List.set_cons_zero, List.set_cons_succ]
    refine wpAnyH_take (i := 29) (oi := { dst := some 135, op := Op.move (Operand.tmp 134), type := 4, pos := "law.go:85", after := #[{ on := 28, ground := Ground.data }, { on := 27, ground := Ground.chain }], guard := none }) (v := ?tkv930) rfl (by kernel_rfl) (by kernel_rfl) (by kernel_rfl) (fun _ _ _ h => h) (Or.inl ⟨by rfl, ?tky930⟩) hG928 ?tkr930
    case tky930 => (intro w' hSw; clear hSw; go_simp; try with_reducible rfl)
    try simp only [Act.put, List.setIfInBounds_toArray, List.set_cons_zero, List.set_cons_succ]
    refine wpAnyH_take (i := 30) (oi := { dst := some 136, op := Op.fieldAddr 33 (Operand.tmp 17) 2, type := 0, pos := "law.go:85", after := #[{ on := 29, ground := Ground.guard }], guard := some (29, true) }) (v := ?tkv931) rfl (by kernel_rfl) (by kernel_rfl) (by kernel_rfl) (fun _ _ _ h => h) (Or.inl ⟨by rfl, ?tky931⟩) hG928 ?tkr931
    case tky931 => (intro w' hSw; clear hSw; go_simp; try with_reducible rfl)
    try simp only [Act.put, List.setIfInBounds_toArray, List.set_cons_zero, List.set_cons_succ]
    refine wpAnyH_take (i := 31) (oi := { dst := some 137, op := Op.load 28 (Operand.tmp 136), type := 28, pos := "law.go:85", after := #[{ on := 30, ground := Ground.data }, { on := 29, ground := Ground.guard }], guard := some (29, true) }) (v := ?tkv932) rfl (by kernel_rfl) (by kernel_rfl) (by kernel_rfl) (fun _ _ _ h => h) (Or.inl ⟨by rfl, ?tky932⟩) hG928 ?tkr932
    case tky932 => (intro w' hSw; have z0 := HF16.out _ hSw.1; clear hSw; go_simp; try with_reducible rfl)
    try simp only [Act.put, List.setIfInBounds_toArray, List.set_cons_zero, List.set_cons_succ]
    refine wpAnyH_take (i := 32) (oi := { dst := some 138, op := Op.call { callee := Callee.builtin Builtin.len, args := #[Operand.tmp 137], argTypes := #[28] }, type := 3, pos := "law.go:85", after := #[{ on := 31, ground := Ground.data }, { on := 29, ground := Ground.guard }], guard := some (29, true) }) (v := ?tkv933) rfl (by kernel_rfl) (by kernel_rfl) (by kernel_rfl) (fun _ _ _ h => h) (Or.inl ⟨by rfl, ?tky933⟩) hG928 ?tkr933
    case tky933 => (intro w' hSw; clear hSw; go_simp; try with_reducible rfl)
    try simp only [Act.put, List.setIfInBounds_toArray, List.set_cons_zero, List.set_cons_succ]
    refine wpAnyH_take (i := 33) (oi := { dst := some 139, op := Op.binOp BinOp.eql 3 (Operand.tmp 138) (Operand.const (Value.int IntKind.i64 32)) 3, type := 4, pos := "law.go:85", after := #[{ on := 32, ground := Ground.data }, { on := 29, ground := Ground.guard }], guard := some (29, true) }) (v := ?tkv934) rfl (by kernel_rfl) (by kernel_rfl) (by kernel_rfl) (fun _ _ _ h => h) (Or.inl ⟨by rfl, ?tky934⟩) hG928 ?tkr934
    case tky934 => (intro w' hSw; clear hSw; go_simp; try with_reducible rfl)
    try simp only [Act.put, List.setIfInBounds_toArray, List.set_cons_zero, List.set_cons_succ]
    refine wpAnyH_take (i := 34) (oi := { dst := some 140, op := Op.pick (Operand.tmp 135) (Operand.tmp 139) (Operand.const (Value.bool false)), type := 4, pos := "law.go:85", after := #[{ on := 29, ground := Ground.data }, { on := 33, ground := Ground.data }], guard := none }) (v := ?tkv935) rfl (by kernel_rfl) (by kernel_rfl) (by kernel_rfl) (fun _ _ _ h => h) (Or.inl ⟨by rfl, ?tky935⟩) hG928 ?tkr935
    case tky935 => (intro w' hSw; clear hSw; go_simp; try with_reducible rfl)
    try simp only [Act.put, List.setIfInBounds_toArray, List.set_cons_zero, List.set_cons_succ]
    refine wpAnyH_take (i := 35) (oi := { dst := some 141, op := Op.move (Operand.tmp 140), type := 4, pos := "law.go:85", after := #[{ on := 34, ground := Ground.data }, { on := 29, ground := Ground.chain }], guard := none }) (v := ?tkv936) rfl (by kernel_rfl) (by kernel_rfl) (by kernel_rfl) (fun _ _ _ h => h) (Or.inl ⟨by rfl, ?tky936⟩) hG928 ?tkr936
    case tky936 => (intro w' hSw; clear hSw; go_simp; try with_reducible rfl)
    try simp only [Act.put, List.setIfInBounds_toArray, List.set_cons_zero, List.set_cons_succ]
    refine wpAnyH_take (i := 36) (oi := { dst := some 142, op := Op.fieldAddr 33 (Operand.tmp 17) 2, type := 0, pos := "law.go:85", after := #[{ on := 35, ground := Ground.guard }], guard := some (35, true) }) (v := ?tkv937) rfl (by kernel_rfl) (by kernel_rfl) (by kernel_rfl) (fun _ _ _ h => h) (Or.inl ⟨by rfl, ?tky937⟩) hG928 ?tkr937
    case tky937 => (intro w' hSw; clear hSw; go_simp; try with_reducible rfl)
    try simp only [Act.put, List.setIfInBounds_toArray, List.set_cons_zero, List.set_cons_succ]
    refine wpAnyH_take (i := 37) (oi := { dst := some 143, op := Op.load 28 (Operand.tmp 142), type := 28, pos := "law.go:85", after := #[{ on := 36, ground := Ground.data }, { on := 35, ground := Ground.guard }], guard := some (35, true) }) (v := ?tkv938) rfl (by kernel_rfl) (by kernel_rfl) (by kernel_rfl) (fun _ _ _ h => h) (Or.inl ⟨by rfl, ?tky938⟩) hG928 ?tkr938
    case tky938 => (intro w' hSw; have z0 := HF16.out _ hSw.1; clear hSw; go_simp; try with_reducible rfl)
    try simp only [Act.put, List.setIfInBounds_toArray, List.set_cons_zero, List.set_cons_succ]
    refine wpAnyH_take (i := 38) (oi := { dst := some 144, op := Op.convert 28 9 (Operand.tmp 143), type := 9, pos := "law.go:85", after := #[{ on := 37, ground := Ground.data }, { on := 35, ground := Ground.guard }], guard := some (35, true) }) (v := ?tkv939) rfl (by kernel_rfl) (by kernel_rfl) (by kernel_rfl) (fun _ _ _ h => h) (Or.inl ⟨by rfl, ?tky939⟩) hG928 ?tkr939
    case tky939 => (intro w' hSw; have z0 := HF16.out _ hSw.1; clear hSw; go_simp; try with_reducible rfl)
    try simp only [Act.put, List.setIfInBounds_toArray, List.set_cons_zero, List.set_cons_succ]
    refine wpAnyH_take (i := 39) (oi := { dst := some 145, op := Op.move (Operand.tmp 2), type := 28, pos := "law.go:85", after := #[{ on := 35, ground := Ground.guard }], guard := some (35, true) }) (v := ?tkv940) rfl (by kernel_rfl) (by kernel_rfl) (by kernel_rfl) (fun _ _ _ h => h) (Or.inl ⟨by rfl, ?tky940⟩) hG928 ?tkr940
    case tky940 => (intro w' hSw; clear hSw; go_simp; try with_reducible rfl)
    try simp only [Act.put, List.setIfInBounds_toArray, List.set_cons_zero, List.set_cons_succ]
    refine wpAnyH_ready (rs := [40]) (by kernel_rfl) (by simp) ?_
    refine AllReadyH.cons (o := { dst := some 146, op := Op.call { callee := Callee.value (Operand.func 26), args := #[Operand.tmp 145], argTypes := #[28] }, type := 28, pos := "law.go:85", after := #[{ on := 39, ground := Ground.data }, { on := 35, ground := Ground.chain }, { on := 35, ground := Ground.guard }], guard := some (35, true) }) rfl (fun K hK => ?_) AllReadyH.nil
    go_simp
    refine (HDG.out _ hG928.1).mono ?_
    rintro e' wdg ⟨Ad, cd, rfl, hod, hbx⟩
    have hb40 := hbx.out
    have HKD := Lib.hid (conv_own cd hod.out)
    clear hbx hod
    go_simp
    refine hK.out _ _ (⟨(hG928.1).trans (hb40.mono (hG928.1).size), (hG928.2).trans (hb40.mono (hG928.2).size)⟩) (fun hH941 => ?_)
    clear hK K
    try simp only [Act.put, List.setIfInBounds_toArray, List.set_cons_zero, List.set_cons_succ]
    have hG941 : (fun W => Below w10.heap.size w10 W ∧ Below wra.heap.size wra W ∧ Below wdg.heap.size wdg W) wdg := ⟨hH941.1, hH941.2, Below.refl _ _⟩
    refine wpAnyH_grow (S' := (fun W => Below w10.heap.size w10 W ∧ Below wra.heap.size wra W ∧ Below wdg.heap.size wdg W)) (fun _ h => ⟨h.1, h.2.1⟩) _ _ _ _ ?_
    refine wpAnyH_take (i := 41) (oi := { dst := some 147, op := Op.convert 28 9 (Operand.tmp 146), type := 9, pos := "law.go:85", after := #[{ on := 40, ground := Ground.data }, { on := 35, ground := Ground.guard }], guard := some (35, true) }) (v := ?tkv942) rfl (by kernel_rfl) (by kernel_rfl) (by kernel_rfl) (fun _ _ _ h => h) (Or.inl ⟨by rfl, ?tky942⟩) hG941 ?tkr942
    case tky942 => (intro w' hSw; have z0 := HF16.out _ hSw.1; have z1 := HKD.out _ hSw.2.2; clear hSw; go_simp; try with_reducible rfl)
    try simp only [Act.put, List.setIfInBounds_toArray, List.set_cons_zero, List.set_cons_succ]
    refine wpAnyH_take (i := 42) (oi := { dst := some 148, op := Op.binOp BinOp.eql 9 (Operand.tmp 144) (Operand.tmp 147) 9, type := 4, pos := "law.go:85", after := #[{ on := 38, ground := Ground.data }, { on := 41, ground := Ground.data }, { on := 35, ground := Ground.guard }], guard := some (35, true) }) (v := ?tkv943) rfl (by kernel_rfl) (by kernel_rfl) (by kernel_rfl) (fun _ _ _ h => h) (Or.inl ⟨by rfl, ?tky943⟩) hG941 ?tkr943
    case tky943 => (intro w' hSw; clear hSw; go_simp; try with_reducible rfl)
    try simp only [Act.put, List.setIfInBounds_toArray, List.set_cons_zero, List.set_cons_succ]
    refine wpAnyH_take (i := 43) (oi := { dst := some 149, op := Op.pick (Operand.tmp 141) (Operand.tmp 148) (Operand.const (Value.bool false)), type := 4, pos := "law.go:85", after := #[{ on := 35, ground := Ground.data }, { on := 42, ground := Ground.data }], guard := none }) (v := ?tkv944) rfl (by kernel_rfl) (by kernel_rfl) (by kernel_rfl) (fun _ _ _ h => h) (Or.inl ⟨by rfl, ?tky944⟩) hG941 ?tkr944
    case tky944 => (intro w' hSw; clear hSw; go_simp; try with_reducible rfl)
    try simp only [Act.put, List.setIfInBounds_toArray, List.set_cons_zero, List.set_cons_succ]
    refine wpAnyH_take (i := 44) (oi := { dst := some 150, op := Op.move (Operand.tmp 149), type := 4, pos := "law.go:85", after := #[{ on := 43, ground := Ground.data }, { on := 40, ground := Ground.chain }], guard := none }) (v := ?tkv945) rfl (by kernel_rfl) (by kernel_rfl) (by kernel_rfl) (fun _ _ _ h => h) (Or.inl ⟨by rfl, ?tky945⟩) hG941 ?tkr945
    case tky945 => (intro w' hSw; clear hSw; go_simp; try with_reducible rfl)
    try simp only [Act.put, List.setIfInBounds_toArray, List.set_cons_zero, List.set_cons_succ]
    refine wpAnyH_ready (rs := [45]) (by kernel_rfl) (by simp) ?_
    refine AllReadyH.cons (o := { dst := some 151, op := Op.call { callee := Callee.value (Operand.func 10), args := #[], argTypes := #[] }, type := 4, pos := "law.go:85", after := #[{ on := 44, ground := Ground.chain }, { on := 44, ground := Ground.guard }], guard := some (44, true) }) rfl (fun K hK => ?_) AllReadyH.nil
    go_simp
    refine (HAWK.out _ hG941.1).mono ?_
    rintro e' wak ⟨rfl, hb45⟩
    go_simp
    refine hK.out _ _ (⟨(hG941.1).trans (hb45.mono (hG941.1).size), (hG941.2.1).trans (hb45.mono (hG941.2.1).size), (hG941.2.2).trans (hb45.mono (hG941.2.2).size)⟩) (fun hH946 => ?_)
    clear hK K
    try simp only [Act.put, List.setIfInBounds_toArray, List.set_cons_zero, List.set_cons_succ]
    have hG946 : (fun W => Below w10.heap.size w10 W ∧ Below wra.heap.size wra W ∧ Below wdg.heap.size wdg W ∧ Below wak.heap.size wak W) wak := ⟨hH946.1, hH946.2.1, hH946.2.2, Below.refl _ _⟩
    refine wpAnyH_grow (S' := (fun W => Below w10.heap.size w10 W ∧ Below wra.heap.size wra W ∧ Below wdg.heap.size wdg W ∧ Below wak.heap.size wak W)) (fun _ h => ⟨h.1, h.2.1, h.2.2.1⟩) _ _ _ _ ?_
    refine wpAnyH_take (i := 46) (oi := { dst := some 152, op := Op.pick (Operand.tmp 150) (Operand.tmp 151) (Operand.const (Value.bool false)), type := 4, pos := "law.go:85", after := #[{ on := 44, ground := Ground.data }, { on := 45, ground := Ground.data }], guard := none }) (v := ?tkv947) rfl (by kernel_rfl) (by kernel_rfl) (by kernel_rfl) (fun _ _ _ h => h) (Or.inl ⟨by rfl, ?tky947⟩) hG946 ?tkr947
    case tky947 => (intro w' hSw; clear hSw; go_simp; try with_reducible rfl)
    try simp only [Act.put, List.setIfInBounds_toArray, List.set_cons_zero, List.set_cons_succ]
    refine wpAnyH_take (i := 47) (oi := { dst := some 10, op := Op.assign (Operand.tmp 152), type := 4, pos := "law.go:85", after := #[{ on := 46, ground := Ground.data }, { on := 45, ground := Ground.chain }, { on := 0, ground := Ground.phase }, { on := 1, ground := Ground.phase }, { on := 2, ground := Ground.phase }, { on := 3, ground := Ground.phase }, { on := 4, ground := Ground.phase }, { on := 5, ground := Ground.phase }, { on := 6, ground := Ground.phase }, { on := 7, ground := Ground.phase }, { on := 8, ground := Ground.phase }, { on := 9, ground := Ground.phase }, { on := 10, ground := Ground.phase }, { on := 11, ground := Ground.phase }, { on := 12, ground := Ground.phase }, { on := 13, ground := Ground.phase }, { on := 14, ground := Ground.phase }, { on := 15, ground := Ground.phase }, { on := 16, ground := Ground.phase }, { on := 17, ground := Ground.phase }, { on := 18, ground := Ground.phase }, { on := 19, ground := Ground.phase }, { on := 20, ground := Ground.phase }, { on := 21, ground := Ground.phase }, { on := 22, ground := Ground.phase }, { on := 23, ground := Ground.phase }, { on := 24, ground := Ground.phase }, { on := 25, ground := Ground.phase }, { on := 26, ground := Ground.phase }, { on := 27, ground := Ground.phase }, { on := 28, ground := Ground.phase }, { on := 29, ground := Ground.phase }, { on := 30, ground := Ground.phase }, { on := 31, ground := Ground.phase }, { on := 32, ground := Ground.phase }, { on := 33, ground := Ground.phase }, { on := 34, ground := Ground.phase }, { on := 35, ground := Ground.phase }, { on := 36, ground := Ground.phase }, { on := 37, ground := Ground.phase }, { on := 38, ground := Ground.phase }, { on := 39, ground := Ground.phase }, { on := 40, ground := Ground.phase }, { on := 41, ground := Ground.phase }, { on := 42, ground := Ground.phase }, { on := 43, ground := Ground.phase }, { on := 44, ground := Ground.phase }, { on := 45, ground := Ground.phase }, { on := 46, ground := Ground.phase }], guard := none }) (v := ?tkv948) rfl (by kernel_rfl) (by kernel_rfl) (by kernel_rfl) (fun _ _ _ h => h) (Or.inl ⟨by rfl, ?tky948⟩) hG946 ?tkr948
    case tky948 => (intro w' hSw; clear hSw; go_simp; try with_reducible rfl)
    try simp only [Act.put, List.setIfInBounds_toArray, List.set_cons_zero, List.set_cons_succ]
    refine wpAnyH_done (by kernel_rfl) ?_ _
    refine NoPanic.normal ?_
    have hEnd : Below w10.heap.size w10 _ := hG946.1
    have HE := Lib.hid (HB10.out.trans (hEnd.mono HB10.out.size))
    go_wp2_with fail
    go_ret
    exact ⟨rfl, HE.out⟩
  · subst h
    clear HR
    go_wp2_with fail
    refine (swrite_free (s := 0) (a := 2) (cap := icap) HF6.out (HI.out.below HB6.out) HAI.out HB6.out.size HQ6.out.down (.inl rfl) rfl hi1 hi2 HQ6.out.ok (by omega) (HQ6.out.lt _ (by omega)) (HQ6.out.lt _ (by omega)) HQ6.out.there).mono ?_
    rintro e w7 ⟨f7, rfl, hd, hsw, hok⟩
    obtain ⟨q1, _, _, q4, _⟩ := hsw.out.yes rfl
    have HB7 : Hid (Below w.heap.size w w7) := below_done2 HB6.out hd.out HB6.out.size hg
    have HF7 : Hid (FlAt w7 g f7) := hd.out.1
    have HQ7 : Hid (f7.down = false ∧ f7.sub (256 * 2) ni = img ∧ f7.sub (256 * 4) nw = was) := ⟨q4.trans HQ6.out.down, by have := HIL.out; rw [← this]; exact q1, (outside_sub hsw.out.out _ _ (by omega)).trans HW6.out⟩
    have HRI := Lib.hid (sread_any g 0 2 ni f7 w7 HF7.out HQ7.out.1 (.inl rfl) rfl hi2)
    rw [HQ7.out.2.1] at HRI
    have HRW := Lib.hid (fun W (hW : FlAt W g f7) => sread_any g 1 4 nw f7 W hW HQ7.out.1 (.inr rfl) rfl hw2)
    rw [HQ7.out.2.2] at HRW
    clear q1 q4 hd hsw hok HF6 HB6 HQ6 HW6
    go_wp2_with fail
    refine HRI.out.mono ?_
    rintro e w8 ⟨A8, n8, c8, rfl, hn8, hown8, hb8⟩
    have HB8 : Hid (Below w.heap.size w w8) := HB7.out.trans (hb8.out.mono HB7.out.size)
    have HF8 : Hid (FlAt w8 g f7) := HF7.out.below hb8.out
    have HR8 := Lib.hid (Row.of_own hown8.out)
    clear hn8 hown8 hb8 HB7 HF7 HRI
    go_wp2_with fail
    refine (HRW.out w8 HF8.out).mono ?_
    rintro e w9 ⟨A9, n9, c9, rfl, hn9, hown9, hb9⟩
    have HB9 : Hid (Below w.heap.size w w9) := HB8.out.trans (hb9.out.mono HB8.out.size)
    have HF9 : Hid (FlAt w9 g f7) := HF8.out.below hb9.out
    have HR89 : Hid (Row w9 w9.heap.size A8 n8 (bv img)) := (HR8.out.below hb9.out).more hb9.out.size
    have HR9 := Lib.hid (Row.of_own hown9.out)
    have HSO := Lib.hid (sof_yes 1 ni w.heap.size icap IA img w9 (HT.out.below HB9.out HT.out.1) (HI.out.below HB9.out) HB9.out.size hi1 hi2)
    clear hn9 hown9 hb9 HB8 HF8 HR8 HRW
    go_wp2_with fail
    refine HSO.out.mono ?_
    rintro e w1x ⟨AH, cH, rfl, hrh, hah, _, hbx⟩
    have HB1x : Hid (Below w.heap.size w w1x) := HB9.out.trans (hbx.out.mono HB9.out.size)
    obtain ⟨w10, hw10⟩ : ∃ w10, w1x.alloc (.cells #[.int .u32 1, .int .i64 (ni : Int), .slice AH 32 cH] 33) = w10 := ⟨_, rfl⟩
    have hbw : Below w1x.heap.size w1x w10 := by rw [← hw10]; exact (Below.refl _ _).alloc (Nat.le_refl _) _
    have hz : w10.heap[w1x.heap.size]? = some (.cells #[.int .u32 1, .int .i64 (ni : Int), .slice AH 32 cH] 33 (0, 0)) := by rw [← hw10]; exact heap_alloc_new _ _
    have HB10 : Hid (Below w.heap.size w w10) := HB1x.out.trans (hbw.mono HB1x.out.size)
    have hb910 : Below w9.heap.size w9 w10 := hbx.out.trans (hbw.mono hbx.out.size)
    have hrh10 : Row w10 w10.heap.size AH 32 (bv (Sha.D img)) := (hrh.out.below hbw).more hbw.size
    have HW10 := Lib.hid hw10
    have HRG := Lib.hid (fun W (hW : Below w10.heap.size w10 W) => right_any g 0 2 1 32 ni cH AH (Sha.D img) f7 W (HT.out.below (HB10.out.trans (hW.mono HB10.out.size)) HT.out.1) ((HF9.out.below hb910).below hW) HQ7.out.1 (.inl rfl) rfl hi1 hi2 ((hrh10.below hW).more hW.size))
    rw [HQ7.out.2.1, beq_self_eq_true] at HRG
    have HDG := Lib.hid (fun W (hW : Below w10.heap.size w10 W) => rdig_any w.heap.size ni icap IA img W (HI.out.below (HB10.out.trans (hW.mono HB10.out.size))) (Nat.le_trans HB10.out.size hW.size) (by omega))
    have HAWK := Lib.hid (fun W (hW : Below w10.heap.size w10 W) => awake20_any W (HT.out.below (HB10.out.trans (hW.mono HB10.out.size)) HT.out.1))
    obtain ⟨gb, hgb⟩ : ∃ gb, w1x.heap.size = gb := ⟨_, rfl⟩
    rw [hgb] at hz
    have hgl : gb < w10.heap.size := (Array.getElem?_eq_some_iff.1 hz).1
    have hR8x : Row w10 w10.heap.size A8 n8 (bv img) := (HR89.out.below hb910).more hb910.size
    have hR9x : Row w10 w10.heap.size A9 n9 (bv was) := (HR9.out.below hb910).more hb910.size
    have hIx : Row w10 w10.heap.size IA ni (bv img) := (HI.out.below HB10.out).more HB10.out.size
    have hWx : Row w10 w10.heap.size WA nw (bv was) := (HW.out.below HB10.out).more HB10.out.size
    have HF16 : Hid (∀ W, Below w10.heap.size w10 W → (convert 28 9 (.slice A8 n8 c8)).run Tryd.prog W = .ok (.string ⟨(img).toArray⟩) W ∧ (convert 28 9 (.slice A9 n9 c9)).run Tryd.prog W = .ok (.string ⟨(was).toArray⟩) W ∧ (convert 28 9 (.slice IA ni icap)).run Tryd.prog W = .ok (.string ⟨(img).toArray⟩) W ∧ (convert 28 9 (.slice WA nw wcap)).run Tryd.prog W = .ok (.string ⟨(was).toArray⟩) W ∧ (convert 28 9 (.slice AH 32 cH)).run Tryd.prog W = .ok (.string ⟨(Sha.D img).toArray⟩) W ∧ W.cell? ⟨gb, 0, none⟩ = some (.int .u32 1) ∧ W.cell? ⟨gb, 1, none⟩ = some (.int .i64 (ni : Int)) ∧ W.cell? ⟨gb, 2, none⟩ = some (.slice AH 32 cH)) := Lib.hid fun W hW =>
      ⟨conv_row _ hR8x (Nat.le_refl _) W hW, conv_row _ hR9x (Nat.le_refl _) W hW, conv_row _ hIx (Nat.le_refl _) W hW, conv_row _ hWx (Nat.le_refl _) W hW, conv_row _ hrh10 (Nat.le_refl _) W hW, c3 ((hW.block gb hgl).trans hz)⟩
    have HGB := Lib.hid hgb
    clear hw10 hbw hz hrh hah hbx hb910 hrh10 hR8x hR9x hIx hWx HB1x HF9 HR89 HR9 HSO HB9 HQ7 hgl hgb
    go_upto_region 16 with fail
    rw [HW10.out]
    try rw [HGB.out]
    clear HW10 HGB
    refine wp_region_noPanic ?_
    refine wp_region_held_drew (S := (fun W => Below w10.heap.size w10 W)) (by kernel_rfl) (Below.refl _ _).drew (fun hH0 => ?_)
    have hH0 : Below w10.heap.size w10 w10.drew := hH0
    generalize w10.drew = wd at *
    refine wpAnyH_take (i := 0) (oi := { dst := some 106, op := Op.move (Operand.tmp 14), type := 36, pos := "law.go:85", after := #[], guard := none }) (v := ?tkv2901) rfl (by kernel_rfl) (by kernel_rfl) (by kernel_rfl) (fun _ _ _ h => h) (Or.inl ⟨by rfl, ?tky2901⟩) hH0 ?tkr2901
    case tky2901 => (intro w' hSw; clear hSw; go_simp; try with_reducible rfl)
    try simp only [Act.put, List.setIfInBounds_toArray, List.set_cons_zero, List.set_cons_succ]
    refine wpAnyH_take (i := 1) (oi := { dst := some 107, op := Op.binOp BinOp.eql 36 (Operand.tmp 106) (Operand.const (Value.int IntKind.i64 0)) 36, type := 4, pos := "law.go:85", after := #[{ on := 0, ground := Ground.data }], guard := none }) (v := ?tkv2902) rfl (by kernel_rfl) (by kernel_rfl) (by kernel_rfl) (fun _ _ _ h => h) (Or.inl ⟨by rfl, ?tky2902⟩) hH0 ?tkr2902
    case tky2902 => (intro w' hSw; clear hSw; go_simp; try with_reducible rfl)
    try simp only [Act.put, List.setIfInBounds_toArray, List.set_cons_zero, List.set_cons_succ]
    refine wpAnyH_take (i := 2) (oi := { dst := some 108, op := Op.move (Operand.tmp 107), type := 4, pos := "law.go:85", after := #[{ on := 1, ground := Ground.data }], guard := none }) (v := ?tkv2903) rfl (by kernel_rfl) (by kernel_rfl) (by kernel_rfl) (fun _ _ _ h => h) (Or.inl ⟨by rfl, ?tky2903⟩) hH0 ?tkr2903
    case tky2903 => (intro w' hSw; clear hSw; go_simp; try with_reducible rfl)
    try simp only [Act.put, List.setIfInBounds_toArray, List.set_cons_zero, List.set_cons_succ]
    refine wpAnyH_take (i := 3) (oi := { dst := some 109, op := Op.move (Operand.tmp 16), type := 36, pos := "law.go:85", after := #[{ on := 2, ground := Ground.guard }], guard := some (2, true) }) (v := ?tkv2904) rfl (by kernel_rfl) (by kernel_rfl) (by kernel_rfl) (fun _ _ _ h => h) (Or.inl ⟨by rfl, ?tky2904⟩) hH0 ?tkr2904
    case tky2904 => (intro w' hSw; clear hSw; go_simp; try with_reducible rfl)
    try simp only [Act.put, List.setIfInBounds_toArray, List.set_cons_zero, List.set_cons_succ]
    refine wpAnyH_take (i := 4) (oi := { dst := some 110, op := Op.binOp BinOp.eql 36 (Operand.tmp 109) (Operand.const (Value.int IntKind.i64 0)) 36, type := 4, pos := "law.go:85", after := #[{ on := 3, ground := Ground.data }, { on := 2, ground := Ground.guard }], guard := some (2, true) }) (v := ?tkv2905) rfl (by kernel_rfl) (by kernel_rfl) (by kernel_rfl) (fun _ _ _ h => h) (Or.inl ⟨by rfl, ?tky2905⟩) hH0 ?tkr2905
    case tky2905 => (intro w' hSw; clear hSw; go_simp; try with_reducible rfl)
    try simp only [Act.put, List.setIfInBounds_toArray, List.set_cons_zero, List.set_cons_succ]
    refine wpAnyH_take (i := 5) (oi := { dst := some 111, op := Op.pick (Operand.tmp 108) (Operand.tmp 110) (Operand.const (Value.bool false)), type := 4, pos := "law.go:85", after := #[{ on := 2, ground := Ground.data }, { on := 4, ground := Ground.data }], guard := none }) (v := ?tkv2906) rfl (by kernel_rfl) (by kernel_rfl) (by kernel_rfl) (fun _ _ _ h => h) (Or.inl ⟨by rfl, ?tky2906⟩) hH0 ?tkr2906
    case tky2906 => (intro w' hSw; clear hSw; go_simp; try with_reducible rfl)
    try simp only [Act.put, List.setIfInBounds_toArray, List.set_cons_zero, List.set_cons_succ]
    refine wpAnyH_take (i := 6) (oi := { dst := some 112, op := Op.move (Operand.tmp 111), type := 4, pos := "law.go:85", after := #[{ on := 5, ground := Ground.data }, { on := 2, ground := Ground.chain }], guard := none }) (v := ?tkv2907) rfl (by kernel_rfl) (by kernel_rfl) (by kernel_rfl) (fun _ _ _ h => h) (Or.inl ⟨by rfl, ?tky2907⟩) hH0 ?tkr2907
    case tky2907 => (intro w' hSw; clear hSw; go_simp; try with_reducible rfl)
    try simp only [Act.put, List.setIfInBounds_toArray, List.set_cons_zero, List.set_cons_succ]
    refine wpAnyH_take (i := 7) (oi := { dst := some 113, op := Op.move (Operand.tmp 18), type := 4, pos := "law.go:85", after := #[{ on := 6, ground := Ground.guard }], guard := some (6, true) }) (v := ?tkv2908) rfl (by kernel_rfl) (by kernel_rfl) (by kernel_rfl) (fun _ _ _ h => h) (Or.inl ⟨by rfl, ?tky2908⟩) hH0 ?tkr2908
    case tky2908 => (intro w' hSw; clear hSw; go_simp; try with_reducible rfl)
    try simp only [Act.put, List.setIfInBounds_toArray, List.set_cons_zero, List.set_cons_succ]
    refine wpAnyH_take (i := 8) (oi := { dst := some 114, op := Op.pick (Operand.tmp 112) (Operand.tmp 113) (Operand.const (Value.bool false)), type := 4, pos := "law.go:85", after := #[{ on := 6, ground := Ground.data }, { on := 7, ground := Ground.data }], guard := none }) (v := ?tkv2909) rfl (by kernel_rfl) (by kernel_rfl) (by kernel_rfl) (fun _ _ _ h => h) (Or.inl ⟨by rfl, ?tky2909⟩) hH0 ?tkr2909
    case tky2909 => (intro w' hSw; clear hSw; go_simp; try with_reducible rfl)
    try simp only [Act.put, List.setIfInBounds_toArray, List.set_cons_zero, List.set_cons_succ]
    refine wpAnyH_take (i := 9) (oi := { dst := some 115, op := Op.move (Operand.tmp 114), type := 4, pos := "law.go:85", after := #[{ on := 8, ground := Ground.data }, { on := 6, ground := Ground.chain }], guard := none }) (v := ?tkv2910) rfl (by kernel_rfl) (by kernel_rfl) (by kernel_rfl) (fun _ _ _ h => h) (Or.inl ⟨by rfl, ?tky2910⟩) hH0 ?tkr2910
    case tky2910 => (intro w' hSw; clear hSw; go_simp; try with_reducible rfl)
    try simp only [Act.put, List.setIfInBounds_toArray, List.set_cons_zero, List.set_cons_succ]
    refine wpAnyH_take (i := 10) (oi := { dst := some 116, op := Op.move (Operand.tmp 13), type := 28, pos := "law.go:85", after := #[{ on := 9, ground := Ground.guard }], guard := some (9, true) }) (v := ?tkv2911) rfl (by kernel_rfl) (by kernel_rfl) (by kernel_rfl) (fun _ _ _ h => h) (Or.inl ⟨by rfl, ?tky2911⟩) hH0 ?tkr2911
    case tky2911 => (intro w' hSw; clear hSw; go_simp; try with_reducible rfl)
    try simp only [Act.put, List.setIfInBounds_toArray, List.set_cons_zero, List.set_cons_succ]
    refine wpAnyH_take (i := 11) (oi := { dst := some 117, op := Op.convert 28 9 (Operand.tmp 116), type := 9, pos := "law.go:85", after := #[{ on := 10, ground := Ground.data }, { on := 9, ground := Ground.guard }], guard := some (9, true) }) (v := ?tkv2912) rfl (by kernel_rfl) (by kernel_rfl) (by kernel_rfl) (fun _ _ _ h => h) (Or.inl ⟨by rfl, ?tky2912⟩) hH0 ?tkr2912
    case tky2912 => (intro w' hSw; have z0 := HF16.out _ hSw; clear hSw; go_simp; try with_reducible rfl)
    try simp only [Act.put, List.setIfInBounds_toArray, List.set_cons_zero, List.set_cons_succ]
    refine wpAnyH_take (i := 12) (oi := { dst := some 118, op := Op.move (Operand.tmp 2), type := 28, pos := "law.go:85", after := #[{ on := 9, ground := Ground.guard }], guard := some (9, true) }) (v := ?tkv2913) rfl (by kernel_rfl) (by kernel_rfl) (by kernel_rfl) (fun _ _ _ h => h) (Or.inl ⟨by rfl, ?tky2913⟩) hH0 ?tkr2913
    case tky2913 => (intro w' hSw; clear hSw; go_simp; try with_reducible rfl)
    try simp only [Act.put, List.setIfInBounds_toArray, List.set_cons_zero, List.set_cons_succ]
    refine wpAnyH_take (i := 13) (oi := { dst := some 119, op := Op.convert 28 9 (Operand.tmp 118), type := 9, pos := "law.go:85", after := #[{ on := 12, ground := Ground.data }, { on := 9, ground := Ground.guard }], guard := some (9, true) }) (v := ?tkv2914) rfl (by kernel_rfl) (by kernel_rfl) (by kernel_rfl) (fun _ _ _ h => h) (Or.inl ⟨by rfl, ?tky2914⟩) hH0 ?tkr2914
    case tky2914 => (intro w' hSw; have z0 := HF16.out _ hSw; clear hSw; go_simp; try with_reducible rfl)
    try simp only [Act.put, List.setIfInBounds_toArray, List.set_cons_zero, List.set_cons_succ]
    refine wpAnyH_take (i := 14) (oi := { dst := some 120, op := Op.binOp BinOp.eql 9 (Operand.tmp 117) (Operand.tmp 119) 9, type := 4, pos := "law.go:85", after := #[{ on := 11, ground := Ground.data }, { on := 13, ground := Ground.data }, { on := 9, ground := Ground.guard }], guard := some (9, true) }) (v := ?tkv2915) rfl (by kernel_rfl) (by kernel_rfl) (by kernel_rfl) (fun _ _ _ h => h) (Or.inl ⟨by rfl, ?tky2915⟩) hH0 ?tkr2915
    case tky2915 => (intro w' hSw; clear hSw; go_simp; try with_reducible rfl)
    try simp only [Act.put, List.setIfInBounds_toArray, List.set_cons_zero, List.set_cons_succ]
    refine wpAnyH_take (i := 15) (oi := { dst := some 121, op := Op.pick (Operand.tmp 115) (Operand.tmp 120) (Operand.const (Value.bool false)), type := 4, pos := "law.go:85", after := #[{ on := 9, ground := Ground.data }, { on := 14, ground := Ground.data }], guard := none }) (v := ?tkv2916) rfl (by kernel_rfl) (by kernel_rfl) (by kernel_rfl) (fun _ _ _ h => h) (Or.inl ⟨by rfl, ?tky2916⟩) hH0 ?tkr2916
    case tky2916 => (intro w' hSw; clear hSw; go_simp; try with_reducible rfl)
    try simp only [Act.put, List.setIfInBounds_toArray, List.set_cons_zero, List.set_cons_succ]
    refine wpAnyH_take (i := 16) (oi := { dst := some 122, op := Op.move (Operand.tmp 121), type := 4, pos := "law.go:85", after := #[{ on := 15, ground := Ground.data }, { on := 9, ground := Ground.chain }], guard := none }) (v := ?tkv2917) rfl (by kernel_rfl) (by kernel_rfl) (by kernel_rfl) (fun _ _ _ h => h) (Or.inl ⟨by rfl, ?tky2917⟩) hH0 ?tkr2917
    case tky2917 => (intro w' hSw; clear hSw; go_simp; try with_reducible rfl)
    try simp only [Act.put, List.setIfInBounds_toArray, List.set_cons_zero, List.set_cons_succ]
    refine wpAnyH_take (i := 17) (oi := { dst := some 123, op := Op.move (Operand.tmp 15), type := 28, pos := "law.go:85", after := #[{ on := 16, ground := Ground.guard }], guard := some (16, true) }) (v := ?tkv2918) rfl (by kernel_rfl) (by kernel_rfl) (by kernel_rfl) (fun _ _ _ h => h) (Or.inl ⟨by rfl, ?tky2918⟩) hH0 ?tkr2918
    case tky2918 => (intro w' hSw; clear hSw; go_simp; try with_reducible rfl)
    try simp only [Act.put, List.setIfInBounds_toArray, List.set_cons_zero, List.set_cons_succ]
    refine wpAnyH_take (i := 18) (oi := { dst := some 124, op := Op.convert 28 9 (Operand.tmp 123), type := 9, pos := "law.go:85", after := #[{ on := 17, ground := Ground.data }, { on := 16, ground := Ground.guard }], guard := some (16, true) }) (v := ?tkv2919) rfl (by kernel_rfl) (by kernel_rfl) (by kernel_rfl) (fun _ _ _ h => h) (Or.inl ⟨by rfl, ?tky2919⟩) hH0 ?tkr2919
    case tky2919 => (intro w' hSw; have z0 := HF16.out _ hSw; clear hSw; go_simp; try with_reducible rfl)
    try simp only [Act.put, List.setIfInBounds_toArray, List.set_cons_zero, List.set_cons_succ]
    refine wpAnyH_take (i := 19) (oi := { dst := some 125, op := Op.move (Operand.tmp 1), type := 28, pos := "law.go:85", after := #[{ on := 16, ground := Ground.guard }], guard := some (16, true) }) (v := ?tkv2920) rfl (by kernel_rfl) (by kernel_rfl) (by kernel_rfl) (fun _ _ _ h => h) (Or.inl ⟨by rfl, ?tky2920⟩) hH0 ?tkr2920
    case tky2920 => (intro w' hSw; clear hSw; go_simp; try with_reducible rfl)
    try simp only [Act.put, List.setIfInBounds_toArray, List.set_cons_zero, List.set_cons_succ]
    refine wpAnyH_take (i := 20) (oi := { dst := some 126, op := Op.convert 28 9 (Operand.tmp 125), type := 9, pos := "law.go:85", after := #[{ on := 19, ground := Ground.data }, { on := 16, ground := Ground.guard }], guard := some (16, true) }) (v := ?tkv2921) rfl (by kernel_rfl) (by kernel_rfl) (by kernel_rfl) (fun _ _ _ h => h) (Or.inl ⟨by rfl, ?tky2921⟩) hH0 ?tkr2921
    case tky2921 => (intro w' hSw; have z0 := HF16.out _ hSw; clear hSw; go_simp; try with_reducible rfl)
    try simp only [Act.put, List.setIfInBounds_toArray, List.set_cons_zero, List.set_cons_succ]
    refine wpAnyH_take (i := 21) (oi := { dst := some 127, op := Op.binOp BinOp.eql 9 (Operand.tmp 124) (Operand.tmp 126) 9, type := 4, pos := "law.go:85", after := #[{ on := 18, ground := Ground.data }, { on := 20, ground := Ground.data }, { on := 16, ground := Ground.guard }], guard := some (16, true) }) (v := ?tkv2922) rfl (by kernel_rfl) (by kernel_rfl) (by kernel_rfl) (fun _ _ _ h => h) (Or.inl ⟨by rfl, ?tky2922⟩) hH0 ?tkr2922
    case tky2922 => (intro w' hSw; clear hSw; go_simp; try with_reducible rfl)
    try simp only [Act.put, List.setIfInBounds_toArray, List.set_cons_zero, List.set_cons_succ]
    refine wpAnyH_take (i := 22) (oi := { dst := some 128, op := Op.pick (Operand.tmp 122) (Operand.tmp 127) (Operand.const (Value.bool false)), type := 4, pos := "law.go:85", after := #[{ on := 16, ground := Ground.data }, { on := 21, ground := Ground.data }], guard := none }) (v := ?tkv2923) rfl (by kernel_rfl) (by kernel_rfl) (by kernel_rfl) (fun _ _ _ h => h) (Or.inl ⟨by rfl, ?tky2923⟩) hH0 ?tkr2923
    case tky2923 => (intro w' hSw; clear hSw; go_simp; try with_reducible rfl)
    try simp only [Act.put, List.setIfInBounds_toArray, List.set_cons_zero, List.set_cons_succ]
    refine wpAnyH_take (i := 23) (oi := { dst := some 129, op := Op.move (Operand.tmp 128), type := 4, pos := "law.go:85", after := #[{ on := 22, ground := Ground.data }, { on := 16, ground := Ground.chain }], guard := none }) (v := ?tkv2924) rfl (by kernel_rfl) (by kernel_rfl) (by kernel_rfl) (fun _ _ _ h => h) (Or.inl ⟨by rfl, ?tky2924⟩) hH0 ?tkr2924
    case tky2924 => (intro w' hSw; clear hSw; go_simp; try with_reducible rfl)
    try simp only [Act.put, List.setIfInBounds_toArray, List.set_cons_zero, List.set_cons_succ]
    refine wpAnyH_take (i := 24) (oi := { dst := some 130, op := Op.move (Operand.tmp 11), type := 24, pos := "law.go:85", after := #[{ on := 23, ground := Ground.guard }], guard := some (23, true) }) (v := ?tkv2925) rfl (by kernel_rfl) (by kernel_rfl) (by kernel_rfl) (fun _ _ _ h => h) (Or.inl ⟨by rfl, ?tky2925⟩) hH0 ?tkr2925
    case tky2925 => (intro w' hSw; clear hSw; go_simp; try with_reducible rfl)
    try simp only [Act.put, List.setIfInBounds_toArray, List.set_cons_zero, List.set_cons_succ]
    refine wpAnyH_take (i := 25) (oi := { dst := some 131, op := Op.move (Operand.tmp 0), type := 3, pos := "law.go:85", after := #[{ on := 23, ground := Ground.guard }], guard := some (23, true) }) (v := ?tkv2926) rfl (by kernel_rfl) (by kernel_rfl) (by kernel_rfl) (fun _ _ _ h => h) (Or.inl ⟨by rfl, ?tky2926⟩) hH0 ?tkr2926
    case tky2926 => (intro w' hSw; clear hSw; go_simp; try with_reducible rfl)
    try simp only [Act.put, List.setIfInBounds_toArray, List.set_cons_zero, List.set_cons_succ]
    refine wpAnyH_take (i := 26) (oi := { dst := some 132, op := Op.load 33 (Operand.tmp 17), type := 33, pos := "law.go:85", after := #[{ on := 23, ground := Ground.guard }], guard := some (23, true) }) (v := ?tkv2927) rfl (by kernel_rfl) (by kernel_rfl) (by kernel_rfl) (fun _ _ _ h => h) (Or.inl ⟨by rfl, ?tky2927⟩) hH0 ?tkr2927
    case tky2927 => (intro w' hSw; have z0 := HF16.out _ hSw; clear hSw; go_simp; try with_reducible rfl)
    try simp only [Act.put, List.setIfInBounds_toArray, List.set_cons_zero, List.set_cons_succ]
    refine wpAnyH_ready (rs := [27]) (by kernel_rfl) (by simp) ?_
    refine AllReadyH.cons (o := { dst := some 133, op := Op.call { callee := Callee.value (Operand.func 17), args := #[Operand.tmp 130, Operand.tmp 131, Operand.tmp 132], argTypes := #[24, 3, 33] }, type := 4, pos := "law.go:85", after := #[{ on := 24, ground := Ground.data }, { on := 25, ground := Ground.data }, { on := 26, ground := Ground.data }, { on := 23, ground := Ground.chain }, { on := 23, ground := Ground.guard }], guard := some (23, true) }) rfl (fun K hK => ?_) AllReadyH.nil
    go_simp
    refine (HRG.out _ hH0).mono ?_
    rintro e' wra ⟨rfl, hbx⟩
    have hb27 := hbx.out
    clear hbx
    go_simp
    refine hK.out _ _ ((hH0).trans (hb27.mono (hH0).size)) (fun hH2928 => ?_)
    clear hK K
    try simp only [Act.put, List.setIfInBounds_toArray, List.set_cons_zero, List.set_cons_succ]
    have hG2928 : (fun W => Below w10.heap.size w10 W ∧ Below wra.heap.size wra W) wra := ⟨hH2928, Below.refl _ _⟩
    refine wpAnyH_grow (S' := (fun W => Below w10.heap.size w10 W ∧ Below wra.heap.size wra W)) (fun _ h => h.1) _ _ _ _ ?_
    refine wpAnyH_take (i := 28) (oi := { dst := some 134, op := Op.pick (Operand.tmp 129) (Operand.tmp 133) (Operand.const (Value.bool false)), type := 4, pos := "law.go:85", after := #[{ on := 23, ground := Ground.data }, { on := 27, ground := Ground.data }], guard := none }) (v := ?tkv2929) rfl (by kernel_rfl) (by kernel_rfl) (by kernel_rfl) (fun _ _ _ h => h) (Or.inl ⟨by rfl, ?tky2929⟩) hG2928 ?tkr2929
    case tky2929 => (intro w' hSw; clear hSw; go_simp; try with_reducible rfl)
    try simp only [Act.put, List.setIfInBounds_toArray, List.set_cons_zero, List.set_cons_succ]
    refine wpAnyH_take (i := 29) (oi := { dst := some 135, op := Op.move (Operand.tmp 134), type := 4, pos := "law.go:85", after := #[{ on := 28, ground := Ground.data }, { on := 27, ground := Ground.chain }], guard := none }) (v := ?tkv2930) rfl (by kernel_rfl) (by kernel_rfl) (by kernel_rfl) (fun _ _ _ h => h) (Or.inl ⟨by rfl, ?tky2930⟩) hG2928 ?tkr2930
    case tky2930 => (intro w' hSw; clear hSw; go_simp; try with_reducible rfl)
    try simp only [Act.put, List.setIfInBounds_toArray, List.set_cons_zero, List.set_cons_succ]
    refine wpAnyH_take (i := 30) (oi := { dst := some 136, op := Op.fieldAddr 33 (Operand.tmp 17) 2, type := 0, pos := "law.go:85", after := #[{ on := 29, ground := Ground.guard }], guard := some (29, true) }) (v := ?tkv2931) rfl (by kernel_rfl) (by kernel_rfl) (by kernel_rfl) (fun _ _ _ h => h) (Or.inl ⟨by rfl, ?tky2931⟩) hG2928 ?tkr2931
    case tky2931 => (intro w' hSw; clear hSw; go_simp; try with_reducible rfl)
    try simp only [Act.put, List.setIfInBounds_toArray, List.set_cons_zero, List.set_cons_succ]
    refine wpAnyH_take (i := 31) (oi := { dst := some 137, op := Op.load 28 (Operand.tmp 136), type := 28, pos := "law.go:85", after := #[{ on := 30, ground := Ground.data }, { on := 29, ground := Ground.guard }], guard := some (29, true) }) (v := ?tkv2932) rfl (by kernel_rfl) (by kernel_rfl) (by kernel_rfl) (fun _ _ _ h => h) (Or.inl ⟨by rfl, ?tky2932⟩) hG2928 ?tkr2932
    case tky2932 => (intro w' hSw; have z0 := HF16.out _ hSw.1; clear hSw; go_simp; try with_reducible rfl)
    try simp only [Act.put, List.setIfInBounds_toArray, List.set_cons_zero, List.set_cons_succ]
    refine wpAnyH_take (i := 32) (oi := { dst := some 138, op := Op.call { callee := Callee.builtin Builtin.len, args := #[Operand.tmp 137], argTypes := #[28] }, type := 3, pos := "law.go:85", after := #[{ on := 31, ground := Ground.data }, { on := 29, ground := Ground.guard }], guard := some (29, true) }) (v := ?tkv2933) rfl (by kernel_rfl) (by kernel_rfl) (by kernel_rfl) (fun _ _ _ h => h) (Or.inl ⟨by rfl, ?tky2933⟩) hG2928 ?tkr2933
    case tky2933 => (intro w' hSw; clear hSw; go_simp; try with_reducible rfl)
    try simp only [Act.put, List.setIfInBounds_toArray, List.set_cons_zero, List.set_cons_succ]
    refine wpAnyH_take (i := 33) (oi := { dst := some 139, op := Op.binOp BinOp.eql 3 (Operand.tmp 138) (Operand.const (Value.int IntKind.i64 32)) 3, type := 4, pos := "law.go:85", after := #[{ on := 32, ground := Ground.data }, { on := 29, ground := Ground.guard }], guard := some (29, true) }) (v := ?tkv2934) rfl (by kernel_rfl) (by kernel_rfl) (by kernel_rfl) (fun _ _ _ h => h) (Or.inl ⟨by rfl, ?tky2934⟩) hG2928 ?tkr2934
    case tky2934 => (intro w' hSw; clear hSw; go_simp; try with_reducible rfl)
    try simp only [Act.put, List.setIfInBounds_toArray, List.set_cons_zero, List.set_cons_succ]
    refine wpAnyH_take (i := 34) (oi := { dst := some 140, op := Op.pick (Operand.tmp 135) (Operand.tmp 139) (Operand.const (Value.bool false)), type := 4, pos := "law.go:85", after := #[{ on := 29, ground := Ground.data }, { on := 33, ground := Ground.data }], guard := none }) (v := ?tkv2935) rfl (by kernel_rfl) (by kernel_rfl) (by kernel_rfl) (fun _ _ _ h => h) (Or.inl ⟨by rfl, ?tky2935⟩) hG2928 ?tkr2935
    case tky2935 => (intro w' hSw; clear hSw; go_simp; try with_reducible rfl)
    try simp only [Act.put, List.setIfInBounds_toArray, List.set_cons_zero, List.set_cons_succ]
    refine wpAnyH_take (i := 35) (oi := { dst := some 141, op := Op.move (Operand.tmp 140), type := 4, pos := "law.go:85", after := #[{ on := 34, ground := Ground.data }, { on := 29, ground := Ground.chain }], guard := none }) (v := ?tkv2936) rfl (by kernel_rfl) (by kernel_rfl) (by kernel_rfl) (fun _ _ _ h => h) (Or.inl ⟨by rfl, ?tky2936⟩) hG2928 ?tkr2936
    case tky2936 => (intro w' hSw; clear hSw; go_simp; try with_reducible rfl)
    try simp only [Act.put, List.setIfInBounds_toArray, List.set_cons_zero, List.set_cons_succ]
    refine wpAnyH_take (i := 36) (oi := { dst := some 142, op := Op.fieldAddr 33 (Operand.tmp 17) 2, type := 0, pos := "law.go:85", after := #[{ on := 35, ground := Ground.guard }], guard := some (35, true) }) (v := ?tkv2937) rfl (by kernel_rfl) (by kernel_rfl) (by kernel_rfl) (fun _ _ _ h => h) (Or.inl ⟨by rfl, ?tky2937⟩) hG2928 ?tkr2937
    case tky2937 => (intro w' hSw; clear hSw; go_simp; try with_reducible rfl)
    try simp only [Act.put, List.setIfInBounds_toArray, List.set_cons_zero, List.set_cons_succ]
    refine wpAnyH_take (i := 37) (oi := { dst := some 143, op := Op.load 28 (Operand.tmp 142), type := 28, pos := "law.go:85", after := #[{ on := 36, ground := Ground.data }, { on := 35, ground := Ground.guard }], guard := some (35, true) }) (v := ?tkv2938) rfl (by kernel_rfl) (by kernel_rfl) (by kernel_rfl) (fun _ _ _ h => h) (Or.inl ⟨by rfl, ?tky2938⟩) hG2928 ?tkr2938
    case tky2938 => (intro w' hSw; have z0 := HF16.out _ hSw.1; clear hSw; go_simp; try with_reducible rfl)
    try simp only [Act.put, List.setIfInBounds_toArray, List.set_cons_zero, List.set_cons_succ]
    refine wpAnyH_take (i := 38) (oi := { dst := some 144, op := Op.convert 28 9 (Operand.tmp 143), type := 9, pos := "law.go:85", after := #[{ on := 37, ground := Ground.data }, { on := 35, ground := Ground.guard }], guard := some (35, true) }) (v := ?tkv2939) rfl (by kernel_rfl) (by kernel_rfl) (by kernel_rfl) (fun _ _ _ h => h) (Or.inl ⟨by rfl, ?tky2939⟩) hG2928 ?tkr2939
    case tky2939 => (intro w' hSw; have z0 := HF16.out _ hSw.1; clear hSw; go_simp; try with_reducible rfl)
    try simp only [Act.put, List.setIfInBounds_toArray, List.set_cons_zero, List.set_cons_succ]
    refine wpAnyH_take (i := 39) (oi := { dst := some 145, op := Op.move (Operand.tmp 2), type := 28, pos := "law.go:85", after := #[{ on := 35, ground := Ground.guard }], guard := some (35, true) }) (v := ?tkv2940) rfl (by kernel_rfl) (by kernel_rfl) (by kernel_rfl) (fun _ _ _ h => h) (Or.inl ⟨by rfl, ?tky2940⟩) hG2928 ?tkr2940
    case tky2940 => (intro w' hSw; clear hSw; go_simp; try with_reducible rfl)
    try simp only [Act.put, List.setIfInBounds_toArray, List.set_cons_zero, List.set_cons_succ]
    refine wpAnyH_ready (rs := [40]) (by kernel_rfl) (by simp) ?_
    refine AllReadyH.cons (o := { dst := some 146, op := Op.call { callee := Callee.value (Operand.func 26), args := #[Operand.tmp 145], argTypes := #[28] }, type := 28, pos := "law.go:85", after := #[{ on := 39, ground := Ground.data }, { on := 35, ground := Ground.chain }, { on := 35, ground := Ground.guard }], guard := some (35, true) }) rfl (fun K hK => ?_) AllReadyH.nil
    go_simp
    refine (HDG.out _ hG2928.1).mono ?_
    rintro e' wdg ⟨Ad, cd, rfl, hod, hbx⟩
    have hb40 := hbx.out
    have HKD := Lib.hid (conv_own cd hod.out)
    clear hbx hod
    go_simp
    refine hK.out _ _ (⟨(hG2928.1).trans (hb40.mono (hG2928.1).size), (hG2928.2).trans (hb40.mono (hG2928.2).size)⟩) (fun hH2941 => ?_)
    clear hK K
    try simp only [Act.put, List.setIfInBounds_toArray, List.set_cons_zero, List.set_cons_succ]
    have hG2941 : (fun W => Below w10.heap.size w10 W ∧ Below wra.heap.size wra W ∧ Below wdg.heap.size wdg W) wdg := ⟨hH2941.1, hH2941.2, Below.refl _ _⟩
    refine wpAnyH_grow (S' := (fun W => Below w10.heap.size w10 W ∧ Below wra.heap.size wra W ∧ Below wdg.heap.size wdg W)) (fun _ h => ⟨h.1, h.2.1⟩) _ _ _ _ ?_
    refine wpAnyH_take (i := 41) (oi := { dst := some 147, op := Op.convert 28 9 (Operand.tmp 146), type := 9, pos := "law.go:85", after := #[{ on := 40, ground := Ground.data }, { on := 35, ground := Ground.guard }], guard := some (35, true) }) (v := ?tkv2942) rfl (by kernel_rfl) (by kernel_rfl) (by kernel_rfl) (fun _ _ _ h => h) (Or.inl ⟨by rfl, ?tky2942⟩) hG2941 ?tkr2942
    case tky2942 => (intro w' hSw; have z0 := HF16.out _ hSw.1; have z1 := HKD.out _ hSw.2.2; clear hSw; go_simp; try with_reducible rfl)
    try simp only [Act.put, List.setIfInBounds_toArray, List.set_cons_zero, List.set_cons_succ]
    refine wpAnyH_take (i := 42) (oi := { dst := some 148, op := Op.binOp BinOp.eql 9 (Operand.tmp 144) (Operand.tmp 147) 9, type := 4, pos := "law.go:85", after := #[{ on := 38, ground := Ground.data }, { on := 41, ground := Ground.data }, { on := 35, ground := Ground.guard }], guard := some (35, true) }) (v := ?tkv2943) rfl (by kernel_rfl) (by kernel_rfl) (by kernel_rfl) (fun _ _ _ h => h) (Or.inl ⟨by rfl, ?tky2943⟩) hG2941 ?tkr2943
    case tky2943 => (intro w' hSw; clear hSw; go_simp; try with_reducible rfl)
    try simp only [Act.put, List.setIfInBounds_toArray, List.set_cons_zero, List.set_cons_succ]
    refine wpAnyH_take (i := 43) (oi := { dst := some 149, op := Op.pick (Operand.tmp 141) (Operand.tmp 148) (Operand.const (Value.bool false)), type := 4, pos := "law.go:85", after := #[{ on := 35, ground := Ground.data }, { on := 42, ground := Ground.data }], guard := none }) (v := ?tkv2944) rfl (by kernel_rfl) (by kernel_rfl) (by kernel_rfl) (fun _ _ _ h => h) (Or.inl ⟨by rfl, ?tky2944⟩) hG2941 ?tkr2944
    case tky2944 => (intro w' hSw; clear hSw; go_simp; try with_reducible rfl)
    try simp only [Act.put, List.setIfInBounds_toArray, List.set_cons_zero, List.set_cons_succ]
    refine wpAnyH_take (i := 44) (oi := { dst := some 150, op := Op.move (Operand.tmp 149), type := 4, pos := "law.go:85", after := #[{ on := 43, ground := Ground.data }, { on := 40, ground := Ground.chain }], guard := none }) (v := ?tkv2945) rfl (by kernel_rfl) (by kernel_rfl) (by kernel_rfl) (fun _ _ _ h => h) (Or.inl ⟨by rfl, ?tky2945⟩) hG2941 ?tkr2945
    case tky2945 => (intro w' hSw; clear hSw; go_simp; try with_reducible rfl)
    try simp only [Act.put, List.setIfInBounds_toArray, List.set_cons_zero, List.set_cons_succ]
    refine wpAnyH_ready (rs := [45]) (by kernel_rfl) (by simp) ?_
    refine AllReadyH.cons (o := { dst := some 151, op := Op.call { callee := Callee.value (Operand.func 10), args := #[], argTypes := #[] }, type := 4, pos := "law.go:85", after := #[{ on := 44, ground := Ground.chain }, { on := 44, ground := Ground.guard }], guard := some (44, true) }) rfl (fun K hK => ?_) AllReadyH.nil
    go_simp
    refine (HAWK.out _ hG2941.1).mono ?_
    rintro e' wak ⟨rfl, hb45⟩
    go_simp
    refine hK.out _ _ (⟨(hG2941.1).trans (hb45.mono (hG2941.1).size), (hG2941.2.1).trans (hb45.mono (hG2941.2.1).size), (hG2941.2.2).trans (hb45.mono (hG2941.2.2).size)⟩) (fun hH2946 => ?_)
    clear hK K
    try simp only [Act.put, List.setIfInBounds_toArray, List.set_cons_zero, List.set_cons_succ]
    have hG2946 : (fun W => Below w10.heap.size w10 W ∧ Below wra.heap.size wra W ∧ Below wdg.heap.size wdg W ∧ Below wak.heap.size wak W) wak := ⟨hH2946.1, hH2946.2.1, hH2946.2.2, Below.refl _ _⟩
    refine wpAnyH_grow (S' := (fun W => Below w10.heap.size w10 W ∧ Below wra.heap.size wra W ∧ Below wdg.heap.size wdg W ∧ Below wak.heap.size wak W)) (fun _ h => ⟨h.1, h.2.1, h.2.2.1⟩) _ _ _ _ ?_
    refine wpAnyH_take (i := 46) (oi := { dst := some 152, op := Op.pick (Operand.tmp 150) (Operand.tmp 151) (Operand.const (Value.bool false)), type := 4, pos := "law.go:85", after := #[{ on := 44, ground := Ground.data }, { on := 45, ground := Ground.data }], guard := none }) (v := ?tkv2947) rfl (by kernel_rfl) (by kernel_rfl) (by kernel_rfl) (fun _ _ _ h => h) (Or.inl ⟨by rfl, ?tky2947⟩) hG2946 ?tkr2947
    case tky2947 => (intro w' hSw; clear hSw; go_simp; try with_reducible rfl)
    try simp only [Act.put, List.setIfInBounds_toArray, List.set_cons_zero, List.set_cons_succ]
    refine wpAnyH_take (i := 47) (oi := { dst := some 10, op := Op.assign (Operand.tmp 152), type := 4, pos := "law.go:85", after := #[{ on := 46, ground := Ground.data }, { on := 45, ground := Ground.chain }, { on := 0, ground := Ground.phase }, { on := 1, ground := Ground.phase }, { on := 2, ground := Ground.phase }, { on := 3, ground := Ground.phase }, { on := 4, ground := Ground.phase }, { on := 5, ground := Ground.phase }, { on := 6, ground := Ground.phase }, { on := 7, ground := Ground.phase }, { on := 8, ground := Ground.phase }, { on := 9, ground := Ground.phase }, { on := 10, ground := Ground.phase }, { on := 11, ground := Ground.phase }, { on := 12, ground := Ground.phase }, { on := 13, ground := Ground.phase }, { on := 14, ground := Ground.phase }, { on := 15, ground := Ground.phase }, { on := 16, ground := Ground.phase }, { on := 17, ground := Ground.phase }, { on := 18, ground := Ground.phase }, { on := 19, ground := Ground.phase }, { on := 20, ground := Ground.phase }, { on := 21, ground := Ground.phase }, { on := 22, ground := Ground.phase }, { on := 23, ground := Ground.phase }, { on := 24, ground := Ground.phase }, { on := 25, ground := Ground.phase }, { on := 26, ground := Ground.phase }, { on := 27, ground := Ground.phase }, { on := 28, ground := Ground.phase }, { on := 29, ground := Ground.phase }, { on := 30, ground := Ground.phase }, { on := 31, ground := Ground.phase }, { on := 32, ground := Ground.phase }, { on := 33, ground := Ground.phase }, { on := 34, ground := Ground.phase }, { on := 35, ground := Ground.phase }, { on := 36, ground := Ground.phase }, { on := 37, ground := Ground.phase }, { on := 38, ground := Ground.phase }, { on := 39, ground := Ground.phase }, { on := 40, ground := Ground.phase }, { on := 41, ground := Ground.phase }, { on := 42, ground := Ground.phase }, { on := 43, ground := Ground.phase }, { on := 44, ground := Ground.phase }, { on := 45, ground := Ground.phase }, { on := 46, ground := Ground.phase }], guard := none }) (v := ?tkv2948) rfl (by kernel_rfl) (by kernel_rfl) (by kernel_rfl) (fun _ _ _ h => h) (Or.inl ⟨by rfl, ?tky2948⟩) hG2946 ?tkr2948
    case tky2948 => (intro w' hSw; clear hSw; go_simp; try with_reducible rfl)
    try simp only [Act.put, List.setIfInBounds_toArray, List.set_cons_zero, List.set_cons_succ]
    refine wpAnyH_done (by kernel_rfl) ?_ _
    refine NoPanic.normal ?_
    have hEnd : Below w10.heap.size w10 _ := hG2946.1
    have HE := Lib.hid (HB10.out.trans (hEnd.mono HB10.out.size))
    go_wp2_with fail
    go_ret
    exact ⟨rfl, HE.out⟩
end Go.Proofs.YtgfdpondnkcogaaDoor
