/- SlotOthers: its walks. -/
import Derived.Test.YtgfdpondnkcogaaDoorSlAw
import Derived.Test.YtgfdpondnkcogaaDoorGrow
import Derived.Test.YtgfdpondnkcogaaDoorCrcTellsMath
namespace Go.Proofs.YtgfdpondnkcogaaDoor
open Go.RowKit Go.ChangeShapes Go.WideShapes Go.ChangeAt Sh
theorem bv_bend2 (p : List UInt8) (i : Nat) (x : UInt8) : (bv p).set i (.int .u8 (bits .xor .u8 ((p.getD i 0).toNat : Int) (x.toNat : Int))) = bv (CrcM.bend p i x) := by
  rw [u8_xor_nat _ _ (CrcM.b_lt _) (CrcM.b_lt _), ← UInt8.toNat_xor]
  simp only [bv, CrcM.bend, List.map_set]
theorem bend_zero (p : List UInt8) (i : Nat) : CrcM.bend p i 0 = p := by
  unfold CrcM.bend
  rw [CrcM.u8_xor_id]
  apply List.ext_getElem
  · simp
  · intro j h1 h2
    rw [List.getElem_set]
    split
    · rename_i h; subst h; simp [List.getD, h2]
    · rfl
theorem bend_ne (p : List UInt8) (i : Nat) (x : UInt8) (h : i < p.length) (e : CrcM.bend p i x = p) : x = 0 := by
  have h1 : (CrcM.bend p i x).getD i 0 = p.getD i 0 := by rw [e]
  unfold CrcM.bend at h1
  simp [List.getD, h] at h1
  exact CrcM.u8_xor_zero _ _ h1
set_option maxRecDepth 100000 in
set_option maxHeartbeats 12800000 in
theorem oth_walk0 (IA : Option Addr) (ni icap : Nat) (img : List UInt8) (at_ : Int) (xb : UInt8) (w : World) (ht : Tab w) (hl2 : Row w w.heap.size IA ni (bv img))
    (hi1 : 1 ≤ ni) (hi2 : ni ≤ 512) :
    Calls Tryd.prog 6 #[.int .i64 0, .slice IA ni icap, .int .i64 at_, .int .u8 (xb.toNat : Int)] w fun e w' => e = .returned (.bool true) ∧ Below w.heap.size w w' := by
  obtain ⟨i0, hi, hz0, hz1, hz2⟩ := info_parts Tryd.info5
  have HT := Lib.hid ht
  have HI := Lib.hid hl2
  have HIL := Lib.hid hl2.blen
  obtain ⟨p, hp, hK⟩ := pick_in at_ 32 (by omega) (by omega)
  have HK := Lib.hid hK
  have hi1' : ¬ ((ni : Int) < 1) := by omega
  clear ht hl2 hK
  go_enter Tryd.func6, Tryd.ntmps6
  go_wp2_with fail
  refine (new_any 9 w ⟨by omega, by omega⟩).mono ?_
  rintro e w1 ⟨g, rfl, hg, hf, hb⟩
  have HQ0 : Hid (((flNew 9).fill 0 3584).down = false ∧ ((flNew 9).fill 0 3584).there = false ∧ ((flNew 9).fill 0 3584).wear = 9 ∧ (∀ j, ((flNew 9).fill 0 3584).er j = 0) ∧ ((flNew 9).fill 0 3584).Ok 0) := ⟨rfl, rfl, rfl, fun s => rfl, new_ok2 9 (by decide)⟩
  generalize (flNew 9).fill 0 3584 = f0 at *
  have HB1 : Hid (Below w.heap.size w w1) := hb
  have HF1 : Hid (FlAt w1 g f0) := hf
  have HAI : Hid (0 < ni → ∀ b o, IA = some ⟨b, o, none⟩ → b ≠ g) := by
    intro h0 b' o' e
    obtain ⟨b2, o2, e2, hb2, _⟩ := HI.out.2 h0
    have e3 := e2.symm.trans e
    injection e3 with e3
    injection e3 with e3
    omega
  have HSO := Lib.hid (sof_yes 4 ni w.heap.size icap IA img w1 (HT.out.below HB1.out HT.out.1) (HI.out.below HB1.out) HB1.out.size hi1 hi2)
  clear hb hf
  go_wp2_with fail
  refine HSO.out.mono ?_
  rintro e w3 ⟨AH, cH, rfl, hrh, hah, hch, hb3⟩
  have HB3 : Hid (Below w.heap.size w w3) := HB1.out.trans (hb3.out.mono HB1.out.size)
  have HF3 := Lib.hid (HF1.out.below hb3.out)
  obtain ⟨W3, hW3⟩ : ∃ W3, w3.alloc (.cells #[.int .u32 4, .int .i64 (ni : Int), .slice AH 32 cH] 33) = W3 := ⟨_, rfl⟩
  have hbw : Below w3.heap.size w3 W3 := by rw [← hW3]; exact (Below.refl _ _).alloc (Nat.le_refl _) _
  have HZ3 : Hid (W3.heap[w3.heap.size]? = some (.cells #[.int .u32 4, .int .i64 (ni : Int), .slice AH 32 cH] 33 (0, 0))) := by rw [← hW3]; exact heap_alloc_new _ _
  have HSZ3 : Hid (W3.heap.size = w3.heap.size + 1) := by show _ = _; rw [← hW3]; simp
  have HB4 : Hid (Below w.heap.size w W3) := HB3.out.trans (hbw.mono HB3.out.size)
  have HF4 := Lib.hid (HF3.out.below hbw)
  have HRH : Hid (Row W3 W3.heap.size AH 32 (bv (Sha.D img))) := (hrh.out.below hbw).more hbw.size
  have hg1 : g < w3.heap.size := HF3.out.lt
  have hg0 := HF1.out.lt
  have HG1 : Hid (∀ b o, AH = some ⟨b, o, none⟩ → b ≠ g) := by
    intro b o e
    have := hah.out b o e
    omega
  have HW3 := Lib.hid hW3
  clear hW3 hbw hrh hah hch hb3 HSO HB3 HF3 HF1 HB1 hg0
  go_upto_region 8 with fail
  rw [HW3.out]
  obtain ⟨gb, hgb⟩ : ∃ gb, w3.heap.size = gb := ⟨_, rfl⟩
  rw [hgb] at HZ3 HSZ3 hg1
  try rw [hgb]
  clear HW3 hgb
  have HW := Lib.hid (swrite_free (s := 0) (a := 2) (cap := icap) HF4.out (HI.out.below HB4.out) HAI.out HB4.out.size HQ0.out.1 (.inl rfl) rfl hi1 hi2 HQ0.out.2.2.2.2 (by omega) (by rw [HQ0.out.2.2.1, HQ0.out.2.2.2.1]; decide) (by rw [HQ0.out.2.2.1, HQ0.out.2.2.2.1]; decide) HQ0.out.2.1)
  go_wp2_with fail
  refine HW.out.mono ?_
  rintro e w6 ⟨f1, rfl, hd, hsw, hok⟩
  obtain ⟨q1, _, _, q4, _⟩ := hsw.out.yes rfl
  have HB6 : Hid (Below w.heap.size w w6) := below_done2 HB4.out hd.out HB4.out.size hg
  have HF6 : Hid (FlAt w6 g f1) := hd.out.1
  have HZ6 := Lib.hid ((hd.out.2.block gb (by have := HSZ3.out; omega) (by intro e; injection e with e; omega)).trans HZ3.out)
  have HRH6 : Hid (Row w6 w6.heap.size AH 32 (bv (Sha.D img))) := (HRH.out.apart (fun _ => HG1.out) hd.out.2 (Nat.le_refl _)).more hd.out.2.size
  have HQ1 : Hid (f1.down = false ∧ f1.sub (256 * 2) ni = img) := ⟨q4.trans HQ0.out.1, by have := HIL.out; rw [← this]; exact q1⟩
  have HRT := Lib.hid (right_any g 0 2 4 32 ni cH AH (Sha.D img) f1 w6 (HT.out.below HB6.out HT.out.1) HF6.out HQ1.out.1 (.inl rfl) rfl hi1 hi2 HRH6.out)
  rw [HQ1.out.2, beq_self_eq_true] at HRT
  obtain ⟨y0, y1, y2⟩ := c3 HZ6.out
  clear q1 q4 hd hsw hok HB4 HF4 HZ3 HSZ3 HRH HW HQ0
  go_wp2_with fail
  refine HRT.out.mono ?_
  rintro e w10 ⟨rfl, hb10⟩
  have HB10 : Hid (Below w.heap.size w w10) := HB6.out.trans (hb10.out.mono HB6.out.size)
  have HF10 : Hid (FlAt w10 g f1) := HF6.out.below hb10.out
  have hgb6 : gb < w6.heap.size := (Array.getElem?_eq_some_iff.1 HZ6.out).1
  have HZ10 := Lib.hid ((hb10.out.block gb hgb6).trans HZ6.out)
  have HR10 : Hid (Row w10 w10.heap.size AH 32 (bv (Sha.D img))) := (HRH6.out.below hb10.out).more hb10.out.size
  have hgb10 : gb < w10.heap.size := (Array.getElem?_eq_some_iff.1 HZ10.out).1
  clear y0 y1 y2 hb10 HB6 HF6 HZ6 HRH6 HRT hgb6
  obtain ⟨x0, x1, x2⟩ := c3 HZ10.out
  go_upto_region 11 with fail
  clear x0 x1 x2
  obtain ⟨W, hW⟩ : ∃ W, w10.alloc (.cells #[.int .u32 4, .int .i64 (ni : Int), .slice AH 32 cH] 33) = W := ⟨_, rfl⟩
  have hbw : Below w10.heap.size w10 W := by rw [← hW]; exact (Below.refl _ _).alloc (Nat.le_refl _) _
  have hzt : W.heap[w10.heap.size]? = some (.cells #[.int .u32 4, .int .i64 (ni : Int), .slice AH 32 cH] 33 (0, 0)) := by rw [← hW]; exact heap_alloc_new _ _
  have hszW : W.heap.size = w10.heap.size + 1 := by rw [← hW]; simp
  obtain ⟨gt, hgt⟩ : ∃ gt, w10.heap.size = gt := ⟨_, rfl⟩
  have hW' := Lib.hid hW
  clear hW
  try rw [hW'.out]
  have hbw' := hbw
  rw [hgt] at hzt hszW
  obtain ⟨X2, _, _⟩ := c3 ((hbw.block gb hgb10).trans HZ10.out)
  have x2 := (c3 ((hbw.block gb hgb10).trans HZ10.out)).2.2
  have hgbW : gb < W.heap.size := by omega
  have HBW := Lib.hid hbw
  have HZT := Lib.hid hzt
  have HSW := Lib.hid hszW
  have HGT := Lib.hid hgt
  clear hbw hbw' hzt hszW X2
  try rw [HGT.out]
  go_upto_region 14 with (at_builtin; go_loud (refine wpList_app rfl (.tmp 83) (.tmp 85) 28 rfl W.heap.size 5 i0 (.int .u8 0) 1 Tryd.underlying28 hi hz0 hz1 hz2 rfl _ 0 [] rfl (own_lit #[] rfl (Nat.le_refl _) rfl (by unfold maxLen; omega)) w10.heap.size AH 32 cH (bv (Sha.D img)) rfl ((HR10.out.below HBW.out).alloc HBW.out.size _) (bv_one _) (by unfold maxLen; omega) (by omega) (by simp) ?_; intro v2 w2 hown2 hg2 hat2; clear hat2; obtain ⟨gx, cT, rfl, hgx, _⟩ := hown2.form (by omega); have hzt2 := (hg2.block gt (by have h1 := HSW.out; have h2 := HGT.out; simp only [World.size_alloc]; omega) (by intro e; injection e with e; have e' : gt = W.heap.size := e; have h1 := HSW.out; have h2 := HGT.out; omega)).trans ((heap_alloc_old W (.cells #[] 5) (show gt < W.heap.size by have h1 := HSW.out; have h2 := HGT.out; omega)).trans HZT.out); have yy2 := (c3 hzt2).2.2; have zf := frozen_of_row w2 gt 2 _ _ hzt2; have HZT2 := Lib.hid hzt2; clear hzt2))
  have hbw2 : Below w10.heap.size w10 w2 := (HBW.out.alloc HBW.out.size _).grown hg2 (by have h1 := HSW.out; simp; omega) (by intro q e; injection e with e; have e' : W.heap.size = q := e; have h1 := HSW.out; have h2 := HGT.out; omega)
  have hown3 : w2.ownsRow W.heap.size 5 1 (.slice (some ⟨gx, 0, none⟩) 32 cT) 32 (bv (Sha.D img)) := hown2
  obtain ⟨w12, hw12⟩ : ∃ w12, w2.setCell ⟨gt, 2, none⟩ (.slice (some ⟨gx, 0, none⟩) 32 cT) = w12 := ⟨_, rfl⟩
  have hz12 : w12.heap[gt]? = some (.cells #[.int .u32 4, .int .i64 (ni : Int), .slice (some ⟨gx, 0, none⟩) 32 cT] 33 (0, 0)) := by rw [← hw12]; exact heap_setCell_same w2 gt 2 _ _ _ HZT2.out
  have hown12 : w12.ownsRow W.heap.size 5 1 (.slice (some ⟨gx, 0, none⟩) 32 cT) 32 (bv (Sha.D img)) := by rw [← hw12]; exact ownsRow_setCell_below hown3 (show gt < W.heap.size by have h1 := HSW.out; omega) _
  have HB12 : Hid (Below w10.heap.size w10 w12) := by show Below _ _ _; rw [← hw12]; exact hbw2.setCell (show w10.heap.size ≤ gt by have h2 := HGT.out; omega) _
  have hdl := Sha.D_length img
  have hcell : w12.cell? ⟨gx, p, none⟩ = _ := (hown12.cellAt p (by omega)).trans (bv_getD _ p (by rw [hdl]; omega))
  have hfr := hown12.frozenAt p
  have hst := hown12.stored p (.int .u8 (bits .xor .u8 (((Sha.D img).getD p 0).toNat : Int) (xb.toNat : Int)))
  rw [bv_bend2] at hst
  have HOWN := Lib.hid hst.1
  have HZ12 := Lib.hid hz12
  have y2 := (c3 hz12).2.2
  have HW12 := Lib.hid hw12
  have hpi : (p : Int) < 32 := by omega
  have HGG : Hid (gb < gt ∧ gt < gx ∧ gx < w12.heap.size) := ⟨by have h2 := HGT.out; omega, by have h1 := HSW.out; omega, by have := hown12.form (by omega); obtain ⟨g', c', e1, e2, e3⟩ := this; injection e1 with e1; injection e1 with e1; injection e1 with e1; omega⟩
  clear hbw2 hown2 hown3 hg2 hw12 hz12 hown12 hst yy2 zf HZT2 hgx HBW HZT x2 hgbW
  rw [HW12.out]
  clear HW12
  generalize ((Sha.D img).getD p 0) = u at *
  have hu : (u.toNat : Int) ≤ 255 := by have := CrcM.b_lt u; omega
  go_upto_region 15 with (rw [HK.out])
  have hbx : Below w10.heap.size w10 (w12.setCell ⟨gx, p, none⟩ (.int .u8 (bits .xor .u8 (u.toNat : Int) (xb.toNat : Int)))) := HB12.out.setCell (show w10.heap.size ≤ gx by have h1 := HGG.out; have h2 := HGT.out; omega) _
  have hzx := (heap_setCell_other w12 ⟨gx, p, none⟩ gt (.int .u8 (bits .xor .u8 (u.toNat : Int) (xb.toNat : Int))) (show gt ≠ gx by have h1 := HGG.out; omega)).trans HZ12.out
  have HO14 := HOWN
  clear y2 hcell hfr HB12 HZ12 HOWN
  generalize w12.setCell ⟨gx, p, none⟩ (.int .u8 (bits .xor .u8 (u.toNat : Int) (xb.toNat : Int))) = w14 at *
  obtain ⟨x0, x1, x2⟩ := c3 ((hbx.block gb hgb10).trans HZ10.out)
  have HB14 := Lib.hid hbx
  have HZT14 := Lib.hid hzx
  have HRT0 := Lib.hid (Row.of_own HO14.out)
  clear hbx hzx HO14
  go_upto_region 17 with fail
  clear x0 x1 x2
  obtain ⟨w17, hw17⟩ : ∃ w17, w14.alloc (.cells #[.int .u32 4, .int .i64 0, .slice AH 32 cH] 33) = w17 := ⟨_, rfl⟩
  have hb17 : Below w14.heap.size w14 w17 := by rw [← hw17]; exact (Below.refl _ _).alloc (Nat.le_refl _) _
  have hzu : w17.heap[w14.heap.size]? = some (.cells #[.int .u32 4, .int .i64 0, .slice AH 32 cH] 33 (0, 0)) := by rw [← hw17]; exact heap_alloc_new _ _
  have HW17 := Lib.hid hw17
  rw [HW17.out]
  clear hw17 HW17
  obtain ⟨gu, hgu⟩ : ∃ gu, w14.heap.size = gu := ⟨_, rfl⟩
  have hlt14 : gt < w14.heap.size := (Array.getElem?_eq_some_iff.1 HZT14.out).1
  have hb1017 : Below w10.heap.size w10 w17 := HB14.out.trans (hb17.mono HB14.out.size)
  have HB17 : Hid (Below w.heap.size w w17) := HB10.out.trans (hb1017.mono HB10.out.size)
  have HF17x : Hid (FlAt w17 g f1) := HF10.out.below hb1017
  have HRT : Hid (Row w17 w17.heap.size (some ⟨gx, 0, none⟩) 32 (bv (CrcM.bend (Sha.D img) p xb))) := (HRT0.out.below hb17).more hb17.size
  have hrh17 : Row w17 w17.heap.size AH 32 (bv (Sha.D img)) := (HR10.out.below hb1017).more hb1017.size
  have hzt17 := (hb17.block gt hlt14).trans HZT14.out
  have hzb17 := (hb1017.block gb hgb10).trans HZ10.out
  have hlu : w14.heap.size < w17.heap.size := (Array.getElem?_eq_some_iff.1 hzu).1
  have hlt17 : gt < w17.heap.size := by have := hb17.size; omega
  have hlb17 : gb < w17.heap.size := (Array.getElem?_eq_some_iff.1 hzb17).1
  have HF17 : Hid (∀ W, Below w17.heap.size w17 W → (convert 28 9 (.slice AH 32 cH)).run Tryd.prog W = .ok (.string ⟨(Sha.D img).toArray⟩) W ∧ W.cell? ⟨gt, 0, none⟩ = some (.int .u32 4) ∧ W.cell? ⟨gt, 1, none⟩ = some (.int .i64 (ni : Int)) ∧ W.cell? ⟨gt, 2, none⟩ = some (.slice (some ⟨gx, 0, none⟩) 32 cT) ∧ W.cell? ⟨w14.heap.size, 0, none⟩ = some (.int .u32 4) ∧ W.cell? ⟨w14.heap.size, 1, none⟩ = some (.int .i64 0) ∧ W.cell? ⟨w14.heap.size, 2, none⟩ = some (.slice AH 32 cH) ∧ W.cell? ⟨gb, 2, none⟩ = some (.slice AH 32 cH)) := Lib.hid fun W hW =>
    ⟨conv_row _ hrh17 (Nat.le_refl _) W hW, (c3 ((hW.block gt hlt17).trans hzt17)).1, (c3 ((hW.block gt hlt17).trans hzt17)).2.1, (c3 ((hW.block gt hlt17).trans hzt17)).2.2, (c3 ((hW.block _ hlu).trans hzu)).1, (c3 ((hW.block _ hlu).trans hzu)).2.1, (c3 ((hW.block _ hlu).trans hzu)).2.2, (c3 ((hW.block gb hlb17).trans hzb17)).2.2⟩
  rw [hgu] at HF17
  try rw [hgu]
  have HRU := Lib.hid (fun W => right_len (some ⟨g, 0, none⟩) 0 0 4 32 cH AH W (.inl (by omega)))
  have HDG := Lib.hid (fun W (hW : Below w17.heap.size w17 W) => Sh.sum_any w.heap.size ni icap IA img W (HT.out.below (HB17.out.trans (hW.mono HB17.out.size)) HT.out.1) (HI.out.below (HB17.out.trans (hW.mono HB17.out.size))) (Nat.le_trans HB17.out.size hW.size) (by omega))
  have HAWK := Lib.hid (fun W (hW : Below w17.heap.size w17 W) => awake20_any W (HT.out.below (HB17.out.trans (hW.mono HB17.out.size)) HT.out.1))
  have hdl2 := Sha.D_length img
  clear hb17 hzu hlt14 hb1017 hrh17 hzt17 hzb17 hlu hlt17 hlb17 HB14 HZT14 HRT0 HF10 HZ10 HR10 HB10 hgb10 HGG hgu HAI HG1 hu
  by_cases hxb : xb = 0
  · have hx0 : ((xb.toNat : Int) == 0) = true := by rw [hxb]; rfl
    have hbe : (Sha.D img == CrcM.bend (Sha.D img) p xb) = true := by rw [hxb, bend_zero]; exact beq_self_eq_true _
    clear hxb
    have HRG := Lib.hid (fun W (hW : Below w17.heap.size w17 W) => right_any g 0 2 4 32 ni cT (some ⟨gx, 0, none⟩) (CrcM.bend (Sha.D img) p xb) f1 W (HT.out.below (HB17.out.trans (hW.mono HB17.out.size)) HT.out.1) (HF17x.out.below hW) HQ1.out.1 (.inl rfl) rfl hi1 hi2 ((HRT.out.below hW).more hW.size))
    rw [HQ1.out.2, hbe] at HRG
    clear HRT HF17x
    refine wp_region_noPanic ?_
    refine wp_region_held_drew (S := (fun W => Below w17.heap.size w17 W)) (by kernel_rfl) (Below.refl _ _).drew (fun hH0 => ?_)
    have hH0 : Below w17.heap.size w17 w17.drew := hH0
    generalize w17.drew = wd at *
    refine wpAnyH_take (i := 0) (oi := { dst := some 105, op := Op.move (Operand.tmp 9), type := 24, pos := "more.go:34", after := #[], guard := none }) (v := ?tkv901) rfl (by kernel_rfl) (by kernel_rfl) (by kernel_rfl) (fun _ _ _ h => h) (Or.inl ⟨by rfl, ?tky901⟩) hH0 ?tkr901
    case tky901 => (intro w' hSw; clear hSw; go_simp; try with_reducible rfl)
    try simp only [Act.put, List.setIfInBounds_toArray, List.set_cons_zero, List.set_cons_succ]
    refine wpAnyH_take (i := 1) (oi := { dst := some 106, op := Op.move (Operand.tmp 0), type := 3, pos := "more.go:34", after := #[], guard := none }) (v := ?tkv902) rfl (by kernel_rfl) (by kernel_rfl) (by kernel_rfl) (fun _ _ _ h => h) (Or.inl ⟨by rfl, ?tky902⟩) hH0 ?tkr902
    case tky902 => (intro w' hSw; clear hSw; go_simp; try with_reducible rfl)
    try simp only [Act.put, List.setIfInBounds_toArray, List.set_cons_zero, List.set_cons_succ]
    refine wpAnyH_take (i := 2) (oi := { dst := some 107, op := Op.load 33 (Operand.tmp 14), type := 33, pos := "more.go:34", after := #[], guard := none }) (v := ?tkv903) rfl (by kernel_rfl) (by kernel_rfl) (by kernel_rfl) (fun _ _ _ h => h) (Or.inl ⟨by rfl, ?tky903⟩) hH0 ?tkr903
    case tky903 => (intro w' hSw; have z0 := HF17.out _ hSw; clear hSw; go_simp; try with_reducible rfl)
    try simp only [Act.put, List.setIfInBounds_toArray, List.set_cons_zero, List.set_cons_succ]
    refine wpAnyH_take (i := 4) (oi := { dst := some 109, op := Op.move (Operand.tmp 3), type := 5, pos := "more.go:34", after := #[], guard := none }) (v := ?tkv904) rfl (by kernel_rfl) (by kernel_rfl) (by kernel_rfl) (fun _ _ _ h => h) (Or.inl ⟨by rfl, ?tky904⟩) hH0 ?tkr904
    case tky904 => (intro w' hSw; clear hSw; go_simp; try with_reducible rfl)
    try simp only [Act.put, List.setIfInBounds_toArray, List.set_cons_zero, List.set_cons_succ]
    refine wpAnyH_take (i := 5) (oi := { dst := some 110, op := Op.binOp BinOp.eql 5 (Operand.tmp 109) (Operand.const (Value.int IntKind.u8 0)) 5, type := 4, pos := "more.go:34", after := #[{ on := 4, ground := Ground.data }], guard := none }) (v := ?tkv905) rfl (by kernel_rfl) (by kernel_rfl) (by kernel_rfl) (fun _ _ _ h => h) (Or.inl ⟨by rfl, ?tky905⟩) hH0 ?tkr905
    case tky905 => (intro w' hSw; clear hSw; go_simp; try with_reducible rfl)
    try simp only [Act.put, List.setIfInBounds_toArray, List.set_cons_zero, List.set_cons_succ]
    refine wpAnyH_ready (rs := [3]) (by kernel_rfl) (by simp) ?_
    refine AllReadyH.cons (o := { dst := some 108, op := Op.call { callee := Callee.value (Operand.func 17), args := #[Operand.tmp 105, Operand.tmp 106, Operand.tmp 107], argTypes := #[24, 3, 33] }, type := 4, pos := "more.go:34", after := #[{ on := 0, ground := Ground.data }, { on := 1, ground := Ground.data }, { on := 2, ground := Ground.data }], guard := none }) rfl (fun K hK => ?_) AllReadyH.nil
    go_simp
    refine (HRG.out _ hH0).mono ?_
    rintro e' wra ⟨rfl, hbx⟩
    have hb3 := hbx.out
    clear hbx
    go_simp
    refine hK.out _ _ ((hH0).trans (hb3.mono (hH0).size)) (fun hH906 => ?_)
    clear hK K
    try simp only [Act.put, List.setIfInBounds_toArray, List.set_cons_zero, List.set_cons_succ]
    have hG906 : (fun W => Below w17.heap.size w17 W ∧ Below wra.heap.size wra W) wra := ⟨hH906, Below.refl _ _⟩
    refine wpAnyH_grow (S' := (fun W => Below w17.heap.size w17 W ∧ Below wra.heap.size wra W)) (fun _ h => h.1) _ _ _ _ ?_
    refine wpAnyH_take (i := 6) (oi := { dst := some 111, op := Op.binOp BinOp.eql 4 (Operand.tmp 108) (Operand.tmp 110) 4, type := 4, pos := "more.go:34", after := #[{ on := 3, ground := Ground.data }, { on := 5, ground := Ground.data }], guard := none }) (v := ?tkv907) rfl (by kernel_rfl) (by kernel_rfl) (by kernel_rfl) (fun _ _ _ h => h) (Or.inl ⟨by rfl, ?tky907⟩) hG906 ?tkr907
    case tky907 => (intro w' hSw; clear hSw; go_simp; try with_reducible rfl)
    try simp only [Act.put, List.setIfInBounds_toArray, List.set_cons_zero, List.set_cons_succ]
    refine wpAnyH_take (i := 7) (oi := { dst := some 112, op := Op.move (Operand.tmp 111), type := 4, pos := "more.go:34", after := #[{ on := 6, ground := Ground.data }, { on := 3, ground := Ground.chain }], guard := none }) (v := ?tkv908) rfl (by kernel_rfl) (by kernel_rfl) (by kernel_rfl) (fun _ _ _ h => h) (Or.inl ⟨by rfl, ?tky908⟩) hG906 ?tkr908
    case tky908 => (intro w' hSw; clear hSw; go_simp; try with_reducible rfl)
    try simp only [Act.put, List.setIfInBounds_toArray, List.set_cons_zero, List.set_cons_succ]
    refine wpAnyH_take (i := 8) (oi := { dst := some 113, op := Op.move (Operand.tmp 9), type := 24, pos := "more.go:34", after := #[{ on := 7, ground := Ground.guard }], guard := some (7, true) }) (v := ?tkv909) rfl (by kernel_rfl) (by kernel_rfl) (by kernel_rfl) (fun _ _ _ h => h) (Or.inl ⟨by rfl, ?tky909⟩) hG906 ?tkr909
    case tky909 => (intro w' hSw; clear hSw; go_simp; try with_reducible rfl)
    try simp only [Act.put, List.setIfInBounds_toArray, List.set_cons_zero, List.set_cons_succ]
    refine wpAnyH_take (i := 9) (oi := { dst := some 114, op := Op.move (Operand.tmp 0), type := 3, pos := "more.go:34", after := #[{ on := 7, ground := Ground.guard }], guard := some (7, true) }) (v := ?tkv910) rfl (by kernel_rfl) (by kernel_rfl) (by kernel_rfl) (fun _ _ _ h => h) (Or.inl ⟨by rfl, ?tky910⟩) hG906 ?tkr910
    case tky910 => (intro w' hSw; clear hSw; go_simp; try with_reducible rfl)
    try simp only [Act.put, List.setIfInBounds_toArray, List.set_cons_zero, List.set_cons_succ]
    refine wpAnyH_take (i := 10) (oi := { dst := some 115, op := Op.load 33 (Operand.tmp 15), type := 33, pos := "more.go:34", after := #[{ on := 7, ground := Ground.guard }], guard := some (7, true) }) (v := ?tkv911) rfl (by kernel_rfl) (by kernel_rfl) (by kernel_rfl) (fun _ _ _ h => h) (Or.inl ⟨by rfl, ?tky911⟩) hG906 ?tkr911
    case tky911 => (intro w' hSw; have z0 := HF17.out _ hSw.1; clear hSw; go_simp; try with_reducible rfl)
    try simp only [Act.put, List.setIfInBounds_toArray, List.set_cons_zero, List.set_cons_succ]
    refine wpAnyH_ready (rs := [11]) (by kernel_rfl) (by simp) ?_
    refine AllReadyH.cons (o := { dst := some 116, op := Op.call { callee := Callee.value (Operand.func 17), args := #[Operand.tmp 113, Operand.tmp 114, Operand.tmp 115], argTypes := #[24, 3, 33] }, type := 4, pos := "more.go:34", after := #[{ on := 8, ground := Ground.data }, { on := 9, ground := Ground.data }, { on := 10, ground := Ground.data }, { on := 7, ground := Ground.chain }, { on := 7, ground := Ground.guard }], guard := some (7, true) }) rfl (fun K hK => ?_) AllReadyH.nil
    go_simp
    refine (HRU.out _).mono ?_
    rintro e' wru ⟨rfl, hbx⟩
    have hb11 := hbx.out
    clear hbx
    go_simp
    refine hK.out _ _ (⟨(hG906.1).trans (hb11.mono (hG906.1).size), (hG906.2).trans (hb11.mono (hG906.2).size)⟩) (fun hH912 => ?_)
    clear hK K
    try simp only [Act.put, List.setIfInBounds_toArray, List.set_cons_zero, List.set_cons_succ]
    have hG912 : (fun W => Below w17.heap.size w17 W ∧ Below wra.heap.size wra W ∧ Below wru.heap.size wru W) wru := ⟨hH912.1, hH912.2, Below.refl _ _⟩
    refine wpAnyH_grow (S' := (fun W => Below w17.heap.size w17 W ∧ Below wra.heap.size wra W ∧ Below wru.heap.size wru W)) (fun _ h => ⟨h.1, h.2.1⟩) _ _ _ _ ?_
    refine wpAnyH_take (i := 12) (oi := { dst := some 117, op := Op.unOp UnOp.not 4 (Operand.tmp 116), type := 4, pos := "more.go:34", after := #[{ on := 11, ground := Ground.data }, { on := 7, ground := Ground.guard }], guard := some (7, true) }) (v := ?tkv913) rfl (by kernel_rfl) (by kernel_rfl) (by kernel_rfl) (fun _ _ _ h => h) (Or.inl ⟨by rfl, ?tky913⟩) hG912 ?tkr913
    case tky913 => (intro w' hSw; clear hSw; go_simp; try with_reducible rfl)
    try simp only [Act.put, List.setIfInBounds_toArray, List.set_cons_zero, List.set_cons_succ]
    refine wpAnyH_take (i := 13) (oi := { dst := some 118, op := Op.pick (Operand.tmp 112) (Operand.tmp 117) (Operand.const (Value.bool false)), type := 4, pos := "more.go:34", after := #[{ on := 7, ground := Ground.data }, { on := 12, ground := Ground.data }], guard := none }) (v := ?tkv914) rfl (by kernel_rfl) (by kernel_rfl) (by kernel_rfl) (fun _ _ _ h => h) (Or.inl ⟨by rfl, ?tky914⟩) hG912 ?tkr914
    case tky914 => (intro w' hSw; clear hSw; go_simp; try with_reducible rfl)
    try simp only [Act.put, List.setIfInBounds_toArray, List.set_cons_zero, List.set_cons_succ]
    refine wpAnyH_take (i := 14) (oi := { dst := some 119, op := Op.move (Operand.tmp 118), type := 4, pos := "more.go:34", after := #[{ on := 13, ground := Ground.data }, { on := 11, ground := Ground.chain }], guard := none }) (v := ?tkv915) rfl (by kernel_rfl) (by kernel_rfl) (by kernel_rfl) (fun _ _ _ h => h) (Or.inl ⟨by rfl, ?tky915⟩) hG912 ?tkr915
    case tky915 => (intro w' hSw; clear hSw; go_simp; try with_reducible rfl)
    try simp only [Act.put, List.setIfInBounds_toArray, List.set_cons_zero, List.set_cons_succ]
    refine wpAnyH_take (i := 15) (oi := { dst := some 120, op := Op.fieldAddr 33 (Operand.tmp 12) 2, type := 0, pos := "more.go:34", after := #[{ on := 14, ground := Ground.guard }], guard := some (14, true) }) (v := ?tkv916) rfl (by kernel_rfl) (by kernel_rfl) (by kernel_rfl) (fun _ _ _ h => h) (Or.inl ⟨by rfl, ?tky916⟩) hG912 ?tkr916
    case tky916 => (intro w' hSw; clear hSw; go_simp; try with_reducible rfl)
    try simp only [Act.put, List.setIfInBounds_toArray, List.set_cons_zero, List.set_cons_succ]
    refine wpAnyH_take (i := 16) (oi := { dst := some 121, op := Op.load 28 (Operand.tmp 120), type := 28, pos := "more.go:34", after := #[{ on := 15, ground := Ground.data }, { on := 14, ground := Ground.guard }], guard := some (14, true) }) (v := ?tkv917) rfl (by kernel_rfl) (by kernel_rfl) (by kernel_rfl) (fun _ _ _ h => h) (Or.inl ⟨by rfl, ?tky917⟩) hG912 ?tkr917
    case tky917 => (intro w' hSw; have z0 := HF17.out _ hSw.1; clear hSw; go_simp; try with_reducible rfl)
    try simp only [Act.put, List.setIfInBounds_toArray, List.set_cons_zero, List.set_cons_succ]
    refine wpAnyH_take (i := 17) (oi := { dst := some 122, op := Op.convert 28 9 (Operand.tmp 121), type := 9, pos := "more.go:34", after := #[{ on := 16, ground := Ground.data }, { on := 14, ground := Ground.guard }], guard := some (14, true) }) (v := ?tkv918) rfl (by kernel_rfl) (by kernel_rfl) (by kernel_rfl) (fun _ _ _ h => h) (Or.inl ⟨by rfl, ?tky918⟩) hG912 ?tkr918
    case tky918 => (intro w' hSw; have z0 := HF17.out _ hSw.1; clear hSw; go_simp; try with_reducible rfl)
    try simp only [Act.put, List.setIfInBounds_toArray, List.set_cons_zero, List.set_cons_succ]
    refine wpAnyH_take (i := 18) (oi := { dst := some 123, op := Op.move (Operand.tmp 1), type := 28, pos := "more.go:34", after := #[{ on := 14, ground := Ground.guard }], guard := some (14, true) }) (v := ?tkv919) rfl (by kernel_rfl) (by kernel_rfl) (by kernel_rfl) (fun _ _ _ h => h) (Or.inl ⟨by rfl, ?tky919⟩) hG912 ?tkr919
    case tky919 => (intro w' hSw; clear hSw; go_simp; try with_reducible rfl)
    try simp only [Act.put, List.setIfInBounds_toArray, List.set_cons_zero, List.set_cons_succ]
    refine wpAnyH_ready (rs := [19]) (by kernel_rfl) (by simp) ?_
    refine AllReadyH.cons (o := { dst := some 124, op := Op.call { callee := Callee.value (Operand.func 28), args := #[Operand.tmp 123], argTypes := #[28] }, type := 28, pos := "more.go:34", after := #[{ on := 18, ground := Ground.data }, { on := 14, ground := Ground.chain }, { on := 14, ground := Ground.guard }], guard := some (14, true) }) rfl (fun K hK => ?_) AllReadyH.nil
    go_simp
    refine (HDG.out _ hG912.1).mono ?_
    rintro e' wdg ⟨Ad, cd, rfl, hod, hbx⟩
    have hb19 := hbx.out
    have HKD := Lib.hid (conv_own cd hod.out)
    clear hbx hod
    go_simp
    refine hK.out _ _ (⟨(hG912.1).trans (hb19.mono (hG912.1).size), (hG912.2.1).trans (hb19.mono (hG912.2.1).size), (hG912.2.2).trans (hb19.mono (hG912.2.2).size)⟩) (fun hH920 => ?_)
    clear hK K
    try simp only [Act.put, List.setIfInBounds_toArray, List.set_cons_zero, List.set_cons_succ]
    have hG920 : (fun W => Below w17.heap.size w17 W ∧ Below wra.heap.size wra W ∧ Below wru.heap.size wru W ∧ Below wdg.heap.size wdg W) wdg := ⟨hH920.1, hH920.2.1, hH920.2.2, Below.refl _ _⟩
    refine wpAnyH_grow (S' := (fun W => Below w17.heap.size w17 W ∧ Below wra.heap.size wra W ∧ Below wru.heap.size wru W ∧ Below wdg.heap.size wdg W)) (fun _ h => ⟨h.1, h.2.1, h.2.2.1⟩) _ _ _ _ ?_
    refine wpAnyH_take (i := 20) (oi := { dst := some 125, op := Op.convert 28 9 (Operand.tmp 124), type := 9, pos := "more.go:34", after := #[{ on := 19, ground := Ground.data }, { on := 14, ground := Ground.guard }], guard := some (14, true) }) (v := ?tkv921) rfl (by kernel_rfl) (by kernel_rfl) (by kernel_rfl) (fun _ _ _ h => h) (Or.inl ⟨by rfl, ?tky921⟩) hG920 ?tkr921
    case tky921 => (intro w' hSw; have z0 := HF17.out _ hSw.1; have z1 := HKD.out _ hSw.2.2.2; clear hSw; go_simp; try with_reducible rfl)
    try simp only [Act.put, List.setIfInBounds_toArray, List.set_cons_zero, List.set_cons_succ]
    refine wpAnyH_take (i := 21) (oi := { dst := some 126, op := Op.binOp BinOp.eql 9 (Operand.tmp 122) (Operand.tmp 125) 9, type := 4, pos := "more.go:34", after := #[{ on := 17, ground := Ground.data }, { on := 20, ground := Ground.data }, { on := 14, ground := Ground.guard }], guard := some (14, true) }) (v := ?tkv922) rfl (by kernel_rfl) (by kernel_rfl) (by kernel_rfl) (fun _ _ _ h => h) (Or.inl ⟨by rfl, ?tky922⟩) hG920 ?tkr922
    case tky922 => (intro w' hSw; clear hSw; go_simp; try with_reducible rfl)
    try simp only [Act.put, List.setIfInBounds_toArray, List.set_cons_zero, List.set_cons_succ]
    refine wpAnyH_take (i := 22) (oi := { dst := some 127, op := Op.pick (Operand.tmp 119) (Operand.tmp 126) (Operand.const (Value.bool false)), type := 4, pos := "more.go:34", after := #[{ on := 14, ground := Ground.data }, { on := 21, ground := Ground.data }], guard := none }) (v := ?tkv923) rfl (by kernel_rfl) (by kernel_rfl) (by kernel_rfl) (fun _ _ _ h => h) (Or.inl ⟨by rfl, ?tky923⟩) hG920 ?tkr923
    case tky923 => (intro w' hSw; clear hSw; go_simp; try with_reducible rfl)
    try simp only [Act.put, List.setIfInBounds_toArray, List.set_cons_zero, List.set_cons_succ]
    refine wpAnyH_take (i := 23) (oi := { dst := some 128, op := Op.move (Operand.tmp 127), type := 4, pos := "more.go:34", after := #[{ on := 22, ground := Ground.data }, { on := 19, ground := Ground.chain }], guard := none }) (v := ?tkv924) rfl (by kernel_rfl) (by kernel_rfl) (by kernel_rfl) (fun _ _ _ h => h) (Or.inl ⟨by rfl, ?tky924⟩) hG920 ?tkr924
    case tky924 => (intro w' hSw; clear hSw; go_simp; try with_reducible rfl)
    try simp only [Act.put, List.setIfInBounds_toArray, List.set_cons_zero, List.set_cons_succ]
    refine wpAnyH_ready (rs := [24]) (by kernel_rfl) (by simp) ?_
    refine AllReadyH.cons (o := { dst := some 129, op := Op.call { callee := Callee.value (Operand.func 10), args := #[], argTypes := #[] }, type := 4, pos := "more.go:34", after := #[{ on := 23, ground := Ground.chain }, { on := 23, ground := Ground.guard }], guard := some (23, true) }) rfl (fun K hK => ?_) AllReadyH.nil
    go_simp
    refine (HAWK.out _ hG920.1).mono ?_
    rintro e' wak ⟨rfl, hb24⟩
    go_simp
    refine hK.out _ _ (⟨(hG920.1).trans (hb24.mono (hG920.1).size), (hG920.2.1).trans (hb24.mono (hG920.2.1).size), (hG920.2.2.1).trans (hb24.mono (hG920.2.2.1).size), (hG920.2.2.2).trans (hb24.mono (hG920.2.2.2).size)⟩) (fun hH925 => ?_)
    clear hK K
    try simp only [Act.put, List.setIfInBounds_toArray, List.set_cons_zero, List.set_cons_succ]
    have hG925 : (fun W => Below w17.heap.size w17 W ∧ Below wra.heap.size wra W ∧ Below wru.heap.size wru W ∧ Below wdg.heap.size wdg W ∧ Below wak.heap.size wak W) wak := ⟨hH925.1, hH925.2.1, hH925.2.2.1, hH925.2.2.2, Below.refl _ _⟩
    refine wpAnyH_grow (S' := (fun W => Below w17.heap.size w17 W ∧ Below wra.heap.size wra W ∧ Below wru.heap.size wru W ∧ Below wdg.heap.size wdg W ∧ Below wak.heap.size wak W)) (fun _ h => ⟨h.1, h.2.1, h.2.2.1, h.2.2.2.1⟩) _ _ _ _ ?_
    refine wpAnyH_take (i := 25) (oi := { dst := some 130, op := Op.pick (Operand.tmp 128) (Operand.tmp 129) (Operand.const (Value.bool false)), type := 4, pos := "more.go:34", after := #[{ on := 23, ground := Ground.data }, { on := 24, ground := Ground.data }], guard := none }) (v := ?tkv926) rfl (by kernel_rfl) (by kernel_rfl) (by kernel_rfl) (fun _ _ _ h => h) (Or.inl ⟨by rfl, ?tky926⟩) hG925 ?tkr926
    case tky926 => (intro w' hSw; clear hSw; go_simp; try with_reducible rfl)
    try simp only [Act.put, List.setIfInBounds_toArray, List.set_cons_zero, List.set_cons_succ]
    refine wpAnyH_take (i := 26) (oi := { dst := some 8, op := Op.assign (Operand.tmp 130), type := 4, pos := "more.go:34", after := #[{ on := 25, ground := Ground.data }, { on := 24, ground := Ground.chain }, { on := 0, ground := Ground.phase }, { on := 1, ground := Ground.phase }, { on := 2, ground := Ground.phase }, { on := 3, ground := Ground.phase }, { on := 4, ground := Ground.phase }, { on := 5, ground := Ground.phase }, { on := 6, ground := Ground.phase }, { on := 7, ground := Ground.phase }, { on := 8, ground := Ground.phase }, { on := 9, ground := Ground.phase }, { on := 10, ground := Ground.phase }, { on := 11, ground := Ground.phase }, { on := 12, ground := Ground.phase }, { on := 13, ground := Ground.phase }, { on := 14, ground := Ground.phase }, { on := 15, ground := Ground.phase }, { on := 16, ground := Ground.phase }, { on := 17, ground := Ground.phase }, { on := 18, ground := Ground.phase }, { on := 19, ground := Ground.phase }, { on := 20, ground := Ground.phase }, { on := 21, ground := Ground.phase }, { on := 22, ground := Ground.phase }, { on := 23, ground := Ground.phase }, { on := 24, ground := Ground.phase }, { on := 25, ground := Ground.phase }], guard := none }) (v := ?tkv927) rfl (by kernel_rfl) (by kernel_rfl) (by kernel_rfl) (fun _ _ _ h => h) (Or.inl ⟨by rfl, ?tky927⟩) hG925 ?tkr927
    case tky927 => (intro w' hSw; clear hSw; go_simp; try with_reducible rfl)
    try simp only [Act.put, List.setIfInBounds_toArray, List.set_cons_zero, List.set_cons_succ]
    refine wpAnyH_done (by kernel_rfl) ?_ _
    refine NoPanic.normal ?_
    have hEnd : Below w17.heap.size w17 _ := hG925.1
    have HE := Lib.hid (HB17.out.trans (hEnd.mono HB17.out.size))
    go_wp2_with fail
    go_ret
    exact ⟨rfl, HE.out⟩
  · have hx0 : ((xb.toNat : Int) == 0) = false := beq_eq_false_iff_ne.2 fun e => hxb (CrcM.u8_zero _ (by omega))
    have hbe : (Sha.D img == CrcM.bend (Sha.D img) p xb) = false := beq_eq_false_iff_ne.2 fun e => hxb (bend_ne _ _ _ (by rw [hdl2]; omega) e.symm)
    clear hxb
    have HRG := Lib.hid (fun W (hW : Below w17.heap.size w17 W) => right_any g 0 2 4 32 ni cT (some ⟨gx, 0, none⟩) (CrcM.bend (Sha.D img) p xb) f1 W (HT.out.below (HB17.out.trans (hW.mono HB17.out.size)) HT.out.1) (HF17x.out.below hW) HQ1.out.1 (.inl rfl) rfl hi1 hi2 ((HRT.out.below hW).more hW.size))
    rw [HQ1.out.2, hbe] at HRG
    clear HRT HF17x
    refine wp_region_noPanic ?_
    refine wp_region_held_drew (S := (fun W => Below w17.heap.size w17 W)) (by kernel_rfl) (Below.refl _ _).drew (fun hH0 => ?_)
    have hH0 : Below w17.heap.size w17 w17.drew := hH0
    generalize w17.drew = wd at *
    refine wpAnyH_take (i := 0) (oi := { dst := some 105, op := Op.move (Operand.tmp 9), type := 24, pos := "more.go:34", after := #[], guard := none }) (v := ?tkv2901) rfl (by kernel_rfl) (by kernel_rfl) (by kernel_rfl) (fun _ _ _ h => h) (Or.inl ⟨by rfl, ?tky2901⟩) hH0 ?tkr2901
    case tky2901 => (intro w' hSw; clear hSw; go_simp; try with_reducible rfl)
    try simp only [Act.put, List.setIfInBounds_toArray, List.set_cons_zero, List.set_cons_succ]
    refine wpAnyH_take (i := 1) (oi := { dst := some 106, op := Op.move (Operand.tmp 0), type := 3, pos := "more.go:34", after := #[], guard := none }) (v := ?tkv2902) rfl (by kernel_rfl) (by kernel_rfl) (by kernel_rfl) (fun _ _ _ h => h) (Or.inl ⟨by rfl, ?tky2902⟩) hH0 ?tkr2902
    case tky2902 => (intro w' hSw; clear hSw; go_simp; try with_reducible rfl)
    try simp only [Act.put, List.setIfInBounds_toArray, List.set_cons_zero, List.set_cons_succ]
    refine wpAnyH_take (i := 2) (oi := { dst := some 107, op := Op.load 33 (Operand.tmp 14), type := 33, pos := "more.go:34", after := #[], guard := none }) (v := ?tkv2903) rfl (by kernel_rfl) (by kernel_rfl) (by kernel_rfl) (fun _ _ _ h => h) (Or.inl ⟨by rfl, ?tky2903⟩) hH0 ?tkr2903
    case tky2903 => (intro w' hSw; have z0 := HF17.out _ hSw; clear hSw; go_simp; try with_reducible rfl)
    try simp only [Act.put, List.setIfInBounds_toArray, List.set_cons_zero, List.set_cons_succ]
    refine wpAnyH_take (i := 4) (oi := { dst := some 109, op := Op.move (Operand.tmp 3), type := 5, pos := "more.go:34", after := #[], guard := none }) (v := ?tkv2904) rfl (by kernel_rfl) (by kernel_rfl) (by kernel_rfl) (fun _ _ _ h => h) (Or.inl ⟨by rfl, ?tky2904⟩) hH0 ?tkr2904
    case tky2904 => (intro w' hSw; clear hSw; go_simp; try with_reducible rfl)
    try simp only [Act.put, List.setIfInBounds_toArray, List.set_cons_zero, List.set_cons_succ]
    refine wpAnyH_take (i := 5) (oi := { dst := some 110, op := Op.binOp BinOp.eql 5 (Operand.tmp 109) (Operand.const (Value.int IntKind.u8 0)) 5, type := 4, pos := "more.go:34", after := #[{ on := 4, ground := Ground.data }], guard := none }) (v := ?tkv2905) rfl (by kernel_rfl) (by kernel_rfl) (by kernel_rfl) (fun _ _ _ h => h) (Or.inl ⟨by rfl, ?tky2905⟩) hH0 ?tkr2905
    case tky2905 => (intro w' hSw; clear hSw; go_simp; try with_reducible rfl)
    try simp only [Act.put, List.setIfInBounds_toArray, List.set_cons_zero, List.set_cons_succ]
    refine wpAnyH_ready (rs := [3]) (by kernel_rfl) (by simp) ?_
    refine AllReadyH.cons (o := { dst := some 108, op := Op.call { callee := Callee.value (Operand.func 17), args := #[Operand.tmp 105, Operand.tmp 106, Operand.tmp 107], argTypes := #[24, 3, 33] }, type := 4, pos := "more.go:34", after := #[{ on := 0, ground := Ground.data }, { on := 1, ground := Ground.data }, { on := 2, ground := Ground.data }], guard := none }) rfl (fun K hK => ?_) AllReadyH.nil
    go_simp
    refine (HRG.out _ hH0).mono ?_
    rintro e' wra ⟨rfl, hbx⟩
    have hb3 := hbx.out
    clear hbx
    go_simp
    refine hK.out _ _ ((hH0).trans (hb3.mono (hH0).size)) (fun hH2906 => ?_)
    clear hK K
    try simp only [Act.put, List.setIfInBounds_toArray, List.set_cons_zero, List.set_cons_succ]
    have hG2906 : (fun W => Below w17.heap.size w17 W ∧ Below wra.heap.size wra W) wra := ⟨hH2906, Below.refl _ _⟩
    refine wpAnyH_grow (S' := (fun W => Below w17.heap.size w17 W ∧ Below wra.heap.size wra W)) (fun _ h => h.1) _ _ _ _ ?_
    refine wpAnyH_take (i := 6) (oi := { dst := some 111, op := Op.binOp BinOp.eql 4 (Operand.tmp 108) (Operand.tmp 110) 4, type := 4, pos := "more.go:34", after := #[{ on := 3, ground := Ground.data }, { on := 5, ground := Ground.data }], guard := none }) (v := ?tkv2907) rfl (by kernel_rfl) (by kernel_rfl) (by kernel_rfl) (fun _ _ _ h => h) (Or.inl ⟨by rfl, ?tky2907⟩) hG2906 ?tkr2907
    case tky2907 => (intro w' hSw; clear hSw; go_simp; try with_reducible rfl)
    try simp only [Act.put, List.setIfInBounds_toArray, List.set_cons_zero, List.set_cons_succ]
    refine wpAnyH_take (i := 7) (oi := { dst := some 112, op := Op.move (Operand.tmp 111), type := 4, pos := "more.go:34", after := #[{ on := 6, ground := Ground.data }, { on := 3, ground := Ground.chain }], guard := none }) (v := ?tkv2908) rfl (by kernel_rfl) (by kernel_rfl) (by kernel_rfl) (fun _ _ _ h => h) (Or.inl ⟨by rfl, ?tky2908⟩) hG2906 ?tkr2908
    case tky2908 => (intro w' hSw; clear hSw; go_simp; try with_reducible rfl)
    try simp only [Act.put, List.setIfInBounds_toArray, List.set_cons_zero, List.set_cons_succ]
    refine wpAnyH_take (i := 8) (oi := { dst := some 113, op := Op.move (Operand.tmp 9), type := 24, pos := "more.go:34", after := #[{ on := 7, ground := Ground.guard }], guard := some (7, true) }) (v := ?tkv2909) rfl (by kernel_rfl) (by kernel_rfl) (by kernel_rfl) (fun _ _ _ h => h) (Or.inl ⟨by rfl, ?tky2909⟩) hG2906 ?tkr2909
    case tky2909 => (intro w' hSw; clear hSw; go_simp; try with_reducible rfl)
    try simp only [Act.put, List.setIfInBounds_toArray, List.set_cons_zero, List.set_cons_succ]
    refine wpAnyH_take (i := 9) (oi := { dst := some 114, op := Op.move (Operand.tmp 0), type := 3, pos := "more.go:34", after := #[{ on := 7, ground := Ground.guard }], guard := some (7, true) }) (v := ?tkv2910) rfl (by kernel_rfl) (by kernel_rfl) (by kernel_rfl) (fun _ _ _ h => h) (Or.inl ⟨by rfl, ?tky2910⟩) hG2906 ?tkr2910
    case tky2910 => (intro w' hSw; clear hSw; go_simp; try with_reducible rfl)
    try simp only [Act.put, List.setIfInBounds_toArray, List.set_cons_zero, List.set_cons_succ]
    refine wpAnyH_take (i := 10) (oi := { dst := some 115, op := Op.load 33 (Operand.tmp 15), type := 33, pos := "more.go:34", after := #[{ on := 7, ground := Ground.guard }], guard := some (7, true) }) (v := ?tkv2911) rfl (by kernel_rfl) (by kernel_rfl) (by kernel_rfl) (fun _ _ _ h => h) (Or.inl ⟨by rfl, ?tky2911⟩) hG2906 ?tkr2911
    case tky2911 => (intro w' hSw; have z0 := HF17.out _ hSw.1; clear hSw; go_simp; try with_reducible rfl)
    try simp only [Act.put, List.setIfInBounds_toArray, List.set_cons_zero, List.set_cons_succ]
    refine wpAnyH_ready (rs := [11]) (by kernel_rfl) (by simp) ?_
    refine AllReadyH.cons (o := { dst := some 116, op := Op.call { callee := Callee.value (Operand.func 17), args := #[Operand.tmp 113, Operand.tmp 114, Operand.tmp 115], argTypes := #[24, 3, 33] }, type := 4, pos := "more.go:34", after := #[{ on := 8, ground := Ground.data }, { on := 9, ground := Ground.data }, { on := 10, ground := Ground.data }, { on := 7, ground := Ground.chain }, { on := 7, ground := Ground.guard }], guard := some (7, true) }) rfl (fun K hK => ?_) AllReadyH.nil
    go_simp
    refine (HRU.out _).mono ?_
    rintro e' wru ⟨rfl, hbx⟩
    have hb11 := hbx.out
    clear hbx
    go_simp
    refine hK.out _ _ (⟨(hG2906.1).trans (hb11.mono (hG2906.1).size), (hG2906.2).trans (hb11.mono (hG2906.2).size)⟩) (fun hH2912 => ?_)
    clear hK K
    try simp only [Act.put, List.setIfInBounds_toArray, List.set_cons_zero, List.set_cons_succ]
    have hG2912 : (fun W => Below w17.heap.size w17 W ∧ Below wra.heap.size wra W ∧ Below wru.heap.size wru W) wru := ⟨hH2912.1, hH2912.2, Below.refl _ _⟩
    refine wpAnyH_grow (S' := (fun W => Below w17.heap.size w17 W ∧ Below wra.heap.size wra W ∧ Below wru.heap.size wru W)) (fun _ h => ⟨h.1, h.2.1⟩) _ _ _ _ ?_
    refine wpAnyH_take (i := 12) (oi := { dst := some 117, op := Op.unOp UnOp.not 4 (Operand.tmp 116), type := 4, pos := "more.go:34", after := #[{ on := 11, ground := Ground.data }, { on := 7, ground := Ground.guard }], guard := some (7, true) }) (v := ?tkv2913) rfl (by kernel_rfl) (by kernel_rfl) (by kernel_rfl) (fun _ _ _ h => h) (Or.inl ⟨by rfl, ?tky2913⟩) hG2912 ?tkr2913
    case tky2913 => (intro w' hSw; clear hSw; go_simp; try with_reducible rfl)
    try simp only [Act.put, List.setIfInBounds_toArray, List.set_cons_zero, List.set_cons_succ]
    refine wpAnyH_take (i := 13) (oi := { dst := some 118, op := Op.pick (Operand.tmp 112) (Operand.tmp 117) (Operand.const (Value.bool false)), type := 4, pos := "more.go:34", after := #[{ on := 7, ground := Ground.data }, { on := 12, ground := Ground.data }], guard := none }) (v := ?tkv2914) rfl (by kernel_rfl) (by kernel_rfl) (by kernel_rfl) (fun _ _ _ h => h) (Or.inl ⟨by rfl, ?tky2914⟩) hG2912 ?tkr2914
    case tky2914 => (intro w' hSw; clear hSw; go_simp; try with_reducible rfl)
    try simp only [Act.put, List.setIfInBounds_toArray, List.set_cons_zero, List.set_cons_succ]
    refine wpAnyH_take (i := 14) (oi := { dst := some 119, op := Op.move (Operand.tmp 118), type := 4, pos := "more.go:34", after := #[{ on := 13, ground := Ground.data }, { on := 11, ground := Ground.chain }], guard := none }) (v := ?tkv2915) rfl (by kernel_rfl) (by kernel_rfl) (by kernel_rfl) (fun _ _ _ h => h) (Or.inl ⟨by rfl, ?tky2915⟩) hG2912 ?tkr2915
    case tky2915 => (intro w' hSw; clear hSw; go_simp; try with_reducible rfl)
    try simp only [Act.put, List.setIfInBounds_toArray, List.set_cons_zero, List.set_cons_succ]
    refine wpAnyH_take (i := 15) (oi := { dst := some 120, op := Op.fieldAddr 33 (Operand.tmp 12) 2, type := 0, pos := "more.go:34", after := #[{ on := 14, ground := Ground.guard }], guard := some (14, true) }) (v := ?tkv2916) rfl (by kernel_rfl) (by kernel_rfl) (by kernel_rfl) (fun _ _ _ h => h) (Or.inl ⟨by rfl, ?tky2916⟩) hG2912 ?tkr2916
    case tky2916 => (intro w' hSw; clear hSw; go_simp; try with_reducible rfl)
    try simp only [Act.put, List.setIfInBounds_toArray, List.set_cons_zero, List.set_cons_succ]
    refine wpAnyH_take (i := 16) (oi := { dst := some 121, op := Op.load 28 (Operand.tmp 120), type := 28, pos := "more.go:34", after := #[{ on := 15, ground := Ground.data }, { on := 14, ground := Ground.guard }], guard := some (14, true) }) (v := ?tkv2917) rfl (by kernel_rfl) (by kernel_rfl) (by kernel_rfl) (fun _ _ _ h => h) (Or.inl ⟨by rfl, ?tky2917⟩) hG2912 ?tkr2917
    case tky2917 => (intro w' hSw; have z0 := HF17.out _ hSw.1; clear hSw; go_simp; try with_reducible rfl)
    try simp only [Act.put, List.setIfInBounds_toArray, List.set_cons_zero, List.set_cons_succ]
    refine wpAnyH_take (i := 17) (oi := { dst := some 122, op := Op.convert 28 9 (Operand.tmp 121), type := 9, pos := "more.go:34", after := #[{ on := 16, ground := Ground.data }, { on := 14, ground := Ground.guard }], guard := some (14, true) }) (v := ?tkv2918) rfl (by kernel_rfl) (by kernel_rfl) (by kernel_rfl) (fun _ _ _ h => h) (Or.inl ⟨by rfl, ?tky2918⟩) hG2912 ?tkr2918
    case tky2918 => (intro w' hSw; have z0 := HF17.out _ hSw.1; clear hSw; go_simp; try with_reducible rfl)
    try simp only [Act.put, List.setIfInBounds_toArray, List.set_cons_zero, List.set_cons_succ]
    refine wpAnyH_take (i := 18) (oi := { dst := some 123, op := Op.move (Operand.tmp 1), type := 28, pos := "more.go:34", after := #[{ on := 14, ground := Ground.guard }], guard := some (14, true) }) (v := ?tkv2919) rfl (by kernel_rfl) (by kernel_rfl) (by kernel_rfl) (fun _ _ _ h => h) (Or.inl ⟨by rfl, ?tky2919⟩) hG2912 ?tkr2919
    case tky2919 => (intro w' hSw; clear hSw; go_simp; try with_reducible rfl)
    try simp only [Act.put, List.setIfInBounds_toArray, List.set_cons_zero, List.set_cons_succ]
    refine wpAnyH_ready (rs := [19]) (by kernel_rfl) (by simp) ?_
    refine AllReadyH.cons (o := { dst := some 124, op := Op.call { callee := Callee.value (Operand.func 28), args := #[Operand.tmp 123], argTypes := #[28] }, type := 28, pos := "more.go:34", after := #[{ on := 18, ground := Ground.data }, { on := 14, ground := Ground.chain }, { on := 14, ground := Ground.guard }], guard := some (14, true) }) rfl (fun K hK => ?_) AllReadyH.nil
    go_simp
    refine (HDG.out _ hG2912.1).mono ?_
    rintro e' wdg ⟨Ad, cd, rfl, hod, hbx⟩
    have hb19 := hbx.out
    have HKD := Lib.hid (conv_own cd hod.out)
    clear hbx hod
    go_simp
    refine hK.out _ _ (⟨(hG2912.1).trans (hb19.mono (hG2912.1).size), (hG2912.2.1).trans (hb19.mono (hG2912.2.1).size), (hG2912.2.2).trans (hb19.mono (hG2912.2.2).size)⟩) (fun hH2920 => ?_)
    clear hK K
    try simp only [Act.put, List.setIfInBounds_toArray, List.set_cons_zero, List.set_cons_succ]
    have hG2920 : (fun W => Below w17.heap.size w17 W ∧ Below wra.heap.size wra W ∧ Below wru.heap.size wru W ∧ Below wdg.heap.size wdg W) wdg := ⟨hH2920.1, hH2920.2.1, hH2920.2.2, Below.refl _ _⟩
    refine wpAnyH_grow (S' := (fun W => Below w17.heap.size w17 W ∧ Below wra.heap.size wra W ∧ Below wru.heap.size wru W ∧ Below wdg.heap.size wdg W)) (fun _ h => ⟨h.1, h.2.1, h.2.2.1⟩) _ _ _ _ ?_
    refine wpAnyH_take (i := 20) (oi := { dst := some 125, op := Op.convert 28 9 (Operand.tmp 124), type := 9, pos := "more.go:34", after := #[{ on := 19, ground := Ground.data }, { on := 14, ground := Ground.guard }], guard := some (14, true) }) (v := ?tkv2921) rfl (by kernel_rfl) (by kernel_rfl) (by kernel_rfl) (fun _ _ _ h => h) (Or.inl ⟨by rfl, ?tky2921⟩) hG2920 ?tkr2921
    case tky2921 => (intro w' hSw; have z0 := HF17.out _ hSw.1; have z1 := HKD.out _ hSw.2.2.2; clear hSw; go_simp; try with_reducible rfl)
    try simp only [Act.put, List.setIfInBounds_toArray, List.set_cons_zero, List.set_cons_succ]
    refine wpAnyH_take (i := 21) (oi := { dst := some 126, op := Op.binOp BinOp.eql 9 (Operand.tmp 122) (Operand.tmp 125) 9, type := 4, pos := "more.go:34", after := #[{ on := 17, ground := Ground.data }, { on := 20, ground := Ground.data }, { on := 14, ground := Ground.guard }], guard := some (14, true) }) (v := ?tkv2922) rfl (by kernel_rfl) (by kernel_rfl) (by kernel_rfl) (fun _ _ _ h => h) (Or.inl ⟨by rfl, ?tky2922⟩) hG2920 ?tkr2922
    case tky2922 => (intro w' hSw; clear hSw; go_simp; try with_reducible rfl)
    try simp only [Act.put, List.setIfInBounds_toArray, List.set_cons_zero, List.set_cons_succ]
    refine wpAnyH_take (i := 22) (oi := { dst := some 127, op := Op.pick (Operand.tmp 119) (Operand.tmp 126) (Operand.const (Value.bool false)), type := 4, pos := "more.go:34", after := #[{ on := 14, ground := Ground.data }, { on := 21, ground := Ground.data }], guard := none }) (v := ?tkv2923) rfl (by kernel_rfl) (by kernel_rfl) (by kernel_rfl) (fun _ _ _ h => h) (Or.inl ⟨by rfl, ?tky2923⟩) hG2920 ?tkr2923
    case tky2923 => (intro w' hSw; clear hSw; go_simp; try with_reducible rfl)
    try simp only [Act.put, List.setIfInBounds_toArray, List.set_cons_zero, List.set_cons_succ]
    refine wpAnyH_take (i := 23) (oi := { dst := some 128, op := Op.move (Operand.tmp 127), type := 4, pos := "more.go:34", after := #[{ on := 22, ground := Ground.data }, { on := 19, ground := Ground.chain }], guard := none }) (v := ?tkv2924) rfl (by kernel_rfl) (by kernel_rfl) (by kernel_rfl) (fun _ _ _ h => h) (Or.inl ⟨by rfl, ?tky2924⟩) hG2920 ?tkr2924
    case tky2924 => (intro w' hSw; clear hSw; go_simp; try with_reducible rfl)
    try simp only [Act.put, List.setIfInBounds_toArray, List.set_cons_zero, List.set_cons_succ]
    refine wpAnyH_ready (rs := [24]) (by kernel_rfl) (by simp) ?_
    refine AllReadyH.cons (o := { dst := some 129, op := Op.call { callee := Callee.value (Operand.func 10), args := #[], argTypes := #[] }, type := 4, pos := "more.go:34", after := #[{ on := 23, ground := Ground.chain }, { on := 23, ground := Ground.guard }], guard := some (23, true) }) rfl (fun K hK => ?_) AllReadyH.nil
    go_simp
    refine (HAWK.out _ hG2920.1).mono ?_
    rintro e' wak ⟨rfl, hb24⟩
    go_simp
    refine hK.out _ _ (⟨(hG2920.1).trans (hb24.mono (hG2920.1).size), (hG2920.2.1).trans (hb24.mono (hG2920.2.1).size), (hG2920.2.2.1).trans (hb24.mono (hG2920.2.2.1).size), (hG2920.2.2.2).trans (hb24.mono (hG2920.2.2.2).size)⟩) (fun hH2925 => ?_)
    clear hK K
    try simp only [Act.put, List.setIfInBounds_toArray, List.set_cons_zero, List.set_cons_succ]
    have hG2925 : (fun W => Below w17.heap.size w17 W ∧ Below wra.heap.size wra W ∧ Below wru.heap.size wru W ∧ Below wdg.heap.size wdg W ∧ Below wak.heap.size wak W) wak := ⟨hH2925.1, hH2925.2.1, hH2925.2.2.1, hH2925.2.2.2, Below.refl _ _⟩
    refine wpAnyH_grow (S' := (fun W => Below w17.heap.size w17 W ∧ Below wra.heap.size wra W ∧ Below wru.heap.size wru W ∧ Below wdg.heap.size wdg W ∧ Below wak.heap.size wak W)) (fun _ h => ⟨h.1, h.2.1, h.2.2.1, h.2.2.2.1⟩) _ _ _ _ ?_
    refine wpAnyH_take (i := 25) (oi := { dst := some 130, op := Op.pick (Operand.tmp 128) (Operand.tmp 129) (Operand.const (Value.bool false)), type := 4, pos := "more.go:34", after := #[{ on := 23, ground := Ground.data }, { on := 24, ground := Ground.data }], guard := none }) (v := ?tkv2926) rfl (by kernel_rfl) (by kernel_rfl) (by kernel_rfl) (fun _ _ _ h => h) (Or.inl ⟨by rfl, ?tky2926⟩) hG2925 ?tkr2926
    case tky2926 => (intro w' hSw; clear hSw; go_simp; try with_reducible rfl)
    try simp only [Act.put, List.setIfInBounds_toArray, List.set_cons_zero, List.set_cons_succ]
    refine wpAnyH_take (i := 26) (oi := { dst := some 8, op := Op.assign (Operand.tmp 130), type := 4, pos := "more.go:34", after := #[{ on := 25, ground := Ground.data }, { on := 24, ground := Ground.chain }, { on := 0, ground := Ground.phase }, { on := 1, ground := Ground.phase }, { on := 2, ground := Ground.phase }, { on := 3, ground := Ground.phase }, { on := 4, ground := Ground.phase }, { on := 5, ground := Ground.phase }, { on := 6, ground := Ground.phase }, { on := 7, ground := Ground.phase }, { on := 8, ground := Ground.phase }, { on := 9, ground := Ground.phase }, { on := 10, ground := Ground.phase }, { on := 11, ground := Ground.phase }, { on := 12, ground := Ground.phase }, { on := 13, ground := Ground.phase }, { on := 14, ground := Ground.phase }, { on := 15, ground := Ground.phase }, { on := 16, ground := Ground.phase }, { on := 17, ground := Ground.phase }, { on := 18, ground := Ground.phase }, { on := 19, ground := Ground.phase }, { on := 20, ground := Ground.phase }, { on := 21, ground := Ground.phase }, { on := 22, ground := Ground.phase }, { on := 23, ground := Ground.phase }, { on := 24, ground := Ground.phase }, { on := 25, ground := Ground.phase }], guard := none }) (v := ?tkv2927) rfl (by kernel_rfl) (by kernel_rfl) (by kernel_rfl) (fun _ _ _ h => h) (Or.inl ⟨by rfl, ?tky2927⟩) hG2925 ?tkr2927
    case tky2927 => (intro w' hSw; clear hSw; go_simp; try with_reducible rfl)
    try simp only [Act.put, List.setIfInBounds_toArray, List.set_cons_zero, List.set_cons_succ]
    refine wpAnyH_done (by kernel_rfl) ?_ _
    refine NoPanic.normal ?_
    have hEnd : Below w17.heap.size w17 _ := hG2925.1
    have HE := Lib.hid (HB17.out.trans (hEnd.mono HB17.out.size))
    go_wp2_with fail
    go_ret
    exact ⟨rfl, HE.out⟩
end Go.Proofs.YtgfdpondnkcogaaDoor
