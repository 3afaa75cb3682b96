/- The tied card of downpourlaw12.DecodeTwo. -/
import Derived.Test.YtpmmolamdlcmnaaGreatDoorZ17
namespace Go.Proofs.YtpmmolamdlcmnaaGreatDoor.Dc
open Go.RowKit
open VecM RdM Vc Sp Pc El Cd
set_option maxRecDepth 100000 in
set_option maxHeartbeats 6400000 in
theorem dctwo_walk (s n c m cu : Nat) (turn : Int) (us : List Nat) (K0 P0 Z0 : Int) (A U : Option Addr) (l : List UInt8) (w : World) (ht : DTab w) (hs : s < 4294967296) (hr : Row w w.heap.size A n (bv l)) (hn : n ≤ c ∧ c ≤ 9223372036854775807)
    (hu : ∀ i, i < m → ∃ b o, U = some ⟨b, o, none⟩ ∧ b < w.heap.size ∧ w.cell? ⟨b, o + i, none⟩ = some (.int .u32 ((us.getD i 0 : Nat) : Int)) ∧ us.getD i 0 < 4294967296) :
    Calls Tryz.prog 6 #[parV s K0 P0 Z0, .slice A n c, .slice U m cu, .int .i64 turn] w fun e w' => e = .returned (.bool true) ∧ Below w.heap.size w w' := by
  obtain ⟨f, hfd⟩ : ∃ f : Nat → Nat, f = fun i => us.getD i 0 := ⟨_, rfl⟩
  have HU : Hid (∀ i, i < m → ∃ b o, U = some ⟨b, o, none⟩ ∧ b < w.heap.size ∧ w.cell? ⟨b, o + i, none⟩ = some (.int .u32 ((f i : Nat) : Int)) ∧ f i < 4294967296) := Lib.hid (by rw [hfd]; exact hu)
  clear hu hfd
  have hal : Below w.heap.size w (w.alloc (.cells #[.int .u32 (s : Int), .int .i64 K0, .int .i64 P0, .int .i64 Z0] 35)) := (Below.refl _ _).alloc (Nat.le_refl _) _
  have hx := heap_alloc_new w (.cells #[.int .u32 (s : Int), .int .i64 K0, .int .i64 P0, .int .i64 Z0] 35)
  have hz : (w.alloc (.cells #[.int .u32 (s : Int), .int .i64 K0, .int .i64 P0, .int .i64 Z0] 35)).heap.size = w.heap.size + 1 := by simp
  have HT := Lib.hid ht
  have HSO := Lib.hid (sound12_any s n c w.heap.size K0 P0 Z0 A l (w.alloc (.cells #[.int .u32 (s : Int), .int .i64 K0, .int .i64 P0, .int .i64 Z0] 35)) (hr.below hal) hn hal.size)
  have HAL := Lib.hid hal
  have HX := Lib.hid hx
  have HZ := Lib.hid hz
  obtain ⟨a0, a1, a2, a3⟩ := box4 hx
  have HS := Lib.hid hs
  unfold parV at HSO ⊢
  clear hal hx hz ht hr hn hs
  go_enter Tryz.func6, Tryz.ntmps6
  go_upto_region 1 with fail
  generalize (w.alloc (.cells #[.int .u32 (s : Int), .int .i64 K0, .int .i64 P0, .int .i64 Z0] 35)) = w0 at *
  go_wp2_with fail
  refine HSO.out.mono ?_
  rintro e w1 ⟨kk, P, Z, A1, c1, img, rfl, hf, ho, hb1⟩
  have hx1 := (hb1.out.block w.heap.size (by have := HZ.out; omega)).trans HX.out
  obtain ⟨b0, b1, b2, b3⟩ := box4 hx1
  obtain ⟨f0, f1, f2, f3⟩ := frozenBox hx1
  have HX2 := Lib.hid (setBox hx1 (.int .u32 (s : Int)) (.int .i64 (kk : Int)) (.int .i64 (P : Int)) (.int .i64 (Z : Int)))
  have HB1 := hb1
  have HO2 := Lib.hid (own_set4 ho.out (b := w.heap.size) (by have := HZ.out; omega) (.int .u32 (s : Int)) (.int .i64 (kk : Int)) (.int .i64 (P : Int)) (.int .i64 (Z : Int)))
  have HB2 := Lib.hid (below_set4 (b := w.heap.size) (HAL.out.trans (HB1.out.mono HAL.out.size)) (Nat.le_refl _) (.int .u32 (s : Int)) (.int .i64 (kk : Int)) (.int .i64 (P : Int)) (.int .i64 (Z : Int)))
  clear a0 a1 a2 a3 hx1 HSO hb1 ho HB1
  unfold parV
  go_upto_region 2 with fail
  clear b0 b1 b2 b3 f0 f1 f2 f3
  generalize ((((w1.setCell ⟨w.heap.size, 0, none⟩ (.int .u32 (s : Int))).setCell ⟨w.heap.size, 1, none⟩ (.int .i64 (kk : Int))).setCell ⟨w.heap.size, 2, none⟩ (.int .i64 (P : Int))).setCell ⟨w.heap.size, 3, none⟩ (.int .i64 (Z : Int))) = w2 at *
  obtain ⟨HK, HP, HZZ, HI, HCN⟩ : Hid (1 ≤ kk ∧ kk ≤ 64) ∧ Hid (P ≤ 16) ∧ Hid (1 ≤ Z ∧ Z ≤ 16) ∧ Hid (1 ≤ img.length ∧ img.length ≤ 201) ∧ Hid (BlkM.count (img.length : Int) (Z : Int) = kk) := hf.out
  have hcap := own_cap HO2.out
  have hlt2 : w.heap.size < w2.heap.size := (Array.getElem?_eq_some_iff.1 HX2.out).1
  have HLT2 := Lib.hid hlt2
  clear hf hcap hlt2
  have HFX : Hid (∀ W, Below w2.heap.size w2 W → (W.cell? ⟨w.heap.size, 0, none⟩ = some (.int .u32 (s : Int)) ∧ W.cell? ⟨w.heap.size, 1, none⟩ = some (.int .i64 (kk : Int)) ∧ W.cell? ⟨w.heap.size, 2, none⟩ = some (.int .i64 (P : Int)) ∧ W.cell? ⟨w.heap.size, 3, none⟩ = some (.int .i64 (Z : Int))) ∧ True) := Lib.hid fun W hW => ⟨box4 ((hW.block w.heap.size HLT2.out).trans HX2.out), trivial⟩
  have HIM : Hid (∀ W, Below w2.heap.size w2 W → Row W w2.heap.size A1 img.length (bv img)) := Lib.hid fun W hW => (Row.of_own HO2.out).below hW
  have HDT : Hid (∀ W, Below w2.heap.size w2 W → DTab W) := Lib.hid fun W hW => HT.out.grow (HB2.out.trans (hW.mono HB2.out.size))
  have HUW : Hid (∀ W, Below w2.heap.size w2 W → ∀ i, i < m → ∃ b o, U = some ⟨b, o, none⟩ ∧ W.cell? ⟨b, o + i, none⟩ = some (.int .u32 ((f i : Nat) : Int)) ∧ f i < 4294967296) := Lib.hid fun W hW i hi => by
    obtain ⟨b, o, e, hb, hc, hl⟩ := HU.out i hi
    refine ⟨b, o, e, ?_, hl⟩
    rw [(HB2.out.trans (hW.mono HB2.out.size)).cell (p := ⟨b, o + i, none⟩) hb]
    exact hc
  have HN80 : Hid (kk + P ≤ 80) := Lib.hid (by have := HK.out; have := HP.out; omega)
  obtain ⟨x0, x1, x2, x3⟩ := box4 HX2.out
  clear HX2 HT HU
  by_cases h80 : 80 < m
  · have h80i : (80 : Int) < (m : Int) := by omega
    go_wp2_with fail
    refine (awake12_any w2 (HDT.out w2 (Below.refl _ _))).mono ?_
    rintro e w9 ⟨rfl, hb9⟩
    have HB9 := Lib.hid (HB2.out.trans (hb9.out.mono HB2.out.size))
    clear hb9
    go_wp2_with fail
    go_ret
    exact ⟨rfl, HB9.out⟩
  · have h80i : ¬ ((80 : Int) < (m : Int)) := by omega
    have hm80 : (m : Int) ≤ 80 := by omega
    go_wp2_with fail
    refine (new_yes s kk P Z w2.heap.size c1 A1 img w2 HK.out HP.out HZZ.out (Row.of_own HO2.out) (Nat.le_refl _) (by have := HI.out; omega) HCN.out).mono ?_
    rintro e w4 ⟨g, rfl, hg, _, hq4, hb4⟩
    have S4 : Hid (Sep3 noObj noObj (headO s kk P Z img g) w2 w4) := Lib.hid ((Sep3.start w2).create (A' := headO s kk P Z img g) keeps_no keeps_no hb4.out (head_new hq4.out hg)).rot
    have HFX4 : Hid (∀ W, Below w4.heap.size w4 W → (W.cell? ⟨w.heap.size, 0, none⟩ = some (.int .u32 (s : Int)) ∧ W.cell? ⟨w.heap.size, 1, none⟩ = some (.int .i64 (kk : Int)) ∧ W.cell? ⟨w.heap.size, 2, none⟩ = some (.int .i64 (P : Int)) ∧ W.cell? ⟨w.heap.size, 3, none⟩ = some (.int .i64 (Z : Int))) ∧ True) := Lib.hid fun W hW => HFX.out W (S4.out.b.trans (hW.mono S4.out.b.size))
    clear x0 x1 x2 x3 hg hq4 hb4
    go_upto_region 5 with fail
    go_cut [10, 11] (fun s10 s11 wx => ∃ ga gb : Nat, s10 = .pointer (some ⟨ga, 0, none⟩) ∧ s11 = .pointer (some ⟨gb, 0, none⟩) ∧ Hid (Sep3 (decO ga s kk P Z (matR s kk P Z P) 0) (decO gb s kk P Z (matR s kk P Z P) 0) (headO s kk P Z img g) w2 wx))
    case first =>
      refine wp_region_noPanic ?_
      refine wp_region_held_drew (S := (fun W => Below (w4.heap.size) w4 W)) (by kernel_rfl) (Below.refl _ _).drew (fun hH0 => ?_)
      have hH0 : Below (w4.heap.size) w4 w4.drew := hH0
      have S0D : Hid (Sep3 noObj noObj (headO s kk P Z img g) w2 w4.drew) := Lib.hid (S4.out.below keeps_no keeps_no (keeps_head _ _ _ _ _ _) (Below.refl _ _).drew)
      generalize w4.drew = wd2000 at *
      refine wpAnyH_take (i := 0) (oi := { dst := some 32, op := Op.load 35 (Operand.tmp 4), type := 35, pos := "more.go:18", after := #[], guard := none }) (v := ?tkv2001) rfl (by kernel_rfl) (by kernel_rfl) (by kernel_rfl) (fun _ _ _ h => h) (Or.inl ⟨by rfl, ?tky2001⟩) hH0 ?tkr2001
      case tky2001 => (intro w' hSw; have z0 := HFX4.out _ hSw; clear hSw; go_simp; try with_reducible rfl)
      try simp only [Act.put, List.setIfInBounds_toArray, List.set_cons_zero, List.set_cons_succ]
      refine wpAnyH_take (i := 2) (oi := { dst := some 34, op := Op.load 35 (Operand.tmp 4), type := 35, pos := "more.go:18", after := #[], guard := none }) (v := ?tkv2002) rfl (by kernel_rfl) (by kernel_rfl) (by kernel_rfl) (fun _ _ _ h => h) (Or.inl ⟨by rfl, ?tky2002⟩) hH0 ?tkr2002
      case tky2002 => (intro w' hSw; have z0 := HFX4.out _ hSw; clear hSw; go_simp; try with_reducible rfl)
      try simp only [Act.put, List.setIfInBounds_toArray, List.set_cons_zero, List.set_cons_succ]
      refine wpAnyH_ready (rs := [1]) (by kernel_rfl) (by simp) ?_
      refine AllReadyH.cons (o := { dst := some 33, op := Op.call { callee := Callee.value (Operand.func 16), args := #[Operand.tmp 32], argTypes := #[35] }, type := 26, pos := "more.go:18", after := #[{ on := 0, ground := Ground.data }], guard := none }) rfl (fun K hK => ?_) AllReadyH.nil
      go_simp
      refine (newD s kk P Z wd2000 HS.out HK.out HP.out HZZ.out (HDT.out wd2000 S0D.out.b)).mono ?_
      rintro e' wn2003 ⟨gd2003, rfl, hd2003, _, hb2003'⟩
      have hb2003 := hb2003'.out
      have SS2003 := Lib.hid (S0D.out.create (A' := decO gd2003 s kk P Z (matR s kk P Z P) 0) keeps_no (keeps_head _ _ _ _ _ _) hb2003 hd2003.out)
      clear hd2003 hb2003'
      go_simp
      have hS2003 : Below (w4.heap.size) w4 wn2003 := (hH0).trans (hb2003.mono (hH0).size)
      refine hK.out _ _ hS2003 (fun hH2003 => ?_)
      have hH2003 : Below (w4.heap.size) w4 wn2003 := hH2003
      clear hK K hS2003
      try simp only [Act.put, List.setIfInBounds_toArray, List.set_cons_zero, List.set_cons_succ]
      refine wpAnyH_ready (rs := [3]) (by kernel_rfl) (by simp) ?_
      refine AllReadyH.cons (o := { dst := some 35, op := Op.call { callee := Callee.value (Operand.func 16), args := #[Operand.tmp 34], argTypes := #[35] }, type := 26, pos := "more.go:18", after := #[{ on := 2, ground := Ground.data }, { on := 1, ground := Ground.chain }], guard := none }) rfl (fun K hK => ?_) AllReadyH.nil
      go_simp
      refine (newD s kk P Z wn2003 HS.out HK.out HP.out HZZ.out (HDT.out wn2003 SS2003.out.b)).mono ?_
      rintro e' wn2004 ⟨gd2004, rfl, hd2004, _, hb2004'⟩
      have hb2004 := hb2004'.out
      have SS2004 := Lib.hid ((SS2003.out.swap.create (A' := decO gd2004 s kk P Z (matR s kk P Z P) 0) (keeps_dec _ _ _ _ _ _ _) (keeps_head _ _ _ _ _ _) hb2004 hd2004.out).swap)
      clear hd2004 hb2004'
      go_simp
      have hS2004 : Below (w4.heap.size) w4 wn2004 := (hH2003).trans (hb2004.mono (hH2003).size)
      refine hK.out _ _ hS2004 (fun hH2004 => ?_)
      have hH2004 : Below (w4.heap.size) w4 wn2004 := hH2004
      clear hK K hS2004
      try simp only [Act.put, List.setIfInBounds_toArray, List.set_cons_zero, List.set_cons_succ]
      refine wpAnyH_take (i := 4) (oi := { dst := some 10, op := Op.assign (Operand.tmp 33), type := 26, pos := "more.go:18", after := #[{ on := 1, ground := Ground.data }, { on := 3, ground := Ground.chain }, { on := 0, ground := Ground.phase }, { on := 1, ground := Ground.phase }, { on := 2, ground := Ground.textOnly Departure.lateStores }, { on := 3, ground := Ground.textOnly Departure.lateStoresUnsure }], guard := none }) (v := ?tkv2005) rfl (by kernel_rfl) (by kernel_rfl) (by kernel_rfl) (fun _ _ _ h => h) (Or.inl ⟨by rfl, ?tky2005⟩) hH2004 ?tkr2005
      case tky2005 => (intro w' hSw; clear hSw; go_simp; try with_reducible rfl)
      try simp only [Act.put, List.setIfInBounds_toArray, List.set_cons_zero, List.set_cons_succ]
      refine wpAnyH_take (i := 5) (oi := { dst := some 11, op := Op.assign (Operand.tmp 35), type := 26, pos := "more.go:18", after := #[{ on := 3, ground := Ground.data }, { on := 4, ground := Ground.chain }, { on := 0, ground := Ground.phase }, { on := 1, ground := Ground.phase }, { on := 2, ground := Ground.phase }, { on := 3, ground := Ground.phase }, { on := 4, ground := Ground.phase }], guard := none }) (v := ?tkv2006) rfl (by kernel_rfl) (by kernel_rfl) (by kernel_rfl) (fun _ _ _ h => h) (Or.inl ⟨by rfl, ?tky2006⟩) hH2004 ?tkr2006
      case tky2006 => (intro w' hSw; clear hSw; go_simp; try with_reducible rfl)
      try simp only [Act.put, List.setIfInBounds_toArray, List.set_cons_zero, List.set_cons_succ]
      refine wpAnyH_done (by kernel_rfl) ?_ _
      refine NoPanic.normal ?_
      go_wp2_with fail
      go_meet
      exact ⟨gd2003, gd2004, rfl, rfl, SS2004⟩
    case rest =>
      obtain ⟨ga, gb, rfl, rfl, S5⟩ := hcut
      obtain ⟨m1, hm1⟩ : ∃ m1 : Nat, (m : Int) + 1 = (m1 : Int) := ⟨m + 1, by omega⟩
      have hm1b : (m1 : Int) ≤ 81 ∧ 1 ≤ (m1 : Int) := by omega
      have hm1c := hm1b.1
      have hm1d := hm1b.2
      obtain ⟨t, ht, htp⟩ := pick_in turn (m1 : Int) (by omega) (by omega)
      have HTP := Lib.hid htp
      have HM1 := Lib.hid hm1
      have htm : t ≤ 80 := by omega
      have S6 : Hid (Sep3 (decO ga s kk P Z (matF s kk P Z img f 0) (tkF s kk P Z img f 0)) (decO gb s kk P Z (matF s kk P Z img (fun i => f ((i + t) % m)) 0) (tkF s kk P Z img (fun i => f ((i + t) % m)) 0)) (headO s kk P Z img g) w2 wc) := by
        rw [tkF_zero f HN80.out, tkF_zero (fun i => f ((i + t) % m)) HN80.out]
        exact S5
      clear hm1b htp hm1 ht S5
      go_upto_region 7 with (first | rw [HM1.out] | rw [HTP.out])
      go_wp2_with fail
      go_loopw [46] (fun i wr => ∃ i2 : Nat, i2 ≤ m ∧ i = .int .i64 i2 ∧ Hid (Sep3 (decO ga s kk P Z (matF s kk P Z img f i2) (tkF s kk P Z img f i2)) (decO gb s kk P Z (matF s kk P Z img (fun i => f ((i + t) % m)) i2) (tkF s kk P Z img (fun i => f ((i + t) % m)) i2)) (headO s kk P Z img g) w2 wr)) (fun i _ => m - (intOf i).toNat)
      case atStart => exact ⟨0, by omega, rfl, S6⟩
      case round =>
        obtain ⟨i, hi, rfl, SR⟩ := hrel
        clear S6
        by_cases hlt : i < m
        · have hii : (i : Int) < (m : Int) := by omega
          obtain ⟨q, hq⟩ : ∃ q, (i + t) % m = q := ⟨_, rfl⟩
          have hqm : q < m := by rw [← hq]; exact Nat.mod_lt _ (by omega)
          have hqi : (q : Int) < (m : Int) := by omega
          have hr1 : ((i : Int) + (t : Int)) % (m : Int) = (q : Int) := by rw [← hq, Int.natCast_emod, Int.natCast_add]
          have hr2 : ((i : Int) + (t : Int)).tmod (m : Int) = (q : Int) := by rw [Int.tmod_eq_emod_of_nonneg (by omega)]; exact hr1
          have hmz : ¬ ((m : Int) = 0) := by omega
          have hti : (t : Int) ≤ 80 := by omega
          obtain ⟨bu, ou, rfl, _, hfi⟩ := HUW.out wr SR.out.b i hlt
          obtain ⟨_, _, e2, _, hfq⟩ := HUW.out wr SR.out.b q hqm
          have HFI := Lib.hid hfi
          have HFQ := Lib.hid hfq
          have HUI : Hid (∀ W, Below w2.heap.size w2 W → W.cell? ⟨bu, ou + i, none⟩ = some (.int .u32 ((f i : Nat) : Int)) ∧ W.cell? ⟨bu, ou + q, none⟩ = some (.int .u32 ((f q : Nat) : Int))) := Lib.hid fun W hW => by
            obtain ⟨b1, o1, e3, h3, _⟩ := HUW.out W hW i hlt
            obtain ⟨b4, o4, e4, h4, _⟩ := HUW.out W hW q hqm
            injection e3 with e3
            injection e3 with e3 e5
            injection e4 with e4
            injection e4 with e4 e6
            subst e3 e5 e4 e6
            exact ⟨h3, h4⟩
          have SRD : Hid (Sep3 (decO ga s kk P Z (matF s kk P Z img f i) (tkF s kk P Z img f i)) (decO gb s kk P Z (matF s kk P Z img (fun i => f ((i + t) % m)) i) (tkF s kk P Z img (fun i => f ((i + t) % m)) i)) (headO s kk P Z img g) w2 wr.drew) := Lib.hid (SR.out.below (keeps_dec _ _ _ _ _ _ _) (keeps_dec _ _ _ _ _ _ _) (keeps_head _ _ _ _ _ _) (Below.refl _ _).drew)
          obtain ⟨ba, hba⟩ : ∃ ba, (addMx (kk + P) (matF s kk P Z img f i) (spX s kk P (f i)) (symX s kk P Z img (f i))).2 = ba := ⟨_, rfl⟩
          have HTA : Hid (addMx (kk + P) (matF s kk P Z img f i) (spX s kk P (f i)) (symX s kk P Z img (f i)) = (matF s kk P Z img f (i + 1), ba)) := Lib.hid (by rw [← hba]; rfl)
          have HKA : Hid (tkF s kk P Z img f i + (if ba then 1 else 0) = tkF s kk P Z img f (i + 1)) := Lib.hid (by rw [← hba]; exact tkF_step f HK.out.1 HN80.out i)
          obtain ⟨bb, hbb⟩ : ∃ bb, (addMx (kk + P) (matF s kk P Z img (fun i => f ((i + t) % m)) i) (spX s kk P (f q)) (symX s kk P Z img (f q))).2 = bb := ⟨_, rfl⟩
          have HTB : Hid (addMx (kk + P) (matF s kk P Z img (fun i => f ((i + t) % m)) i) (spX s kk P (f q)) (symX s kk P Z img (f q)) = (matF s kk P Z img (fun i => f ((i + t) % m)) (i + 1), bb)) := Lib.hid (by rw [← hbb, ← hq]; rfl)
          have HKB : Hid (tkF s kk P Z img (fun i => f ((i + t) % m)) i + (if bb then 1 else 0) = tkF s kk P Z img (fun i => f ((i + t) % m)) (i + 1)) := Lib.hid (by rw [← hbb, ← hq]; exact tkF_step (fun i => f ((i + t) % m)) HK.out.1 HN80.out i)
          clear hba hbb hq
          clear e2 hfi hfq SR
          go_upto_region 10 with fail
          refine wp_region_noPanic ?_
          refine wp_region_held_drew (S := (fun W => Below w2.heap.size w2 W)) (by kernel_rfl) (SRD.out.b) (fun hH0 => ?_)
          have hH0 : Below w2.heap.size w2 wr.drew := hH0
          generalize wr.drew = wd5000 at *
          refine wpAnyH_take (i := 0) (oi := { dst := some 49, op := Op.move (Operand.tmp 10), type := 26, pos := "more.go:21", after := #[], guard := none }) (v := ?tkv5001) rfl (by kernel_rfl) (by kernel_rfl) (by kernel_rfl) (fun _ _ _ h => h) (Or.inl ⟨by rfl, ?tky5001⟩) hH0 ?tkr5001
          case tky5001 => (intro w' hSw; clear hSw; go_simp; try with_reducible rfl)
          try simp only [Act.put, List.setIfInBounds_toArray, List.set_cons_zero, List.set_cons_succ]
          refine wpAnyH_take (i := 1) (oi := { dst := some 50, op := Op.move (Operand.tmp 2), type := 36, pos := "more.go:21", after := #[], guard := none }) (v := ?tkv5002) rfl (by kernel_rfl) (by kernel_rfl) (by kernel_rfl) (fun _ _ _ h => h) (Or.inl ⟨by rfl, ?tky5002⟩) hH0 ?tkr5002
          case tky5002 => (intro w' hSw; clear hSw; go_simp; try with_reducible rfl)
          try simp only [Act.put, List.setIfInBounds_toArray, List.set_cons_zero, List.set_cons_succ]
          refine wpAnyH_take (i := 2) (oi := { dst := some 51, op := Op.move (Operand.tmp 13), type := 3, pos := "more.go:21", after := #[], guard := none }) (v := ?tkv5003) rfl (by kernel_rfl) (by kernel_rfl) (by kernel_rfl) (fun _ _ _ h => h) (Or.inl ⟨by rfl, ?tky5003⟩) hH0 ?tkr5003
          case tky5003 => (intro w' hSw; clear hSw; go_simp; try with_reducible rfl)
          try simp only [Act.put, List.setIfInBounds_toArray, List.set_cons_zero, List.set_cons_succ]
          refine wpAnyH_take (i := 3) (oi := { dst := some 52, op := Op.indexAddr 36 (Operand.tmp 50) (Operand.tmp 51), type := 0, pos := "more.go:21", after := #[{ on := 1, ground := Ground.data }, { on := 2, ground := Ground.data }], guard := none }) (v := ?tkv5004) rfl (by kernel_rfl) (by kernel_rfl) (by kernel_rfl) (fun _ _ _ h => h) (Or.inl ⟨by rfl, ?tky5004⟩) hH0 ?tkr5004
          case tky5004 => (intro w' hSw; clear hSw; go_simp; try with_reducible rfl)
          try simp only [Act.put, List.setIfInBounds_toArray, List.set_cons_zero, List.set_cons_succ]
          refine wpAnyH_take (i := 4) (oi := { dst := some 53, op := Op.load 22 (Operand.tmp 52), type := 22, pos := "more.go:21", after := #[{ on := 3, ground := Ground.data }], guard := none }) (v := ?tkv5005) rfl (by kernel_rfl) (by kernel_rfl) (by kernel_rfl) (fun _ _ _ h => h) (Or.inl ⟨by rfl, ?tky5005⟩) hH0 ?tkr5005
          case tky5005 => (intro w' hSw; have z0 := HUI.out _ hSw; clear hSw; go_simp; try with_reducible rfl)
          try simp only [Act.put, List.setIfInBounds_toArray, List.set_cons_zero, List.set_cons_succ]
          refine wpAnyH_take (i := 5) (oi := { dst := some 54, op := Op.move (Operand.tmp 9), type := 39, pos := "more.go:21", after := #[], guard := none }) (v := ?tkv5006) rfl (by kernel_rfl) (by kernel_rfl) (by kernel_rfl) (fun _ _ _ h => h) (Or.inl ⟨by rfl, ?tky5006⟩) hH0 ?tkr5006
          case tky5006 => (intro w' hSw; clear hSw; go_simp; try with_reducible rfl)
          try simp only [Act.put, List.setIfInBounds_toArray, List.set_cons_zero, List.set_cons_succ]
          refine wpAnyH_take (i := 6) (oi := { dst := some 55, op := Op.move (Operand.tmp 2), type := 36, pos := "more.go:21", after := #[], guard := none }) (v := ?tkv5007) rfl (by kernel_rfl) (by kernel_rfl) (by kernel_rfl) (fun _ _ _ h => h) (Or.inl ⟨by rfl, ?tky5007⟩) hH0 ?tkr5007
          case tky5007 => (intro w' hSw; clear hSw; go_simp; try with_reducible rfl)
          try simp only [Act.put, List.setIfInBounds_toArray, List.set_cons_zero, List.set_cons_succ]
          refine wpAnyH_take (i := 7) (oi := { dst := some 56, op := Op.move (Operand.tmp 13), type := 3, pos := "more.go:21", after := #[], guard := none }) (v := ?tkv5008) rfl (by kernel_rfl) (by kernel_rfl) (by kernel_rfl) (fun _ _ _ h => h) (Or.inl ⟨by rfl, ?tky5008⟩) hH0 ?tkr5008
          case tky5008 => (intro w' hSw; clear hSw; go_simp; try with_reducible rfl)
          try simp only [Act.put, List.setIfInBounds_toArray, List.set_cons_zero, List.set_cons_succ]
          refine wpAnyH_take (i := 8) (oi := { dst := some 57, op := Op.indexAddr 36 (Operand.tmp 55) (Operand.tmp 56), type := 0, pos := "more.go:21", after := #[{ on := 6, ground := Ground.data }, { on := 7, ground := Ground.data }], guard := none }) (v := ?tkv5009) rfl (by kernel_rfl) (by kernel_rfl) (by kernel_rfl) (fun _ _ _ h => h) (Or.inl ⟨by rfl, ?tky5009⟩) hH0 ?tkr5009
          case tky5009 => (intro w' hSw; clear hSw; go_simp; try with_reducible rfl)
          try simp only [Act.put, List.setIfInBounds_toArray, List.set_cons_zero, List.set_cons_succ]
          refine wpAnyH_take (i := 9) (oi := { dst := some 58, op := Op.load 22 (Operand.tmp 57), type := 22, pos := "more.go:21", after := #[{ on := 8, ground := Ground.data }], guard := none }) (v := ?tkv5010) rfl (by kernel_rfl) (by kernel_rfl) (by kernel_rfl) (fun _ _ _ h => h) (Or.inl ⟨by rfl, ?tky5010⟩) hH0 ?tkr5010
          case tky5010 => (intro w' hSw; have z0 := HUI.out _ hSw; clear hSw; go_simp; try with_reducible rfl)
          try simp only [Act.put, List.setIfInBounds_toArray, List.set_cons_zero, List.set_cons_succ]
          refine wpAnyH_ready (rs := [10]) (by kernel_rfl) (by simp) ?_
          refine AllReadyH.cons (o := { dst := some 59, op := Op.call { callee := Callee.value (Operand.func 21), args := #[Operand.tmp 54, Operand.tmp 58], argTypes := #[39, 22] }, type := 23, pos := "more.go:21", after := #[{ on := 5, ground := Ground.data }, { on := 9, ground := Ground.data }], guard := none }) rfl (fun K hK => ?_) AllReadyH.nil
          go_simp
          obtain ⟨FH5011, hh5011, _, next5011⟩ := SRD.out.rot.rot.first (keeps_dec _ _ _ _ _ _ _) (keeps_dec _ _ _ _ _ _ _)
          refine (symH (id := f i) hh5011 HS.out HFI.out HK.out HP.out HZZ.out HCN.out (HDT.out wd5000 SRD.out.b)).mono ?_
          rintro e' wn5011 ⟨A5011, c5011, rfl, ho5011, hh5011', hf5011⟩
          have SS5011 : Hid (Sep3 (decO ga s kk P Z (matF s kk P Z img f i) (tkF s kk P Z img f i)) (decO gb s kk P Z (matF s kk P Z img (fun i => f ((i + t) % m)) i) (tkF s kk P Z img (fun i => f ((i + t) % m)) i)) (headO s kk P Z img g) w2 wn5011) := Lib.hid (next5011 wn5011 (headO s kk P Z img g) hh5011'.out hf5011.out).rot
          have HO5011 := Lib.hid ho5011.out
          clear ho5011 hh5011 hh5011' hf5011 next5011
          go_simp
          have hS5011 : Below w2.heap.size w2 wn5011 := SS5011.out.b
          refine hK.out _ _ hS5011 (fun hH5011 => ?_)
          have hH5011 : Below w2.heap.size w2 wn5011 := hH5011
          clear hK K hS5011
          try simp only [Act.put, List.setIfInBounds_toArray, List.set_cons_zero, List.set_cons_succ]
          refine wpAnyH_ready (rs := [11]) (by kernel_rfl) (by simp) ?_
          refine AllReadyH.cons (o := { dst := some 60, op := Op.call { callee := Callee.value (Operand.func 10), args := #[Operand.tmp 49, Operand.tmp 53, Operand.tmp 59], argTypes := #[26, 22, 23] }, type := 4, pos := "more.go:21", after := #[{ on := 0, ground := Ground.data }, { on := 4, ground := Ground.data }, { on := 10, ground := Ground.data }, { on := 10, ground := Ground.chain }], guard := none }) rfl (fun K hK => ?_) AllReadyH.nil
          go_simp
          obtain ⟨FD5012, hd5012, _, next5012⟩ := SS5011.out.first (keeps_dec _ _ _ _ _ _ _) (keeps_head _ _ _ _ _ _)
          refine (take_any FD5012 ga s kk P Z (tkF s kk P Z img f i) (f i) c5011 A5011 (symX s kk P Z img (f i)) _ wn5011 hd5012 (matF_got f HK.out.1 HN80.out i).inv HS.out HFI.out HK.out HP.out HZZ.out (symX_length HK.out.1 HN80.out) (Row.of_own HO5011.out) (HDT.out wn5011 SS5011.out.b) (Nat.le_trans (tkF_le f HK.out.1 HN80.out i) (by omega))).mono ?_
          rw [HTA.out]
          rintro e' wn5012 ⟨rfl, hd5012', hf5012⟩
          have hdd5012 : IsDec wn5012 (fun b => FD5012 b ∨ (wn5011.heap.size ≤ b ∧ b < wn5012.heap.size)) ga s kk P Z (matF s kk P Z img f (i + 1)) (tkF s kk P Z img f i + if ba then 1 else 0) := hd5012'.out
          rw [HKA.out] at hdd5012
          have SS5012 : Hid (Sep3 (decO ga s kk P Z (matF s kk P Z img f (i + 1)) (tkF s kk P Z img f (i + 1))) (decO gb s kk P Z (matF s kk P Z img (fun i => f ((i + t) % m)) i) (tkF s kk P Z img (fun i => f ((i + t) % m)) i)) (headO s kk P Z img g) w2 wn5012) := Lib.hid (next5012 wn5012 (decO ga s kk P Z (matF s kk P Z img f (i + 1)) (tkF s kk P Z img f (i + 1))) hdd5012 hf5012.out)
          clear hdd5012
          clear hd5012 hd5012' hf5012 next5012
          go_simp
          have hS5012 : Below w2.heap.size w2 wn5012 := SS5012.out.b
          refine hK.out _ _ hS5012 (fun hH5012 => ?_)
          have hH5012 : Below w2.heap.size w2 wn5012 := hH5012
          clear hK K hS5012
          try simp only [Act.put, List.setIfInBounds_toArray, List.set_cons_zero, List.set_cons_succ]
          refine wpAnyH_done (by kernel_rfl) ?_ _
          refine NoPanic.normal ?_
          obtain ⟨wa, rfl⟩ : ∃ x : World, x = wn5012 := ⟨_, rfl⟩
          have SA := SS5012
          obtain ⟨z0, z1⟩ := HUI.out wa SA.out.b
          go_wp2_with fail
          clear z0 z1
          obtain ⟨FH, hh, _, next⟩ := SA.out.rot.rot.first (keeps_dec _ _ _ _ _ _ _) (keeps_dec _ _ _ _ _ _ _)
          have HSY := Lib.hid (symH (id := f q) hh HS.out HFQ.out HK.out HP.out HZZ.out HCN.out (HDT.out wa SA.out.b))
          have NX : Hid (∀ w', headO s kk P Z img g w' (fun b => FH b ∨ (wa.heap.size ≤ b ∧ b < w'.heap.size)) → Fr wa w' FH → Sep3 (decO ga s kk P Z (matF s kk P Z img f (i + 1)) (tkF s kk P Z img f (i + 1))) (decO gb s kk P Z (matF s kk P Z img (fun i => f ((i + t) % m)) i) (tkF s kk P Z img (fun i => f ((i + t) % m)) i)) (headO s kk P Z img g) w2 w') := Lib.hid fun w' h1 h2 => (next w' _ h1 h2).rot
          clear hh next
          refine HSY.out.mono ?_
          rintro e wb ⟨Ab, cb, rfl, hob, hhb, hfb⟩
          have SB := Lib.hid (NX.out wb hhb.out hfb.out)
          obtain ⟨FB, hdb, _, nextb⟩ := SB.out.swap.first (keeps_dec _ _ _ _ _ _ _) (keeps_head _ _ _ _ _ _)
          have HTK := Lib.hid (take_any FB gb s kk P Z _ (f q) cb Ab (symX s kk P Z img (f q)) _ wb hdb (matF_got _ HK.out.1 HN80.out i).inv HS.out HFQ.out HK.out HP.out HZZ.out (symX_length HK.out.1 HN80.out) (Row.of_own hob.out) (HDT.out wb SB.out.b) (Nat.le_trans (tkF_le _ HK.out.1 HN80.out i) (by omega)))
          rw [HTB.out] at HTK
          have NXB : Hid (∀ w', decO gb s kk P Z (matF s kk P Z img (fun i => f ((i + t) % m)) (i + 1)) (tkF s kk P Z img (fun i => f ((i + t) % m)) (i + 1)) w' (fun b => FB b ∨ (wb.heap.size ≤ b ∧ b < w'.heap.size)) → Fr wb w' FB → Sep3 (decO ga s kk P Z (matF s kk P Z img f (i + 1)) (tkF s kk P Z img f (i + 1))) (decO gb s kk P Z (matF s kk P Z img (fun i => f ((i + t) % m)) (i + 1)) (tkF s kk P Z img (fun i => f ((i + t) % m)) (i + 1))) (headO s kk P Z img g) w2 w') := Lib.hid fun w' h1 h2 => (nextb w' _ h1 h2).swap
          clear HSY NX hob hhb hfb hdb nextb SA SB
          go_wp2_with fail
          refine HTK.out.mono ?_
          rintro e wc2 ⟨rfl, hdc, hfc⟩
          have hdd : IsDec wc2 (fun b => FB b ∨ (wb.heap.size ≤ b ∧ b < wc2.heap.size)) gb s kk P Z (matF s kk P Z img (fun i => f ((i + t) % m)) (i + 1)) (tkF s kk P Z img (fun i => f ((i + t) % m)) i + if bb then 1 else 0) := hdc.out
          rw [HKB.out] at hdd
          have SC := Lib.hid (NXB.out wc2 hdd hfc.out)
          clear hdd
          clear HTK NXB hdc hfc
          go_wp2_with fail
          go_roundw
          case rel => exact ⟨i + 1, by omega, by go_num, SC⟩
          case measure => simp [intOf]; omega
        · obtain rfl : m = i := by omega
          clear hlt
          have hse := matF_turn (s := s) (P := P) (Z := Z) (img := img) f t m HK.out.1 HN80.out
          have htk : tkF s kk P Z img (fun i => f ((i + t) % m)) m = tkF s kk P Z img f m := by unfold tkF; rw [hse]
          rw [hse, htk] at SR
          have hgt := matF_got (s := s) (P := P) (Z := Z) (img := img) f HK.out.1 HN80.out m
          have hdt := matF_data (s := s) (P := P) (Z := Z) (img := img) f HK.out.1 HN80.out m
          obtain ⟨M, hM⟩ : ∃ M, matF s kk P Z img f m = M := ⟨_, rfl⟩
          obtain ⟨tk, hT⟩ : ∃ tk, tkF s kk P Z img f m = tk := ⟨_, rfl⟩
          rw [hM, hT] at SR
          rw [hM] at hgt hdt
          have HIV := Lib.hid hgt.inv
          have hcf := count_facts _ _ kk HCN.out (by have := HK.out; omega)
          obtain ⟨FA, FB, FH, ha, hb, _, dab, _, _, hbd, hbw⟩ := SR.out
          have HBW := Lib.hid hbw
          have eq1 : ((kk : Int) + (P : Int) - (rankM M : Int) == (kk : Int) + (P : Int) - (rankM M : Int)) = true := by simp
          have eq2 : ((tk : Int) == (tk : Int)) = true := by simp
          by_cases hf : rankM M = kk + P
          · have HIMG : Hid (joinLs ((solM M).take kk) (img.length : Int) = img) := Lib.hid (by
              rw [full_img HIV.out hf hdt]
              exact joinLs_img (by have := HI.out; omega) (by have := HI.out; omega) (by have := hcf.2.2.2.2.2.1; exact_mod_cast this))
            have HF := Lib.hid hf
            have HIA := Lib.hid (image_any FA ga s kk P Z tk M (img.length : Int) wr ha HIV.out hf HCN.out HK.out HP.out)
            have HHB := Lib.hid hb
            have HAB := Lib.hid dab
            have HBD := Lib.hid hbd
            clear hse htk hgt hdt hM hT hcf ha hb dab hbd hbw hf SR
            go_wp2_with fail
            refine HIA.out.mono ?_
            rintro e we ⟨Ae, ne, ce, rfl, hne, hoe, hde, hfe⟩
            rw [HIMG.out] at hne hoe
            have hbe : IsDec we FB gb s kk P Z M tk := IsDec.fr HHB.out hfe.out (fun q h1 h2 => HAB.out q h2 h1)
            have HIB := Lib.hid (image_any FB gb s kk P Z tk M (img.length : Int) we hbe HIV.out HF.out HCN.out HK.out HP.out)
            have HOE := hoe
            have HDE := hde
            have HWE : Hid (Below w2.heap.size w2 we) := Lib.hid (fr_below HBW.out hfe.out fun q hq => (HBD.out q (.inl hq)).1)
            have HSE : Hid (wr.heap.size ≤ we.heap.size) := Lib.hid hfe.out.size
            clear HIA hne hoe hde hfe hbe HHB
            go_wp2_with fail
            refine HIB.out.mono ?_
            rintro e wf ⟨Af, nf, cf, rfl, hnf, hof, hdf, hff⟩
            rw [HIMG.out] at hnf hof
            have HOF := hof
            have HOE2 : Hid (wf.ownsRow wr.heap.size 5 1 (.slice Ae ne ce) ne (bv img)) := Lib.hid (own_keep2 HOE.out fun q h1 h2 => hff.out.block q h2 fun hF => by have := (HBD.out q (.inr (.inl hF))).2; omega)
            have hda : IsDec wf (fun b => FA b ∨ (wr.heap.size ≤ b ∧ b < we.heap.size)) ga s kk P Z M tk := IsDec.fr HDE.out hff.out (fun q h1 h2 => by
              rcases h1 with h1 | h1
              · exact HAB.out q h1 h2
              · have := (HBD.out q (.inr (.inl h2))).2; omega)
            obtain ⟨GA, hGA⟩ : ∃ GA, (fun b => FA b ∨ (wr.heap.size ≤ b ∧ b < we.heap.size)) = GA := ⟨_, rfl⟩
            obtain ⟨GB, hGB⟩ : ∃ GB, (fun b => FB b ∨ (we.heap.size ≤ b ∧ b < wf.heap.size)) = GB := ⟨_, rfl⟩
            have hdb := hdf.out
            rw [hGA] at hda
            rw [hGB] at hdb
            have HAX : Hid (∀ W, Below wf.heap.size wf W → IsDec W GA ga s kk P Z M tk) := Lib.hid fun W hW => IsDec.below hda hW
            have HBX : Hid (∀ W, Below wf.heap.size wf W → IsDec W GB gb s kk P Z M tk) := Lib.hid fun W hW => IsDec.below hdb hW
            have HWX : Hid (Below w2.heap.size w2 wf) := Lib.hid (fr_below HWE.out hff.out fun q hq => (HBD.out q (.inr (.inl hq))).1)
            clear HIB hnf hof hdf hff hda hdb hGA hGB HDE HOE
            have HNA := Lib.hid (needs_any GA ga s kk P Z tk M wf (HAX.out wf (Below.refl _ _)) HIV.out HK.out HP.out HZZ.out)
            go_wp2_with fail
            refine HNA.out.mono ?_
            rintro e wg ⟨rfl, hbg⟩
            have HBG := Lib.hid hbg.out
            have HNB := Lib.hid (needs_any GB gb s kk P Z tk M wg (HBX.out wg HBG.out) HIV.out HK.out HP.out HZZ.out)
            clear HNA hbg
            go_wp2_with fail
            refine HNB.out.mono ?_
            rintro e wh ⟨rfl, hbh⟩
            have HBH := Lib.hid (HBG.out.trans (hbh.out.mono HBG.out.size))
            have HTA := Lib.hid (taken_any GA ga s kk P Z tk M wh (HAX.out wh HBH.out))
            have HTB := Lib.hid (taken_any GB gb s kk P Z tk M wh (HBX.out wh HBH.out))
            clear HNB hbh
            go_wp2_with fail
            refine HTA.out.mono ?_
            rintro e wx ⟨rfl, rfl⟩
            have hke := conv_own ce HOE2.out wh HBH.out
            have hkf := conv_own cf HOF.out wh HBH.out
            have hki := conv_row c1 (HIM.out wh (HWX.out.trans (HBH.out.mono HWX.out.size))) (HWX.out.trans (HBH.out.mono HWX.out.size)).size wh (Below.refl _ _)
            go_wp2_with fail
            refine HTB.out.mono ?_
            rintro e wx ⟨rfl, rfl⟩
            go_wp2_with fail
            refine (awake12_any wh (HDT.out wh (HWX.out.trans (HBH.out.mono HWX.out.size)))).mono ?_
            rintro e w9 ⟨rfl, hb9⟩
            have HB9 := Lib.hid (HB2.out.trans ((HWX.out.trans ((HBH.out.trans (hb9.out.mono HBH.out.size)).mono HWX.out.size)).mono HB2.out.size))
            clear hb9
            go_wp2_with fail
            go_ret
            exact ⟨rfl, HB9.out⟩
          · have HPA := Lib.hid (image_part FA ga s kk P Z tk M (img.length : Int) wr ha hf)
            have HAX0 : Hid (∀ W, Below wr.heap.size wr W → IsDec W FA ga s kk P Z M tk) := Lib.hid fun W hW => IsDec.below ha hW
            have HBX0 : Hid (∀ W, Below wr.heap.size wr W → IsDec W FB gb s kk P Z M tk) := Lib.hid fun W hW => IsDec.below hb hW
            have HF := Lib.hid hf
            clear hse htk hgt hdt hM hT hcf ha hb dab hbd hbw hf SR
            go_wp2_with fail
            refine HPA.out.mono ?_
            rintro e we ⟨rfl, hbe⟩
            have HBE := Lib.hid hbe.out
            have HPB := Lib.hid (image_part FB gb s kk P Z tk M (img.length : Int) we (HBX0.out we HBE.out) HF.out)
            clear HPA hbe
            go_wp2_with fail
            refine HPB.out.mono ?_
            rintro e wf ⟨rfl, hbf⟩
            have HBF := Lib.hid (HBE.out.trans (hbf.out.mono HBE.out.size))
            obtain ⟨GA, hGA⟩ : ∃ GA, FA = GA := ⟨_, rfl⟩
            obtain ⟨GB, hGB⟩ : ∃ GB, FB = GB := ⟨_, rfl⟩
            rw [hGA] at HAX0
            rw [hGB] at HBX0
            have HAX : Hid (∀ W, Below wf.heap.size wf W → IsDec W GA ga s kk P Z M tk) := Lib.hid fun W hW => HAX0.out W (HBF.out.trans (hW.mono HBF.out.size))
            have HBX : Hid (∀ W, Below wf.heap.size wf W → IsDec W GB gb s kk P Z M tk) := Lib.hid fun W hW => HBX0.out W (HBF.out.trans (hW.mono HBF.out.size))
            have HWX : Hid (Below w2.heap.size w2 wf) := Lib.hid (HBW.out.trans (HBF.out.mono HBW.out.size))
            clear HPB hbf hGA hGB HAX0 HBX0
            have HNA := Lib.hid (needs_any GA ga s kk P Z tk M wf (HAX.out wf (Below.refl _ _)) HIV.out HK.out HP.out HZZ.out)
            go_wp2_with fail
            refine HNA.out.mono ?_
            rintro e wg ⟨rfl, hbg⟩
            have HBG := Lib.hid hbg.out
            have HNB := Lib.hid (needs_any GB gb s kk P Z tk M wg (HBX.out wg HBG.out) HIV.out HK.out HP.out HZZ.out)
            clear HNA hbg
            go_wp2_with fail
            refine HNB.out.mono ?_
            rintro e wh ⟨rfl, hbh⟩
            have HBH := Lib.hid (HBG.out.trans (hbh.out.mono HBG.out.size))
            have HTA := Lib.hid (taken_any GA ga s kk P Z tk M wh (HAX.out wh HBH.out))
            have HTB := Lib.hid (taken_any GB gb s kk P Z tk M wh (HBX.out wh HBH.out))
            clear HNB hbh
            go_wp2_with fail
            refine HTA.out.mono ?_
            rintro e wx ⟨rfl, rfl⟩
            have hke := conv_row (l := []) 0 (Row.nil wh wh.heap.size none) (Nat.le_refl _) wh (Below.refl _ _)
            go_wp2_with fail
            refine HTB.out.mono ?_
            rintro e wx ⟨rfl, rfl⟩
            go_wp2_with fail
            refine (awake12_any wh (HDT.out wh (HWX.out.trans (HBH.out.mono HWX.out.size)))).mono ?_
            rintro e w9 ⟨rfl, hb9⟩
            have HB9 := Lib.hid (HB2.out.trans ((HWX.out.trans ((HBH.out.trans (hb9.out.mono HBH.out.size)).mono HWX.out.size)).mono HB2.out.size))
            clear hb9
            go_wp2_with fail
            go_ret
            exact ⟨rfl, HB9.out⟩
end Go.Proofs.YtpmmolamdlcmnaaGreatDoor.Dc
namespace Go.Proofs.YtpmmolamdlcmnaaGreatDoor
open Go.ChangeShapes Go.WideShapes Go.ChangeAt Go.RowKit
theorem nums_at {w : World} {a : Addr} {c : Nat} {f : Nat → Value} (h : ∀ i, i < c → w.cell? (a.add i) = some (f i)) (hp : 0 < c) :
    ∃ b o, a = ⟨b, o, none⟩ ∧ ∀ i, i < c → w.cell? ⟨b, o + i, none⟩ = some (f i) := by
  obtain ⟨b, o, spot⟩ := a
  have hspot : spot = none := by simpa [Addr.add] using World.cell?_spot (h 0 hp)
  subst hspot
  exact ⟨b, o, rfl, fun i hi => by rw [← Go.WideShapes.add_plain]; exact h i hi⟩
theorem open_nums {H : Type} {enc : TypeId × Value → H} {P : Program} {W : World} {base : Nat} {t e : TypeId} {v : Value} {d : DataW H} {ps : List MemPlace}
    (ht : P.underlying t = some (.slice e)) (he : P.underlying e = some (.int .i64)) (hc : P.cellsOf e = 1) (hval : Value.okWide P W .any base t v) (h : DataW.Trod enc P W 0 (fun _ => true) true t v d ps) :
    ∃ (A : Option Addr) (n cap : Nat) (zs : List Int), v = .slice A n cap ∧ n ≤ cap ∧ cap ≤ 9223372036854775807 ∧
      (∀ i, i < n → ∃ b o, A = some ⟨b, o, none⟩ ∧ b < W.heap.size ∧ W.cell? ⟨b, o + i, none⟩ = some (.int .i64 (zs.getD i 0)) ∧ -9223372036854775808 ≤ zs.getD i 0 ∧ zs.getD i 0 ≤ 9223372036854775807) := by
  obtain ⟨a0, len, cap, rfl⟩ := okWide_slice ht hval
  obtain ⟨fuel, hf⟩ := h
  rcases open_ints ht he hc hf with ⟨hcs, hx⟩ | ⟨a, len', cap', zs, hcs, _, hl, hm, hz, hx, hcell, hwz⟩
  · simp [Value.cells] at hcs
    obtain ⟨rfl, rfl, rfl⟩ := hcs
    exact ⟨none, 0, 0, [], rfl, Nat.le_refl _, by omega, fun i hi => by omega⟩
  · simp [Value.cells] at hcs
    obtain ⟨rfl, rfl, rfl⟩ := hcs
    unfold maxLen at hm
    simp at hz
    refine ⟨_, _, _, zs, rfl, hl, by omega, fun i hi => ?_⟩
    obtain ⟨b, o, rfl, hc2⟩ := nums_at hcell (by omega)
    have hi2 : i < zs.length := by omega
    have hmem : zs.getD i 0 ∈ zs := by rw [List.getD_eq_getElem?_getD, List.getElem?_eq_getElem hi2]; exact List.getElem_mem hi2
    have hw := hwz _ hmem
    have hb : -9223372036854775808 ≤ zs.getD i 0 ∧ zs.getD i 0 ≤ 9223372036854775807 := by simpa [Lit.wf, IntKind.min, IntKind.max, IntKind.signed, IntKind.bits] using hw
    exact ⟨b, o, rfl, block_lt_of_cell (hc2 i hi2), hc2 i hi2, hb.1, hb.2⟩
end Go.Proofs.YtpmmolamdlcmnaaGreatDoor
namespace Go.Proofs.YtpmmolamdlcmnaaGreatDoor
open Go.ChangeShapes Go.WideShapes Go.ChangeAt Go.RowKit
theorem open_u32s {H : Type} {enc : TypeId × Value → H} {P : Program} {W : World} {base : Nat} {t e : TypeId} {v : Value} {d : DataW H} {ps : List MemPlace}
    (ht : P.underlying t = some (.slice e)) (he : P.underlying e = some (.int .u32)) (hc : P.cellsOf e = 1) (hval : Value.okWide P W .any base t v) (h : DataW.Trod enc P W 0 (fun _ => true) true t v d ps) :
    ∃ (A : Option Addr) (n cap : Nat) (us : List Nat), v = .slice A n cap ∧ n ≤ cap ∧ cap ≤ 9223372036854775807 ∧
      (∀ i, i < n → ∃ b o, A = some ⟨b, o, none⟩ ∧ b < W.heap.size ∧ W.cell? ⟨b, o + i, none⟩ = some (.int .u32 ((us.getD i 0 : Nat) : Int)) ∧ us.getD i 0 < 4294967296) := by
  obtain ⟨a0, len, cap, rfl⟩ := okWide_slice ht hval
  obtain ⟨fuel, hf⟩ := h
  rcases open_ints ht he hc hf with ⟨hcs, hx⟩ | ⟨a, len', cap', zs, hcs, _, hl, hm, hz, hx, hcell, hwz⟩
  · simp [Value.cells] at hcs
    obtain ⟨rfl, rfl, rfl⟩ := hcs
    exact ⟨none, 0, 0, [], rfl, Nat.le_refl _, by omega, fun i hi => by omega⟩
  · simp [Value.cells] at hcs
    obtain ⟨rfl, rfl, rfl⟩ := hcs
    unfold maxLen at hm
    simp at hz
    refine ⟨_, _, _, zs.map Int.toNat, rfl, hl, by omega, fun i hi => ?_⟩
    obtain ⟨b, o, rfl, hc2⟩ := nums_at hcell (by omega)
    have hi2 : i < zs.length := by omega
    have hmem : zs.getD i 0 ∈ zs := by rw [List.getD_eq_getElem?_getD, List.getElem?_eq_getElem hi2]; exact List.getElem_mem hi2
    have hw := hwz _ hmem
    have hb : 0 ≤ zs.getD i 0 ∧ zs.getD i 0 ≤ 4294967295 := by simpa [Lit.wf, IntKind.min, IntKind.max, IntKind.signed, IntKind.bits] using hw
    have e : (zs.map Int.toNat).getD i 0 = (zs.getD i 0).toNat := by
      rw [List.getD_eq_getElem?_getD, List.getD_eq_getElem?_getD, List.getElem?_map, List.getElem?_eq_getElem hi2]; rfl
    refine ⟨b, o, rfl, block_lt_of_cell (hc2 i hi2), ?_, ?_⟩
    · rw [e, Int.toNat_of_nonneg hb.1]; exact hc2 i hi2
    · rw [e]; omega
end Go.Proofs.YtpmmolamdlcmnaaGreatDoor
namespace Go.Proofs.YtpmmolamdlcmnaaGreatDoor
open Go.RowKit Go.ChangeShapes Go.WideShapes Go.ChangeAt Vc
set_option maxRecDepth 100000 in
theorem decodeTwo_lifted (os : Os) (started : os.Started) (H : Type) (enc : TypeId × Value → H) :
    ReturnsInHanded {} Tryz.checked os 6 .any (fun w args => (Rows.decodeTwoSpec.pre enc Tryz.prog Tryz.f6 [] false w args ∧ laidMetH Tryz.prog LB w) ∧ sizedMet enc Tryz.prog Tryz.f6 (OpenSpec.ofChange Rows.decodeTwoSpec) false w args) (Rows.decodeTwoSpec.post enc Tryz.prog Tryz.f6 false true false false) := by
  refine law_lift_laid (C := Tryz.checked) (tb := 4) (X := fun w _ => laidMetH Tryz.prog LB w) (fun _ _ _ hh h => h.of_heap hh) Tryz.own started (by kernel_rfl) Tryz.func6
    (ChangeSpec.witness_shaped (enc := enc) (C := Tryz.checked) (os := os) (X := fun w _ => laidMetH Tryz.prog LB w) false (World.doorLaid Tryz.prog 400 os) #[.agg #[.int .u32 0, .int .i64 0, .int .i64 0, .int .i64 0], .slice none 0 0, .slice none 0 0, .int .i64 0] 8 rfl (World.shaped_of_RefB (by kernel_rfl) (by kernel_rfl)) (by kernel_rfl) (by kernel_rfl) (by kernel_rfl) (door_metB os _)) Tryz.laidOut (by kernel_rfl) rfl rfl Tryz.underlying4 ?_ ?_
  · intro ds hds
    match ds, hds with
    | [_, _, _, _], _ => rfl
  intro W base args ds p hval0 hA0 _ _ hsz0 hX0
  have hval : ∀ (j : Nat) t v, Tryz.f6.params[j]? = some t → args[j]? = some v → Value.okWide Tryz.prog W .any base t v := hval0
  have hA : DataW.TrodAll enc Tryz.prog W 0 (fun _ => true) true Tryz.f6.params.toList args.toList ds p := hA0
  rw [Tryz.params6] at hA hval
  obtain ⟨v0, vs0, d0, ds0, p0, q0, hargs0, hds0, hps0, h0, r0⟩ := trodAll_cons hA
  obtain ⟨v1, vs1, d1, ds1, p1, q1, hargs1, hds1, hps1, h1, r1⟩ := trodAll_cons r0
  obtain ⟨v2, vs2, d2, ds2, p2, q2, hargs2, hds2, hps2, h2, r2⟩ := trodAll_cons r1
  obtain ⟨v3, vs3, d3, ds3, p3, q3, hargs3, hds3, hps3, h3, r3⟩ := trodAll_cons r2
  obtain ⟨e1, _, _⟩ := trodAll_nil r3
  obtain rfl : args = #[v0, v1, v2, v3] := by cases args; simp_all
  obtain ⟨s0, K0, L0, Z0, rfl, hps0, hpK0, hpL0, hpZ0⟩ := open_par Tryz.underlying35 ⟨rfl, rfl, rfl, rfl⟩ Tryz.underlying22 Tryz.underlying3 Tryz.underlying3 Tryz.underlying3 ⟨by kernel_rfl, by kernel_rfl, by kernel_rfl, by kernel_rfl⟩ (by kernel_rfl) (hval 0 35 v0 rfl rfl) h0
  obtain ⟨A1, n1, cap1, l1, rfl, hrow1, hnc1, hcm1⟩ := open_bytes Tryz.underlying23 Tryz.underlying5 Tryz.cells5 (hval 1 23 v1 rfl rfl) h1
  obtain ⟨A2, n2, cap2, us2, rfl, hnc2, hcm2, hus2⟩ := open_u32s Tryz.underlying36 Tryz.underlying22 (by kernel_rfl) (hval 2 36 v2 rfl rfl) h2
  obtain ⟨x3, rfl, hx3, hy3⟩ := open_i64 Tryz.underlying3 (hval 3 3 v3 rfl rfl) h3
  exact Dc.dctwo_walk s0 n1 cap1 n2 cap2 x3 us2 K0 L0 Z0 A1 A2 l1 W (dtab_of_laid hX0) hps0 hrow1 ⟨hnc1, hcm1⟩ hus2

theorem decodeTwo_holds : Rows.DecodeTwoSaid :=
  OpenClaim.holds_of_wide 6 Tryz.f6 rfl rfl rfl rfl rfl rfl rfl ⟨rfl, rfl, rfl, rfl, rfl⟩ rfl rfl rfl rfl rfl (by kernel_rfl) Tryz.func6 (by kernel_rfl)
    (of_decide_eq_true (by kernel_rfl)) (by unfold Func.isWrapper; rw [if_neg (of_decide_eq_false (by kernel_rfl))]; exact ⟨rfl, rfl⟩)
    (fun os started H enc _ => decodeTwo_lifted os started H enc)

theorem decodeTwo_card : Rows.DecodeTwoCardSaid :=
  Claim7.holds_tied_plain_at .later [] [.data] true _ false
    decodeTwo_holds (fun _ h => by cases h) (by kernel_rfl) (fun _ h => by cases h) decodeTwo_row_tie rfl ⟨rfl, rfl⟩ (by kernel_rfl) rfl
    (fun f fn hf hfn => by
      obtain rfl : f = 6 := Option.some.inj ((show Tryz.prog.funcNamed "downpour/downpourlaw12.DecodeTwo" = some 6 by kernel_rfl).symm.trans hf) |>.symm
      obtain rfl : fn = Tryz.f6 := (Option.some.inj (Tryz.func6.symm.trans hfn)).symm
      exact ⟨by kernel_rfl, fun j t ht => by
        rw [Tryz.params6] at ht
        have hm : t ∈ [35, 23, 36, 3] := by simpa using Array.mem_of_getElem? ht
        have hall : ([35, 23, 36, 3].all fun u => !Tryz.prog.wantsStandIn u) = true := by kernel_rfl
        exact (show Tryz.prog.wantsStandIn t = false by simpa using List.all_eq_true.1 hall t hm)⟩)
    (by kernel_rfl)
end Go.Proofs.YtpmmolamdlcmnaaGreatDoor
