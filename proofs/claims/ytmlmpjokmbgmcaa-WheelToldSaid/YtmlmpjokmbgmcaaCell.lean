/- cell.first, parse: by contracts. -/
import Derived.Test.YtmlmpjokmbgmcaaCrcPut
import Derived.Test.YtmlmpjokmbgmcaaFlFree
import Derived.Deep.RegionWith
namespace Go.Proofs.Ytmlmpjokmbgmcaa
open Go.RowKit
theorem first_num (x0 x1 x2 x3 : UInt8) (t : List UInt8) : CrcM.number ((x0 :: x1 :: x2 :: x3 :: t).take 4) = ((x0.toNat * 256 + x1.toNat) * 256 + x2.toNat) * 256 + x3.toNat := by
  simp [CrcM.number]
/-- what stands in a sector, if it is whole: its number and its bytes -/
def plen (b : List UInt8) : Nat := (b.getD 4 0).toNat * 256 + (b.getD 5 0).toNat
def partOk (b : List UInt8) : Prop := plen b ≤ 245 ∧ b.getD (10 + plen b) 0 = 0 ∧ isRight (b.take (10 + plen b))
def partN (b : List UInt8) : Nat := CrcM.number (b.take 4)
def partD (b : List UInt8) : List UInt8 := (b.take (6 + plen b)).drop 6
theorem partN_lt (b : List UInt8) : partN b < 4294967296 := by
  match b with
  | [] => decide
  | [x0] => have := CrcM.b_lt x0; simp [partN, CrcM.number]; omega
  | [x0, x1] => have := CrcM.b_lt x0; have := CrcM.b_lt x1; simp [partN, CrcM.number]; omega
  | [x0, x1, x2] => have := CrcM.b_lt x0; have := CrcM.b_lt x1; have := CrcM.b_lt x2; simp [partN, CrcM.number]; omega
  | x0 :: x1 :: x2 :: x3 :: t =>
    have := CrcM.b_lt x0; have := CrcM.b_lt x1; have := CrcM.b_lt x2; have := CrcM.b_lt x3
    unfold partN; rw [first_num]; omega
set_option maxRecDepth 100000 in
set_option maxHeartbeats 800000 in
theorem first_any (B n cap : Nat) (A : Option Addr) (l : List UInt8) (w : World) (hl : Row w B A n (bv l)) (h4 : 4 ≤ n) :
    Calls Try.prog 85 #[.slice A n cap] w fun e w' => e = .returned (.int .u32 (CrcM.number (l.take 4) : Nat)) ∧ ∃ q, w' = w.drewN q := by
  obtain ⟨b, o, rfl, _, h0l, h0⟩ := hl.byteAt (k := 0) (by omega)
  obtain ⟨b1, o1, e1, _, h1l, h1⟩ := hl.byteAt (k := 1) (by omega)
  injection e1 with e1
  injection e1 with e1 e1'
  subst e1 e1'
  obtain ⟨b1, o1, e1, _, h2l, h2⟩ := hl.byteAt (k := 2) (by omega)
  injection e1 with e1
  injection e1 with e1 e1'
  subst e1 e1'
  obtain ⟨b1, o1, e1, _, h3l, h3⟩ := hl.byteAt (k := 3) (by omega)
  injection e1 with e1
  injection e1 with e1 e1'
  subst e1 e1'
  rw [Nat.add_zero] at h0
  have hnum : CrcM.number (l.take 4) = ((l[0].toNat * 256 + l[1].toNat) * 256 + l[2].toNat) * 256 + l[3].toNat := by
    match l, h3l with
    | x0 :: x1 :: x2 :: x3 :: t, _ => exact first_num x0 x1 x2 x3 t
  have HNUM := Lib.hid hnum
  have i0 : (0 : Int) < n := by omega
  have i1 : (1 : Int) < n := by omega
  have i2 : (2 : Int) < n := by omega
  have i3 : (3 : Int) < n := by omega
  have q0 := CrcM.b_lt l[0]
  have q1 := CrcM.b_lt l[1]
  have q2 := CrcM.b_lt l[2]
  have q3 := CrcM.b_lt l[3]
  generalize l[0].toNat = x0 at *
  generalize l[1].toNat = x1 at *
  generalize l[2].toNat = x2 at *
  generalize l[3].toNat = x3 at *
  clear hnum
  go_enter Try.func85, Try.ntmps85
  go_wp2
  go_quiet (fail)
  go_wp2
  go_ret
  refine ⟨?_, nq, rfl⟩
  have e : bits .or .u32 (bits .or .u32 (bits .or .u32 ((x0 : Int) * 16777216) ((x1 : Int) * 65536)) ((x2 : Int) * 256)) (x3 : Int) = ((((x0 * 256 + x1) * 256 + x2) * 256 + x3 : Nat) : Int) := by
    rw [show (x0 : Int) * 16777216 = ((x0 * 16777216 : Nat) : Int) by omega, show (x1 : Int) * 65536 = ((x1 * 65536 : Nat) : Int) by omega, show (x2 : Int) * 256 = ((x2 * 256 : Nat) : Int) by omega]
    rw [u32_or_nat _ _ (by omega) (by omega), nat_join 24 _ _ (by omega) (by omega), u32_or_nat _ _ (by omega) (by omega), nat_join 16 _ _ (by omega) (by omega), u32_or_nat _ _ (by omega) (by omega), nat_join 8 _ _ (by omega) (by omega)]
    congr 1
    omega
  show Ending.returned (.int .u32 _) = _
  rw [HNUM.out, ← e]
/-- parse's answer: three cells -/
def PartIs (b : List UInt8) (base : Nat) (W : World) (wh : Bool) (num : Nat) (A : Option Addr) (n c : Nat) : Prop :=
  (partOk b ∧ wh = true ∧ num = partN b ∧ n = plen b ∧ n ≤ c ∧ c ≤ 9223372036854775807 ∧ Row W W.heap.size A n (bv (partD b)) ∧ ∀ g o, A = some ⟨g, o, none⟩ → 0 < n → base ≤ g) ∨ (¬ partOk b ∧ wh = false ∧ num = 0 ∧ A = none ∧ n = 0 ∧ c = 0)
def PParseOk (b : List UInt8) (w : World) (e : Ending) (w' : World) : Prop :=
  ∃ wh num A n c, e = .returned (.agg #[.bool wh, .int .u32 (num : Nat), .slice A n c]) ∧ Hid (PartIs b w.heap.size w' wh num A n c) ∧ Hid (Below w.heap.size w w')
theorem results_cell_row {P : Program} {fn : Func} {p : Tmp} {ty : TypeId} (h : fn.results = #[.cell p ty]) (tmps : Array Value) (w : World) (g : Nat) (t : TypeId) (cs : Array Value) (fr : Nat × Nat) (d : TypeDesc)
    (hp : tmps.getD p undef = .pointer (some ⟨g, 0, none⟩)) (hg : w.heap[g]? = some (.cells cs t fr))
    (hu : P.underlying ty = some d) (hd : (match d with | .struct _ | .array _ _ => true | _ => false) = true) (hi : (P.info? ty).map (·.size) = some cs.size) :
    (results fn tmps).run P w = .ok (.agg cs) w := by
  have hp' : tmps[p]?.getD undef = .pointer (some ⟨g, 0, none⟩) := by simpa using hp
  simp [results, h, hp', asAddr, run_loadVar_row w g t ty cs fr d hg hu hd hi]
theorem part3 {w : World} {g : Nat} {a b c : Value} {t : TypeId} (h : w.heap[g]? = some (.cells #[a, b, c] t (0, 0))) (x y z : Value) : (((w.setCell ⟨g, 0, none⟩ x).setCell ⟨g, 1, none⟩ y).setCell ⟨g, 2, none⟩ z).heap[g]? = some (.cells #[x, y, z] t (0, 0)) :=
  heap_setCell_same _ g 2 _ t z (heap_setCell_same _ g 1 _ t y (heap_setCell_same w g 0 _ t x h))
theorem row_set3 {w : World} {g n : Nat} {A : Option Addr} {xs : List Value} (h : Row w w.heap.size A n xs) (hA : ∀ b o, A = some ⟨b, o, none⟩ → b ≠ g) (x y z : Value) :
    Row (((w.setCell ⟨g, 0, none⟩ x).setCell ⟨g, 1, none⟩ y).setCell ⟨g, 2, none⟩ z) (((w.setCell ⟨g, 0, none⟩ x).setCell ⟨g, 1, none⟩ y).setCell ⟨g, 2, none⟩ z).heap.size A n xs :=
  (h.apart (fun _ => hA) (((grown_set w g 0 x).trans (grown_set _ g 1 y)).trans (grown_set _ g 2 z)) (Nat.le_refl _)).more (by simp)
def partZ : Obj := .cells #[.bool false, .int .u32 0, .slice none 0 0] 89
/-- bytes 4 and 5, where the part's own cells are laid -/
theorem part_bytes {B : Nat} {A : Option Addr} {l : List UInt8} {w : World} (hl : Row w B A 256 (bv l)) (hB : B ≤ w.heap.size) :
    ∃ b o, A = some ⟨b, o, none⟩ ∧ b < B ∧ (∀ k, k < 256 → (w.alloc partZ).cell? ⟨b, o + k, none⟩ = some (.int .u8 ((l.getD k 0).toNat : Int))) := by
  obtain ⟨b, o, e, hb, _⟩ := hl.byteAt (k := 4) (by omega)
  refine ⟨b, o, e, hb, fun k hk => ?_⟩
  obtain ⟨b1, o1, e1, _, hkl, hc⟩ := (hl.alloc hB partZ).byteAt hk
  rw [e] at e1
  injection e1 with e1
  injection e1 with e1 e1'
  subst e1 e1'
  rw [hc]; simp [List.getD, hkl]
set_option maxRecDepth 100000 in
set_option maxHeartbeats 1600000 in
theorem parse_no (B cap : Nat) (A : Option Addr) (l : List UInt8) (w : World) (hl : Row w B A 256 (bv l)) (hcap : 256 ≤ cap) (hcm : cap ≤ 9223372036854775807) (hB : B ≤ w.heap.size) (h : 245 < plen l ∨ l.getD (10 + plen l) 0 ≠ 0) :
    Calls Try.prog 72 #[.slice A 256 cap] w (PParseOk l w) := by
  have hno : ¬ partOk l := by
    rintro ⟨h1, h2, _⟩
    rcases h with h | h
    · omega
    · exact h h2
  have HNO := Lib.hid hno
  obtain ⟨b, o, rfl, _, hc⟩ := part_bytes hl hB
  have h4 := hc 4 (by omega)
  have h5 := hc 5 (by omega)
  have q4 := CrcM.b_lt (l.getD 4 0)
  have q5 := CrcM.b_lt (l.getD 5 0)
  have HC := Lib.hid hc
  obtain ⟨pl, hpl⟩ : ∃ pl, plen l = pl := ⟨_, rfl⟩
  have hpe : (l.getD 4 0).toNat * 256 + (l.getD 5 0).toNat = pl := hpl
  rw [hpl] at h
  generalize (l.getD 4 0).toNat = x4 at *
  generalize (l.getD 5 0).toNat = x5 at *
  have HPE : Hid ((x4 : Int) * 256 + (x5 : Int) = (pl : Int)) := by show _ = _; omega
  have hplm : pl ≤ 65535 := by omega
  have i4 : (4 : Int) < 256 := by omega
  have i5 : (5 : Int) < 256 := by omega
  have hba : Below w.heap.size w (w.alloc partZ) := (Below.refl _ _).alloc (Nat.le_refl _) _
  have HBA := Lib.hid hba
  have HH := Lib.hid h
  have HZ := Lib.hid (heap_alloc_new w partZ)
  clear hpe hpl hno hc h hba hl
  unfold partZ at h4 h5
  by_cases hbig : 245 < pl
  · go_enter Try.func72, Try.ntmps72
    go_wp2_with fail
    go_quiet (fail)
    go_wp2_with (rw [HPE.out])
    have hrow := part3 (show ((w.alloc partZ).drewN nq).heap[w.heap.size]? = some _ from HZ.out) (.bool false) (.int .u32 0) (.slice none 0 0)
    refine bodyPost_ret (results_cell_row rfl _ _ w.heap.size _ _ (0, 0) _ rfl hrow Try.underlying89 rfl (by kernel_rfl)) rfl ?_
    exact ⟨false, 0, none, 0, 0, rfl, .inr ⟨HNO.out, rfl, rfl, rfl, rfl, rfl⟩, (((below_drewN HBA.out nq).setCell (Nat.le_refl _) _).setCell (Nat.le_refl _) _).setCell (Nat.le_refl _) _⟩
  · have hmk : l.getD (10 + pl) 0 ≠ 0 := by rcases HH.out with h | h; omega; exact h
    have hm := HC.out (6 + pl + 4) (by omega)
    rw [show 6 + pl + 4 = 10 + pl by omega] at hm
    have hq : ((l.getD (10 + pl) 0).toNat : Int) ≠ 0 := fun e => hmk (UInt8.toNat.inj (by rw [Int.ofNat.inj e]; rfl))
    have hq2 : (((l.getD (10 + pl) 0).toNat : Int) != 0) = true := by simpa using hq
    rw [show 10 + pl = 6 + pl + 4 by omega] at hm hq2
    generalize ((l.getD (6 + pl + 4) 0).toNat : Int) = mk at *
    unfold partZ at hm
    have hi1 : (6 : Int) + pl + 4 < 256 := by omega
    clear hmk hq
    go_enter Try.func72, Try.ntmps72
    go_wp2_with fail
    go_quiet (fail)
    go_wp2_with (rw [HPE.out])
    have hrow := part3 (show ((w.alloc partZ).drewN nq).heap[w.heap.size]? = some _ from HZ.out) (.bool false) (.int .u32 0) (.slice none 0 0)
    refine bodyPost_ret (results_cell_row rfl _ _ w.heap.size _ _ (0, 0) _ rfl hrow Try.underlying89 rfl (by kernel_rfl)) rfl ?_
    exact ⟨false, 0, none, 0, 0, rfl, .inr ⟨HNO.out, rfl, rfl, rfl, rfl, rfl⟩, (((below_drewN HBA.out nq).setCell (Nat.le_refl _) _).setCell (Nat.le_refl _) _).setCell (Nat.le_refl _) _⟩
set_option maxRecDepth 100000 in
set_option maxHeartbeats 3200000 in
theorem parse_right (B cap : Nat) (A : Option Addr) (l : List UInt8) (w : World) (hl : Row w B A 256 (bv l)) (hcap : 256 ≤ cap) (hcm : cap ≤ 9223372036854775807) (hB : B ≤ w.heap.size) (h1 : plen l ≤ 245) (h2 : l.getD (10 + plen l) 0 = 0) :
    Calls Try.prog 72 #[.slice A 256 cap] w (PParseOk l w) := by
  have HR0 := Lib.hid hl
  have HLL := Lib.hid hl.blen
  obtain ⟨b, o, rfl, _, hc⟩ := part_bytes hl hB
  have h4 := hc 4 (by omega)
  have h5 := hc 5 (by omega)
  have q4 := CrcM.b_lt (l.getD 4 0)
  have q5 := CrcM.b_lt (l.getD 5 0)
  obtain ⟨pl, hpl⟩ : ∃ pl, plen l = pl := ⟨_, rfl⟩
  have hpe : (l.getD 4 0).toNat * 256 + (l.getD 5 0).toNat = pl := hpl
  rw [hpl] at h1 h2
  have HPL := Lib.hid hpl
  have hm := hc (6 + pl + 4) (by omega)
  rw [show 6 + pl + 4 = 10 + pl by omega, h2] at hm
  rw [show 10 + pl = 6 + pl + 4 by omega] at hm
  generalize (l.getD 4 0).toNat = x4 at *
  generalize (l.getD 5 0).toNat = x5 at *
  have HPE : Hid ((x4 : Int) * 256 + (x5 : Int) = (pl : Int)) := by show _ = _; omega
  have i4 : (4 : Int) < 256 := by omega
  have i5 : (5 : Int) < 256 := by omega
  have hi1 : (6 : Int) + pl + 4 < 256 := by omega
  have hic : (6 : Int) + pl + 4 ≤ cap := by omega
  have HBA : Hid (Below w.heap.size w (w.alloc partZ)) := (Below.refl _ _).alloc (Nat.le_refl _) _
  have HZ := Lib.hid (heap_alloc_new w partZ)
  have HRA := Lib.hid (hl.alloc hB partZ)
  have hsz : (w.alloc partZ).heap.size = w.heap.size + 1 := by simp
  have HSZ := Lib.hid hsz
  have H2 := Lib.hid h2
  have hm0 : ((0 : UInt8).toNat : Int) = 0 := rfl
  rw [hm0] at hm
  clear hpe hpl hc hl hsz h2 hm0
  unfold partZ at h4 h5 hm
  go_enter Try.func72, Try.ntmps72
  go_wp2_with fail
  go_quiet (fail)
  obtain ⟨wd, hwd⟩ : ∃ wd, wd = (w.alloc partZ).drewN nq := ⟨_, rfl⟩
  have HRD : Hid (Row wd B (some ⟨b, o, none⟩) (6 + pl + 4) (bv (l.take (6 + pl + 4)))) := by
    rw [hwd]
    have := (HRA.out.drewN nq).head (k := 6 + pl + 4) (by omega)
    rwa [bv_take] at this
  have HBD : Hid (Below w.heap.size w wd) := by rw [hwd]; exact below_drewN HBA.out nq
  have HZD : Hid (wd.heap[w.heap.size]? = some partZ) := by rw [hwd]; exact HZ.out
  have HRF : Hid (Row wd B (some ⟨b, o, none⟩) 256 (bv l)) := by rw [hwd]; exact HRA.out.drewN nq
  have HSD : Hid (wd.heap.size = w.heap.size + 1) := by rw [hwd]; exact HSZ.out
  have HWD := Lib.hid hwd
  clear hwd
  go_upto_region 4 with (rw [HPE.out])
  rw [show ((w.alloc (.cells #[.bool false, .int .u32 0, .slice none 0 0] 89)).drewN nq) = wd from HWD.out.symm]
  clear h4 h5 hm HWD HZ HRA HBA
  by_cases hr : isRight (l.take (6 + pl + 4))
  · have HOK : Hid (partOk l) := by
      show partOk l
      refine ⟨by rw [HPL.out]; exact h1, ?_, ?_⟩
      · rw [HPL.out]; exact H2.out
      · rw [HPL.out, show 10 + pl = 6 + pl + 4 by omega]; exact hr
    have HCR := Lib.hid (right_yes B (6 + pl + 4) cap _ _ wd HRD.out (by omega) hcm (by omega) (by have := HSD.out; omega) hr)
    have hml : (l.take (6 + pl + 4)).take ((l.take (6 + pl + 4)).length - 4) = l.take (6 + pl) := by
      rw [List.length_take, HLL.out, Nat.min_eq_left (by omega), List.take_take, show min (6 + pl + 4 - 4) (6 + pl + 4) = 6 + pl by omega]
    rw [hml] at HCR
    clear hr hml
    go_wp2_with fail
    refine HCR.out.mono ?_
    rintro e w2 ⟨A2, n2, c2, rfl, hn2, hown2, hb2⟩
    obtain rfl : n2 = 6 + pl := by rw [hn2.out, List.length_take, HLL.out]; omega
    obtain ⟨G, cG, hv, hG1, hG2⟩ := hown2.form (by omega)
    injection hv with e1 e2 e3
    subst e1 e3
    have hc2 := own_cap hown2
    have hz2 : w2.heap[w.heap.size]? = some partZ := (hb2.block w.heap.size (by have := HSD.out; omega)).trans HZD.out
    have z0 := frozen_of_row w2 w.heap.size 0 _ _ hz2
    have z1 := frozen_of_row w2 w.heap.size 1 _ _ hz2
    have z2 := frozen_of_row w2 w.heap.size 2 _ _ hz2
    have y0 : w2.cell? ⟨w.heap.size, 0, none⟩ = some (.bool false) := by rw [cell_of_row w2 w.heap.size 0 _ _ (0, 0) hz2]; rfl
    have y1 : w2.cell? ⟨w.heap.size, 1, none⟩ = some (.int .u32 0) := by rw [cell_of_row w2 w.heap.size 1 _ _ (0, 0) hz2]; rfl
    have y2 : w2.cell? ⟨w.heap.size, 2, none⟩ = some (.slice none 0 0) := by rw [cell_of_row w2 w.heap.size 2 _ _ (0, 0) hz2]; rfl
    have HZ2 := Lib.hid hz2
    have HB2 : Hid (Below w.heap.size w w2) := HBD.out.trans (hb2.mono HBD.out.size)
    have hfst : ∀ q, Calls Try.prog 85 #[.slice (some ⟨b, o, none⟩) 256 cap] (w2.drewN q) fun e w' => e = .returned (.int .u32 (partN l : Nat)) ∧ ∃ q', w' = (w2.drewN q).drewN q' :=
      fun q => first_any B 256 cap (some ⟨b, o, none⟩) l (w2.drewN q) ((HRF.out.below (hb2.mono (by have := HSD.out; omega))).drewN q) (by omega)
    have hfst2 : Calls Try.prog 85 #[.slice (some ⟨b, o, none⟩) 256 cap] w2.drew fun e w' => e = .returned (.int .u32 (partN l : Nat)) ∧ ∃ q', w' = w2.drew.drewN q' :=
      first_any B 256 cap (some ⟨b, o, none⟩) l w2.drew (HRF.out.below (hb2.mono (by have := HSD.out; omega))).drew (by omega)
    have HFST := Lib.hid hfst2
    have HROW := Lib.hid ((Row.of_own hown2).tail (k := 6) (cap := c2) (by omega) (by omega))
    have HG1 := Lib.hid hG1
    have HC2 := Lib.hid hc2
    have h6c : (6 : Int) ≤ c2 := by omega
    have h6p : (6 : Int) ≤ 6 + (pl : Int) := by omega
    clear hz2 hb2 HCR hown2 hn2 hc2 hfst hfst2
    have HDT : Hid (∀ q A', A' = (if c2 = 6 then some ⟨G, 0, none⟩ else (some (⟨G, 0, none⟩ : Addr)).map fun x => x.add 6) → Row (w2.drewN q) (w2.drewN q).heap.size A' pl (bv (partD l)) ∧ ∀ b o, A' = some ⟨b, o, none⟩ → b ≠ w.heap.size ∧ w.heap.size ≤ b) := by
      intro q A' hA'
      have h1 := HROW.out
      rw [← hA', show 6 + pl - 6 = pl by omega, bv_drop] at h1
      refine ⟨?_, fun b' o' e => ?_⟩
      · have e : partD l = (l.take (6 + pl)).drop 6 := by unfold partD; rw [HPL.out]
        rw [e]; exact h1.drewN q
      · rw [e] at hA'
        have hG := HG1.out
        have hS := HSD.out
        by_cases h6 : c2 = 6
        · rw [if_pos h6] at hA'
          injection hA' with hA'
          injection hA' with hA'
          omega
        · rw [if_neg h6, Option.map_some, plain_add] at hA'
          injection hA' with hA'
          injection hA' with hA'
          omega
    clear HROW
    by_cases h6 : c2 = 6
    · have hp0 : pl = 0 := by have := HC2.out; omega
      subst hp0
      subst h6
      go_wp2_with fail
      go_region_with (go_at_call 85; (with_reducible refine HFST.out.mono ?_); rintro e w' ⟨rfl, q, rfl⟩)
      go_wp2_with fail
      have hrow := part3 (show (w2.drewN (1 + q)).heap[w.heap.size]? = some _ from HZ2.out) (.bool true) (.int .u32 (partN l : Nat)) (.slice (some ⟨G, 0, none⟩) 0 0)
      refine bodyPost_ret (results_cell_row rfl _ _ w.heap.size _ _ (0, 0) _ rfl hrow Try.underlying89 rfl (by kernel_rfl)) rfl ?_
      obtain ⟨d1, d2⟩ := HDT.out (1 + q) (some ⟨G, 0, none⟩) rfl
      exact ⟨true, partN l, some ⟨G, 0, none⟩, 0, 0, rfl, .inl ⟨HOK.out, rfl, rfl, HPL.out.symm, by omega, by omega, row_set3 d1 (fun b o e => (d2 b o e).1) _ _ _, fun g o e _ => (d2 g o e).2⟩, (((below_drewN HB2.out _).setCell (Nat.le_refl _) _).setCell (Nat.le_refl _) _).setCell (Nat.le_refl _) _⟩
    · go_wp2_with fail
      go_region_with (go_at_call 85; (with_reducible refine HFST.out.mono ?_); rintro e w' ⟨rfl, q, rfl⟩)
      go_wp2_with fail
      have hrow := part3 (show (w2.drewN (1 + q)).heap[w.heap.size]? = some _ from HZ2.out) (.bool true) (.int .u32 (partN l : Nat)) (.slice (some ⟨G, 6, none⟩) pl (c2 - 6))
      refine bodyPost_ret (results_cell_row rfl _ _ w.heap.size _ _ (0, 0) _ rfl hrow Try.underlying89 rfl (by kernel_rfl)) rfl ?_
      obtain ⟨d1, d2⟩ := HDT.out (1 + q) (some ⟨G, 6, none⟩) (by rw [if_neg h6, Option.map_some, plain_add])
      have hcc := HC2.out
      exact ⟨true, partN l, some ⟨G, 6, none⟩, pl, c2 - 6, rfl, .inl ⟨HOK.out, rfl, rfl, HPL.out.symm, by omega, by omega, row_set3 d1 (fun b o e => (d2 b o e).1) _ _ _, fun g o e _ => (d2 g o e).2⟩, (((below_drewN HB2.out _).setCell (Nat.le_refl _) _).setCell (Nat.le_refl _) _).setCell (Nat.le_refl _) _⟩
  · have HNO : Hid (¬ partOk l) := by
      rintro ⟨_, _, h3⟩
      rw [HPL.out, show 10 + pl = 6 + pl + 4 by omega] at h3
      exact hr h3
    have HCR := Lib.hid (right_no B (6 + pl + 4) cap _ _ wd HRD.out (by omega) hcm (by have := HSD.out; omega) hr)
    clear hr
    go_wp2_with fail
    refine HCR.out.mono ?_
    rintro e w2 ⟨rfl, hb2⟩
    have hz2 : w2.heap[w.heap.size]? = some partZ := (hb2.block w.heap.size (by have := HSD.out; omega)).trans HZD.out
    have z0 := frozen_of_row w2 w.heap.size 0 _ _ hz2
    have z1 := frozen_of_row w2 w.heap.size 1 _ _ hz2
    have z2 := frozen_of_row w2 w.heap.size 2 _ _ hz2
    have y0 : w2.cell? ⟨w.heap.size, 0, none⟩ = some (.bool false) := by rw [cell_of_row w2 w.heap.size 0 _ _ (0, 0) hz2]; rfl
    have y1 : w2.cell? ⟨w.heap.size, 1, none⟩ = some (.int .u32 0) := by rw [cell_of_row w2 w.heap.size 1 _ _ (0, 0) hz2]; rfl
    have y2 : w2.cell? ⟨w.heap.size, 2, none⟩ = some (.slice none 0 0) := by rw [cell_of_row w2 w.heap.size 2 _ _ (0, 0) hz2]; rfl
    have HZ2 := Lib.hid hz2
    have HB2 : Hid (Below w.heap.size w w2) := HBD.out.trans (hb2.mono HBD.out.size)
    clear hz2 hb2 HCR
    go_wp2_with fail
    have hrow := part3 (show w2.heap[w.heap.size]? = some _ from HZ2.out) (.bool false) (.int .u32 0) (.slice none 0 0)
    refine bodyPost_ret (results_cell_row rfl _ _ w.heap.size _ _ (0, 0) _ rfl hrow Try.underlying89 rfl (by kernel_rfl)) rfl ?_
    exact ⟨false, 0, none, 0, 0, rfl, .inr ⟨HNO.out, rfl, rfl, rfl, rfl, rfl⟩, ((HB2.out.setCell (Nat.le_refl _) _).setCell (Nat.le_refl _) _).setCell (Nat.le_refl _) _⟩
theorem parse_any (B cap : Nat) (A : Option Addr) (l : List UInt8) (w : World) (hl : Row w B A 256 (bv l)) (hcap : 256 ≤ cap) (hcm : cap ≤ 9223372036854775807) (hB : B ≤ w.heap.size) :
    Calls Try.prog 72 #[.slice A 256 cap] w (PParseOk l w) := by
  by_cases h : 245 < plen l ∨ l.getD (10 + plen l) 0 ≠ 0
  · exact parse_no B cap A l w hl hcap hcm hB h
  · by_cases h1 : plen l ≤ 245
    · by_cases h2 : l.getD (10 + plen l) 0 = 0
      · exact parse_right B cap A l w hl hcap hcm hB h1 h2
      · exact absurd (.inr h2) h
    · exact absurd (.inl (by omega)) h
end Go.Proofs.Ytmlmpjokmbgmcaa
