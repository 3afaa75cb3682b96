/- precode.parity: by contract. -/
import Derived.Deep.RegionHeld3
import Derived.Deep.LoopGhost
import Derived.Test.YtmncpgfdpcckpaaGreatDoorZBQN
import Derived.Test.YtmncpgfdpcckpaaGreatDoorZCQN
import Derived.Test.YtmncpgfdpcckpaaGreatDoorZDQN
set_option maxRecDepth 100000
namespace Go.Proofs.YtmncpgfdpcckpaaGreatDoor.Pc
open Go.RowKit
open VecM RdM Vc Sp
def odd (x : Int) : Bool := (x % 2 == 1)
def parX (x0 : Int) (b : Nat) : Nat → Nat
 | 0 => 2 ^ b
 | k + 1 => put (parX x0 b k) k (odd (mx (shk x0 (k + 1))))
theorem ofL_one' (n i : Nat) (h : i < n) : ofL n [(i : Int)] = 2 ^ i := by
 unfold ofL
 simp only [List.foldl_cons, List.foldl_nil]
 unfold setOne
 rw [if_pos (by omega)]
 simp
abbrev SPar (wc : World) (g1 s K P Z : Nat) (W : World) : Prop :=
 Below wc.heap.size wc W ∧ W.cell? ⟨g1, 0, none⟩ = some (.int .u32 (s : Int)) ∧ W.cell? ⟨g1, 1, none⟩ = some (.int .i64 (K : Int)) ∧ W.cell? ⟨g1, 2, none⟩ = some (.int .i64 (P : Int)) ∧ W.cell? ⟨g1, 3, none⟩ = some (.int .i64 (Z : Int))
theorem spar_keep {wc : World} {g1 s K P Z : Nat} {t1 : TypeId} (h1 : wc.heap[g1]? = some (.cells #[.int .u32 (s : Int), .int .i64 (K : Int), .int .i64 (P : Int), .int .i64 (Z : Int)] t1 (0, 0))) (W : World) (hW : Below wc.heap.size wc W) : SPar wc g1 s K P Z W :=
 ⟨hW, box4 ((hW.block g1 (Array.getElem?_eq_some_iff.1 h1).1).trans h1)⟩
theorem spar_next {wc W W' : World} {g1 s K P Z : Nat} (h : SPar wc g1 s K P Z W) (hb : Below W.heap.size W W') : Below wc.heap.size wc W' := h.1.trans (hb.mono h.1.size)
theorem spar_alloc {wc W : World} {g1 s K P Z : Nat} (h : SPar wc g1 s K P Z W) (o : Obj) : Below wc.heap.size wc (W.alloc o) := h.1.alloc h.1.size o
theorem spar_below {wc W : World} {g1 s K P Z : Nat} (h : SPar wc g1 s K P Z W) : Below wc.heap.size wc W := h.1
theorem row1 (W W1 : World) (q : Nat) (hb : Below (W.alloc (.cells #[.int .i64 (q : Int)] 3)).heap.size (W.alloc (.cells #[.int .i64 (q : Int)] 3)) W1) : Row W1 W1.heap.size (some ⟨W.heap.size, 0, none⟩) 1 (nv [(q : Int)]) := by
 have hr : Row (W.alloc (.cells #[.int .i64 (q : Int)] 3)) (W.heap.size + 1) (some ⟨W.heap.size, 0, none⟩) 1 (nv [(q : Int)]) := row_new W #[.int .i64 (q : Int)] 3 (0, 0)
 have hs : (W.alloc (.cells #[.int .i64 (q : Int)] 3)).heap.size = W.heap.size + 1 := by simp
 rw [← hs] at hr
 exact (hr.below hb).more hb.size
set_option maxHeartbeats 1600000 in
theorem parity_any (s K P Z j : Nat) (w : World) (hs : s < 4294967296) (hK : 1 ≤ K ∧ K ≤ 64) (hP : P ≤ 16) (hZ : 1 ≤ Z ∧ Z ≤ 16) (hj : j < P) : Calls Tryz.prog 100 #[parV s K P Z, .int .i64 (j : Int)] w (OfOk (K + P) (parX (seed (s : Int) (2147483648 + (j : Int))) (K + j) K) w) := by
 have HX0 := Lib.hid (heap_alloc_new w (.cells #[.int .u32 (s : Int), .int .i64 (K : Int), .int .i64 (P : Int), .int .i64 (Z : Int)] 76))
 have HB0 : Hid (Below w.heap.size w (w.alloc (.cells #[.int .u32 (s : Int), .int .i64 (K : Int), .int .i64 (P : Int), .int .i64 (Z : Int)] 76))) := (Below.refl _ _).alloc (Nat.le_refl _) _
 obtain ⟨q, hq⟩ : ∃ q, K + j = q := ⟨_, rfl⟩
 obtain ⟨n, hn⟩ : ∃ n, K + P = n := ⟨_, rfl⟩
 have hPi := fun W => pieces_any s (K : Int) (P : Int) (Z : Int) W (by omega) (by omega)
 rw [show mayB (K : Int) (P : Int) (Z : Int) = true from (mayB_iff _ _ _).2 (by omega), if_pos rfl, show (K : Int) + (P : Int) = (n : Int) by omega] at hPi
 have hO := fun W (A : Option Addr) (c : Nat) (hr : Row W W.heap.size A 1 (nv [(q : Int)])) => of_any n A 1 c W.heap.size [(q : Int)] W hr (Nat.le_refl _) (by omega) (by omega)
 rw [ofL_one' n q (by omega)] at hO
 obtain ⟨x0, hx0⟩ : ∃ x0, seed (s : Int) (2147483648 + (j : Int)) = x0 := ⟨_, rfl⟩
 rw [hq, hn, hx0]
 have HX00 := Lib.hid hx0
 clear hx0
 unfold parV at hPi ⊢
 have HPI := Lib.hid hPi
 have HO := Lib.hid hO
 have hKJ : IntKind.i64.wrap ((K : Int) + (j : Int)) = (q : Int) := by rw [show (K : Int) + (j : Int) = (q : Int) by omega]; exact IntWalk.i64_in _ (by omega)
 have HM := Lib.hid (fun W W1 hb => row1 W W1 q hb)
 have HM2 := Lib.hid (fun (W W1 : World) (hb : Below (W.alloc (.cells #[.int .i64 (q : Int)] 3)).drew.heap.size (W.alloc (.cells #[.int .i64 (q : Int)] 3)).drew W1) => row1 W W1 q (((Below.refl _ _).drew).trans hb))
 have HN : Hid (K ≤ n ∧ n ≤ 80) := ⟨by omega, by omega⟩
 have HJ : Hid (j < 16) := Lib.hid (by omega)
 have HS := Lib.hid hs
 have HKB := Lib.hid hK
 clear hPi hO hq hn hs hK hP hZ hj
 go_enter Tryz.func100, Tryz.ntmps100
 go_upto_region 1 with fail
 have hz : (w.alloc (.cells #[.int .u32 (s : Int), .int .i64 (K : Int), .int .i64 (P : Int), .int .i64 (Z : Int)] 76)).heap.size = w.heap.size + 1 := by simp
 generalize (w.alloc (.cells #[.int .u32 (s : Int), .int .i64 (K : Int), .int .i64 (P : Int), .int .i64 (Z : Int)] 76)) = w0 at *
 have HZ0 := Lib.hid hz
 have hkeep := Lib.hid (spar_keep HX0.out)
 clear hz
 go_cut [5] (fun s5 wx => ∃ g h, s5 = .pointer (some ⟨g, 0, none⟩) ∧ Hid (w.heap.size ≤ g ∧ w.heap.size ≤ h ∧ VecAt wx g h n (2 ^ q)) ∧ Hid (Below w0.heap.size w0 wx))
 case first =>
  go_region_held3 (SPar w0 w.heap.size s K P Z)
   (first | exact hkeep.out _ (spar_next (by assumption) (by assumption)) | exact hkeep.out _ (spar_alloc (by assumption) _) | exact hkeep.out _ (Below.refl _ _).drew | exact hkeep.out _ (Below.refl _ _))
   (first
    | (go_at_call 69; refine (HPI.out _).mono ?_; rintro e w' ⟨rfl, hbel'⟩; have hbel := hbel'.out; have hbel2 := hbel'.out)
    | (go_at_call 107; (with_reducible refine (HO.out _ _ _ (HM.out _ _ (Below.refl _ _))).mono ?_); rintro e w' ⟨g, h, rfl, hg, hh, hv, hbel3'⟩; have hbel3 := hbel3'.out)
    | (go_at_call 107; (refine (HO.out _ _ _ (HM2.out _ _ hbel2)).mono ?_); rintro e w' ⟨g, h, rfl, hg, hh, hv, hbel3'⟩; have hbel3 := hbel3'.out))
  all_goals
   have hbq := spar_below (by assumption : SPar w0 w.heap.size s K P Z _)
   go_wp2_with fail
   go_meet
   have h0 := HZ0.out
   have h1 := hbel2.size
   have h2 : w.heap.size ≤ g ∧ w.heap.size ≤ h := by
    have e : ∀ W : World, W.drew.heap.size = W.heap.size := fun _ => rfl
    simp only [e] at h1
    have e2 : ∀ (W : World) (o : Obj), (W.alloc o).heap.size = W.heap.size + 1 := fun W o => by simp
    try simp only [e2] at h1
    try simp only [e2] at hg
    try simp only [e2] at hh
    exact ⟨by omega, by omega⟩
   exact ⟨g, h, rfl, Lib.hid ⟨h2.1, h2.2, hv.out⟩, Lib.hid hbq⟩
 case rest =>
  obtain ⟨g, h, rfl, hv, hbw⟩ := hcut
  obtain ⟨_, c0, c1, _, _⟩ := hkeep.out wc hbw.out
  have hj16 : (j : Int) < 16 := by have := HJ.out; omega
  have HJM : Hid ((j : Int) % 4294967296 = (j : Int)) := by show _ = _; omega
  obtain ⟨B, hB⟩ : ∃ B : Int, 2147483648 + (j : Int) = B := ⟨_, rfl⟩
  have HBB : Hid (B % 4294967296 = B) := by show _ = _; omega
  have HB := Lib.hid hB
  have HNW := Lib.hid (fun W => rand_new (s : Int) B (by omega) (by have := HS.out; omega) (by omega) (by omega) W)
  clear hB
  go_wp2_with (first | rw [HJM.out] | rw [HB.out] | rw [HBB.out])
  refine (HNW.out _).mono ?_
  rintro e w2 ⟨rfl, hsrc, hb2, hsz⟩
  have hv3 := hv.out.2.2.below hb2
  have hlv := hv.out.2.2.lt
  have HBW := Lib.hid (hbw.out.trans (hb2.mono hbw.out.size))
  obtain ⟨_, c0, c1, _, _⟩ := hkeep.out w2 HBW.out
  have hle : w.heap.size ≤ wc.heap.size := by have := HB0.out.size; have := hbw.out.size; omega
  have HX1 : Hid (w.heap.size ≤ g ∧ w.heap.size ≤ h ∧ g ≠ wc.heap.size ∧ h ≠ wc.heap.size ∧ w.heap.size ≤ wc.heap.size) := Lib.hid ⟨hv.out.1, hv.out.2.1, by omega, by omega, hle⟩
  have HBW2 := Lib.hid (HB0.out.trans (HBW.out.mono HB0.out.size))
  obtain ⟨gs, hgs⟩ : ∃ gs, wc.heap.size = gs := ⟨_, rfl⟩
  rw [hgs] at hsrc HX1 ⊢
  have HSRC := Lib.hid hsrc
  have HV3 := Lib.hid hv3
  have hx0 : seed (s : Int) B = x0 := by rw [← HB.out]; exact HX00.out
  rw [hx0] at HSRC
  clear hsrc hb2 hsz hv3 hlv hle hgs hx0 HNW hv hbw
  go_wp2_with fail
  clear c0 c1
  go_loopw [24] (fun i wr => ∃ k : Nat, k ≤ K ∧ i = .int .i64 k ∧ Hid (VecAt wr g h n (parX x0 q k)) ∧ Hid (Src wr gs (shk x0 k)) ∧ Hid (Below w.heap.size w wr)) (fun i _ => K - (intOf i).toNat)
  case atStart => exact ⟨0, by omega, rfl, HV3, HSRC, HBW2⟩
  case round =>
   obtain ⟨k, hk, rfl, hvk, hsk, hbk⟩ := hrel
   by_cases hlt : k < K
   ·have hnx := Lib.hid (next_set gs (shk x0 k) wr hsk.out)
    have hvk2 := Lib.hid (hvk.out.grown (grown_set1 wr gs 0 (.int .u32 (sh (shk x0 k)))) (Ne.symm HX1.out.2.2.1) (Ne.symm HX1.out.2.2.2.1))
    have hsk2 := Lib.hid (hsk.out.set (sh_bounds (shk x0 k)).1 (sh_bounds (shk x0 k)).2)
    have hbk2 := Lib.hid (hbk.out.setCell (p := ⟨gs, 0, none⟩) HX1.out.2.2.2.2 (.int .u32 (sh (shk x0 k))))
    obtain ⟨y, hy⟩ : ∃ y, mx (sh (shk x0 k)) = y := ⟨_, rfl⟩
    obtain ⟨hy0, hy1⟩ := mx_bounds (sh (shk x0 k))
    rw [hy] at hnx hy0 hy1
    have HY := Lib.hid hy
    clear hy hvk hsk hbk
    go_wp2_with fail
    refine hnx.out.mono ?_
    rintro e w' ⟨rfl, rfl⟩
    clear hnx
    generalize wr.setCell ⟨gs, 0, none⟩ (.int .u32 (sh (shk x0 k))) = w4 at *
    go_wp2_with fail
    refine (set_in g h n _ k (y % 2 == 1) w4 hvk2.out (by have := HN.out; omega)).mono ?_
    rintro e w5 ⟨rfl, hv5, hg5⟩
    have hs5 : Hid (Src w5 gs (shk x0 (k + 1))) := Lib.hid ⟨(hg5.out.block gs hsk2.out.lt (fun e => by injection e with e; have := HX1.out.2.2.2.1; omega)).trans hsk2.out.1, hsk2.out.2⟩
    have hb5 := Lib.hid (hbk2.out.grown hg5.out hbk2.out.size (by intro r hr; injection hr with hr; have := HX1.out.2.1; omega))
    have hv6 : Hid (VecAt w5 g h n (parX x0 q (k + 1))) := by
     show VecAt _ _ _ _ _
     unfold parX odd
     rw [show shk x0 (k + 1) = sh (shk x0 k) from rfl, HY.out]
     exact hv5.out
    clear hvk2 hsk2 hbk2 hv5 hg5 hy0 hy1
    have hk64 : (k : Int) < 64 := by have := HKB.out; omega
    go_wp2_with fail
    go_roundw
    case rel => exact ⟨k + 1, by omega, by go_num, hv6, hs5, hb5⟩
    case measure => simp [intOf]; omega
   ·obtain rfl : K = k := by omega
    clear hlt
    go_wp2_with fail
    go_ret
    exact ⟨g, h, rfl, HX1.out.1, HX1.out.2.1, hvk, hbk⟩
end Go.Proofs.YtmncpgfdpcckpaaGreatDoor.Pc
namespace Go.Proofs.YtmncpgfdpcckpaaGreatDoor.Pc
open Go.RowKit
open VecM RdM Vc Sp
def parJ (s K j : Nat) : Nat := parX (seed (s : Int) (2147483648 + (j : Int))) (K + j) K
theorem infoPtr : (Tryz.prog.info? 125).map (fun i => (i.zero, i.size, i.bytes)) = some (some (.pointer none), 1, 8) := by kernel_rfl
theorem madePtr (m : Nat) (hm : m ≤ 1000000) : ∀ w : World, (Instr.makeSlice 123 (.int .i64 (m : Int)) (.int .i64 (m : Int))).run Tryz.prog w = .ok (.slice (some ⟨w.heap.size, 0, none⟩) m m) (w.alloc (.cells (Array.replicate m (.pointer none)) 125)) := by
 obtain ⟨i0, hi, hz0, hz1, hz2⟩ := info_parts infoPtr
 intro w
 have h := run_make (P := Tryz.prog) w 123 125 i0 (.pointer none) Tryz.underlying123 hi hz0 .i64 .i64 (m : Int) (m : Int) (by omega) (by omega) (by rw [hz2]; omega) (by omega)
 rw [hz1] at h
 have e : madeCells (Value.pointer none).cells m = Array.replicate m (.pointer none) := by
  apply Array.toList_inj.1
  show (madeCells #[Value.pointer none] m).toList = _
  rw [toList_madeCells_one]; simp
 simpa [e] using h
def pvk (gs : Nat → Nat) (P k : Nat) : List Value := (List.range P).map fun j => if j < k then .pointer (some ⟨gs j, 0, none⟩) else .pointer none
theorem pvk_length (gs : Nat → Nat) (P k : Nat) : (pvk gs P k).length = P := by simp [pvk]
theorem pvk_get (gs : Nat → Nat) (P k j : Nat) (h : j < P) : (pvk gs P k)[j]? = some (if j < k then .pointer (some ⟨gs j, 0, none⟩) else .pointer none) := by simp [pvk, h]
theorem pvk_zero (gs : Nat → Nat) (P : Nat) : pvk gs P 0 = List.replicate P (.pointer none) := by
 apply List.ext_getElem?
 intro j
 by_cases h : j < P
 ·rw [pvk_get _ _ _ _ h]; simp [h]
 ·rw [List.getElem?_eq_none (by rw [pvk_length]; omega), List.getElem?_eq_none (by simp; omega)]
theorem pvk_set (gs : Nat → Nat) (P k g : Nat) (h : k < P) : (pvk gs P k).set k (.pointer (some ⟨g, 0, none⟩)) = pvk (fun j => if j = k then g else gs j) P (k + 1) := by
 apply List.ext_getElem?
 intro j
 rw [List.getElem?_set]
 by_cases hj : j < P
 ·rw [pvk_get (fun j => if j = k then g else gs j) P (k + 1) j hj]
  by_cases e : k = j
  ·subst e; simp [pvk_length, h]
  ·rw [if_neg e, pvk_get gs P k j hj]
   have e2 : ¬ j = k := fun h => e h.symm
   by_cases h1 : j < k
   ·rw [if_pos h1, if_pos (by omega), if_neg e2]
   ·rw [if_neg h1, if_neg (by omega)]
 ·rw [List.getElem?_eq_none (l := pvk _ _ _) (by rw [pvk_length]; omega)]
  rw [List.getElem?_eq_none (l := pvk _ _ _) (by rw [pvk_length]; omega)]
  split
  ·split
   ·rename_i h3; rw [pvk_length] at h3; omega
   ·rfl
  ·rfl
def VRows (s K P k gA : Nat) (gs hs : Nat → Nat) (W : World) : Prop := ∀ j, j < k → gA < gs j ∧ gA < hs j ∧ VecAt W (gs j) (hs j) (K + P) (parJ s K j)
def RowsOk (s K P : Nat) (w : World) (e : Ending) (w' : World) : Prop :=
 ∃ gA gs hs, e = .returned (.slice (some ⟨gA, 0, none⟩) P P) ∧ Hid (w.heap.size ≤ gA ∧ VRows s K P P gA gs hs w') ∧ Hid (w'.ownsRow w.heap.size 125 1 (.slice (some ⟨gA, 0, none⟩) P P) P (pvk gs P P)) ∧ Hid (Below w.heap.size w w')
set_option maxHeartbeats 1600000 in
theorem rows_any (s K P Z : Nat) (w : World) (hs : s < 4294967296) (hK : 1 ≤ K ∧ K ≤ 64) (hP : P ≤ 16) (hZ : 1 ≤ Z ∧ Z ≤ 16) : Calls Tryz.prog 70 #[parV s K P Z] w (RowsOk s K P w) := by
 have HX0 := Lib.hid (heap_alloc_new w (.cells #[.int .u32 (s : Int), .int .i64 (K : Int), .int .i64 (P : Int), .int .i64 (Z : Int)] 76))
 have HB0 : Hid (Below w.heap.size w (w.alloc (.cells #[.int .u32 (s : Int), .int .i64 (K : Int), .int .i64 (P : Int), .int .i64 (Z : Int)] 76))) := (Below.refl _ _).alloc (Nat.le_refl _) _
 have hz : (w.alloc (.cells #[.int .u32 (s : Int), .int .i64 (K : Int), .int .i64 (P : Int), .int .i64 (Z : Int)] 76)).heap.size = w.heap.size + 1 := by simp
 have HZ0 := Lib.hid hz
 have hM := fun W => may_any s (K : Int) (P : Int) (Z : Int) W
 rw [show mayB (K : Int) (P : Int) (Z : Int) = true from (mayB_iff _ _ _).2 (by omega)] at hM
 have hPA := fun W (j : Nat) (hj : j < P) => parity_any s K P Z j W hs hK hP hZ hj
 unfold parV at hM hPA ⊢
 have HM := Lib.hid hM
 have HPA := Lib.hid hPA
 have hmk := madePtr P (by omega)
 have HPB := Lib.hid hP
 have hp16 : (P : Int) ≤ 16 := by omega
 clear hM hPA hs hK hP hZ hz
 go_enter Tryz.func70, Tryz.ntmps70
 go_wp2_with fail
 refine (HM.out _).mono ?_
 rintro e w1 ⟨rfl, hb1⟩
 have hs1 : w.heap.size + 1 ≤ w1.heap.size := by have := hb1.out.size; have := HZ0.out; omega
 have HX1 := Lib.hid ((hb1.out.block w.heap.size (by have := HZ0.out; omega)).trans HX0.out)
 have HB1 := Lib.hid (HB0.out.trans (hb1.out.mono HB0.out.size))
 have HS1 := Lib.hid hs1
 obtain ⟨c0, c1, c2, c3⟩ := box4 HX1.out
 clear hb1 hs1 HX0 HB0 HZ0 HM
 go_wp2_with fail
 clear c0 c1 c2 c3 hmk
 have HOW : Hid ((w1.alloc (.cells (Array.replicate P (.pointer none)) 125)).ownsRow w1.heap.size 125 1 (.slice (some ⟨w1.heap.size, 0, none⟩) P P) P (pvk (fun _ => 0) P 0)) := by
  show World.ownsRow _ _ _ _ _ _ _
  rw [pvk_zero]
  have := own_lit (w := w1) (base := w1.heap.size) (g := w1.heap.size) (n := P) (e := 125) (Array.replicate P (.pointer none)) rfl (Nat.le_refl _) (by simp) (by have := HPB.out; unfold maxLen; omega)
  simpa using this
 have HAL : Hid (Below w1.heap.size w1 (w1.alloc (.cells (Array.replicate P (.pointer none)) 125))) := (Below.refl _ _).alloc (Nat.le_refl _) _
 generalize (w1.alloc (.cells (Array.replicate P (.pointer none)) 125)) = w2 at *
 obtain ⟨gA, hgA⟩ : ∃ gA, w1.heap.size = gA := ⟨_, rfl⟩
 rw [hgA] at HOW ⊢
 have HGA := Lib.hid hgA
 clear hgA
 go_loopw [13] (fun i wr => ∃ (k : Nat) (gs hs : Nat → Nat), k ≤ P ∧ i = .int .i64 k ∧ Hid (VRows s K P k gA gs hs wr) ∧ Hid (wr.ownsRow gA 125 1 (.slice (some ⟨gA, 0, none⟩) P P) P (pvk gs P k)) ∧ Hid (Below w1.heap.size w1 wr)) (fun i _ => P - (intOf i).toNat)
 case atStart => exact ⟨0, fun _ => 0, fun _ => 0, by omega, rfl, Lib.hid (fun j hj => by omega), HOW, HAL⟩
 case round =>
  obtain ⟨k, gs, hs, hk, rfl, hvr, hown, hbk⟩ := hrel
  by_cases hlt : k < P
  ·obtain ⟨c0, c1, c2, c3⟩ := box4 ((hbk.out.block w.heap.size (by have := HS1.out; omega)).trans HX1.out)
   have hcp := Lib.hid (HPA.out wr k hlt)
   clear HOW HAL
   go_wp2_with fail
   refine hcp.out.mono ?_
   rintro e w4 ⟨g, h, rfl, hg, hh, hv, hb4⟩
   have hlo := (hown.out.lt gA rfl).2
   have ho4 := own_below hown.out hb4.out
   have hfz := ho4.frozenAt k
   have hcs := (ho4.cellAt k (by omega)).trans (pvk_get gs P k k hlt)
   have hst := Lib.hid ((ho4.stored k (.pointer (some ⟨g, 0, none⟩))).1)
   rw [pvk_set gs P k g hlt] at hst
   have hvr2 : Hid (VRows s K P (k + 1) gA (fun j => if j = k then g else gs j) (fun j => if j = k then h else hs j) (w4.setCell ⟨gA, k, none⟩ (.pointer (some ⟨g, 0, none⟩)))) := Lib.hid (fun j hj => by
    by_cases e : j = k
    ·subst e
     simp only [if_pos]
     exact ⟨by omega, by omega, hv.out.grown (grown_set1 w4 gA j _) (by omega) (by omega)⟩
    ·simp only [if_neg e]
     obtain ⟨a, b, c⟩ := hvr.out j (by omega)
     exact ⟨a, b, (c.below hb4.out).grown (grown_set1 w4 gA k _) (by omega) (by omega)⟩)
   have hbk2 := Lib.hid ((hbk.out.trans (hb4.out.mono hbk.out.size)).setCell (p := ⟨gA, k, none⟩) (by have := HGA.out; show _ ≤ gA; omega) (.pointer (some ⟨g, 0, none⟩)))
   clear hcp hvr hown hbk ho4 hlo hg hh hv hb4
   go_wp2_with fail
   go_roundw
   case rel => exact ⟨k + 1, _, _, by omega, by go_num, hvr2, hst, hbk2⟩
   case measure => simp [intOf]; omega
  ·obtain rfl : P = k := by omega
   clear hlt HOW HAL
   have hba := Lib.hid (HB1.out.trans (hbk.out.mono HB1.out.size))
   have hob := Lib.hid (own_base hown.out (base' := w.heap.size) (by have := HS1.out; have := HGA.out; omega))
   have hge : Hid (w.heap.size ≤ gA) := Lib.hid (by have := HS1.out; have := HGA.out; omega)
   go_wp2_with fail
   go_ret
   exact ⟨gA, gs, hs, rfl, Lib.hid ⟨hge.out, hvr.out⟩, hob, hba⟩
end Go.Proofs.YtmncpgfdpcckpaaGreatDoor.Pc
