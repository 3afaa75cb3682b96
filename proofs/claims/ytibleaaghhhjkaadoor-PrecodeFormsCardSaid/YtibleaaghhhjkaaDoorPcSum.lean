/- precode's change, sum, fit: by contract. -/
import Derived.Test.YtibleaaghhhjkaaDoorPcRows
import Derived.Test.YtibleaaghhhjkaaDoorBlkSum
import Derived.Test.YtibleaaghhhjkaaDoorFill
namespace Go.Proofs.YtibleaaghhhjkaaDoor.Pc
open Go.RowKit
open VecM RdM Vc Sp
theorem bv_xl_set (a l : List UInt8) (k : Nat) (h : k < a.length) : (bv (xl a l k)).set k (.int .u8 ((a.getD k 0 ^^^ l.getD k 0).toNat : Int)) = bv (xl a l (k + 1)) := by
  rw [← xl_set a l k h]
  simp [bv, List.map_set]
set_option maxRecDepth 100000 in
set_option maxHeartbeats 1600000 in
theorem change_any (g n c base B c2 : Nat) (A2 : Option Addr) (a l : List UInt8) (w : World) (ho : w.ownsRow base 5 1 (.slice (some ⟨g, 0, none⟩) n c) n (bv a)) (hr : Row w B A2 n (bv l)) (hB : B ≤ g) (hn : n ≤ 1000000) :
    Calls Tryd.prog 67 #[.slice (some ⟨g, 0, none⟩) n c, .slice A2 n c2] w fun e w' => e = .returned (.tuple #[]) ∧ Hid (w'.ownsRow base 5 1 (.slice (some ⟨g, 0, none⟩) n c) n (bv (xorL a l))) ∧ Hid (Below g w w') := by
  have HA := Lib.hid (Row.of_own ho).blen
  have HR := Lib.hid hr
  have HO := Lib.hid ho
  have HBG := Lib.hid hB
  clear ho hr hB
  go_enter Tryd.func67, Tryd.ntmps67
  go_wp2_with fail
  go_loopw [8] (fun x wr => ∃ k : Nat, k ≤ n ∧ x = .int .i64 k ∧ Hid (wr.ownsRow base 5 1 (.slice (some ⟨g, 0, none⟩) n c) n (bv (xl a l k))) ∧ Hid (Below g w wr)) (fun x _ => n - (intOf x).toNat)
  case atStart => exact ⟨0, by omega, rfl, by rw [xl_zero]; exact HO, Lib.hid (Below.refl _ _)⟩
  case round =>
    obtain ⟨k, hk, rfl, hown, hbk⟩ := hrel
    by_cases hlt : k < n
    · have hka : k < a.length := by rw [HA.out]; exact hlt
      obtain ⟨b2, o2, rfl, hb2, hl2, hc2⟩ := (HR.out.below (hbk.out.mono HBG.out)).byteAt hlt
      have hfz := hown.out.frozenAt k
      have hcs := (hown.out.cellAt k (by omega)).trans (bv_getD _ k (by rw [xl_length]; exact hka))
      rw [xl_getD a l k k hka, if_neg (by omega)] at hcs
      have hst := Lib.hid ((hown.out.stored k (.int .u8 ((a.getD k 0 ^^^ l.getD k 0).toNat : Int))).1)
      have hset := Lib.hid (bv_xl_set a l k hka)
      have hy : l[k] = l.getD k 0 := by simp [List.getD, hl2]
      have hxor := xor_int (a.getD k 0) (l.getD k 0)
      rw [hy] at hc2
      have hki : (k : Int) < (n : Int) := by omega
      have hkb : (k : Int) < 1000000 := by omega
      clear hy hown
      generalize a.getD k 0 = x at *
      generalize l.getD k 0 = y at *
      go_wp2_with fail
      go_roundw
      case rel => exact ⟨k + 1, by omega, by go_num, by rw [← hset.out]; exact hst, Lib.hid (hbk.out.setCell (Nat.le_refl _) _)⟩
      case measure => simp [intOf]; omega
    · obtain rfl : n = k := by omega
      have hfin : Hid (wr.ownsRow base 5 1 (.slice (some ⟨g, 0, none⟩) n c) n (bv (xorL a l))) := by
        have := hown.out
        unfold xorL
        rw [HA.out]
        exact Lib.hid this
      clear hown
      go_wp2_with fail
      first | go_end0 | (simp only [Exit.inBlock, Exit.then]; refine bodyPost_ret (results_none rfl _ _ _) rfl ?_) | refine bodyPost_ret (results_none rfl _ _ _) rfl ?_
      exact ⟨rfl, hfin, hbk⟩
/-- the sum of those of the first k rows that X has -/
def sumR (X z : Nat) (ls : List (List UInt8)) : Nat → List UInt8
  | 0 => List.replicate z 0
  | k + 1 => if X.testBit k then xorL (sumR X z ls k) (ls.getD k []) else sumR X z ls k
theorem sumR_length (X z : Nat) (ls : List (List UInt8)) : ∀ k, (sumR X z ls k).length = z
  | 0 => by simp [sumR]
  | k + 1 => by
    unfold sumR
    split
    · rw [xorL_length, sumR_length X z ls k]
    · exact sumR_length X z ls k
def SumOk (X z : Nat) (ls : List (List UInt8)) (k : Nat) (w : World) (e : Ending) (w' : World) : Prop :=
  ∃ g, e = .returned (.slice (some ⟨g, 0, none⟩) z z) ∧ Hid (w.heap.size ≤ g) ∧ Hid (w'.ownsRow w.heap.size 5 1 (.slice (some ⟨g, 0, none⟩) z z) z (bv (sumR X z ls k))) ∧ Hid (Below w.heap.size w w')
set_option maxRecDepth 100000 in
set_option maxHeartbeats 1600000 in
theorem sum_any (g0 h0 m X z n c B : Nat) (A : Option Addr) (es : List BRow) (w : World) (v : VecAt w g0 h0 m X) (hl : Rows2 w B A n es) (hes : ∀ r ∈ es, r.n = z) (hnm : n ≤ m) (hz : z ≤ 16) (hB : B ≤ w.heap.size) :
    Calls Tryd.prog 48 #[.pointer (some ⟨g0, 0, none⟩), .slice A n c, .int .i64 (z : Int)] w (SumOk X z (es.map (·.l)) n w) := by
  have hm256 := v.1
  have HV := Lib.hid v
  have HL := Lib.hid hl
  have HES := Lib.hid hes
  have HBB := Lib.hid hB
  have HNM := Lib.hid hnm
  have hmk := mk_bytes z (by omega) w
  have hn256 : (n : Int) ≤ 256 := by omega
  have HZ := Lib.hid hz
  clear v hl hes hB hnm hm256 hz
  go_enter Tryd.func48, Tryd.ntmps48
  go_wp2_with fail
  clear hmk
  have HOW : Hid ((w.alloc (.cells (Array.replicate z (.int .u8 0)) 5)).ownsRow w.heap.size 5 1 (.slice (some ⟨w.heap.size, 0, none⟩) z z) z (bv (sumR X z (es.map (·.l)) 0))) := by
    show World.ownsRow _ _ _ _ _ _ _
    have := own_lit (w := w) (base := w.heap.size) (g := w.heap.size) (n := z) (e := 5) (Array.replicate z (.int .u8 0)) rfl (Nat.le_refl _) (by simp) (by have := HZ.out; unfold maxLen; omega)
    simpa [bv, sumR] using this
  have HAL : Hid (Below w.heap.size w (w.alloc (.cells (Array.replicate z (.int .u8 0)) 5))) := (Below.refl _ _).alloc (Nat.le_refl _) _
  generalize (w.alloc (.cells (Array.replicate z (.int .u8 0)) 5)) = w2 at *
  obtain ⟨G, hG⟩ : ∃ G, w.heap.size = G := ⟨_, rfl⟩
  have HG := Lib.hid hG
  rw [hG] at HOW ⊢
  clear hG
  go_loopw [14] (fun i wr => ∃ k : Nat, k ≤ n ∧ i = .int .i64 k ∧ Hid (wr.ownsRow G 5 1 (.slice (some ⟨G, 0, none⟩) z z) z (bv (sumR X z (es.map (·.l)) k))) ∧ Hid (Below w.heap.size w wr)) (fun i _ => n - (intOf i).toNat)
  case atStart => exact ⟨0, by omega, rfl, HOW, HAL⟩
  case round =>
    obtain ⟨k, hk, rfl, hown, hbk⟩ := hrel
    clear HOW HAL
    by_cases hlt : k < n
    · have hrows := HL.out.below (hbk.out.mono HBB.out)
      obtain ⟨b, o, rfl, r, hr, hcell, hrow⟩ := hrows.at_ hlt
      have hrn := HES.out r (List.mem_of_getElem? hr)
      rw [hrn] at hrow hcell
      have hld : (es.map (·.l)).getD k [] = r.l := by simp [List.getD, hr]
      have HLD := Lib.hid hld
      have HAS := Lib.hid (has_in g0 h0 m X k wr (HV.out.below hbk.out) (by have := HNM.out; omega))
      have HCH := Lib.hid (change_any G z z G B r.c r.A (sumR X z (es.map (·.l)) k) r.l wr hown.out hrow (by have := HBB.out; have := HG.out; omega) (by have := HZ.out; omega))
      have hki : (k : Int) < (n : Int) := by omega
      clear hrows hr hrow hrn hld
      obtain ⟨T, hT⟩ : ∃ T, X.testBit k = T := ⟨_, rfl⟩
      rw [hT] at HAS
      have HT := Lib.hid hT
      clear hT
      go_wp2_with fail
      refine HAS.out.mono ?_
      rintro e w' ⟨rfl, rfl⟩
      cases T with
      | true =>
        have hnext : sumR X z (es.map (·.l)) (k + 1) = xorL (sumR X z (es.map (·.l)) k) r.l := by
          show (if X.testBit k then _ else _) = _
          rw [HT.out, HLD.out]; rfl
        rw [← hnext] at HCH
        clear hnext hown HAS
        go_wp2_with fail
        refine HCH.out.mono ?_
        rintro e w4 ⟨rfl, ho4, hb4⟩
        have hbk4 := Lib.hid (hbk.out.trans (hb4.out.mono (by rw [HG.out]; exact Nat.le_refl _)))
        clear HCH hcell hb4 hbk
        go_wp2_with fail
        go_roundw
        case rel => exact ⟨k + 1, by omega, by go_num, ho4, hbk4⟩
        case measure => simp [intOf]; omega
      | false =>
        have hnext : sumR X z (es.map (·.l)) (k + 1) = sumR X z (es.map (·.l)) k := by
          show (if X.testBit k then _ else _) = _
          rw [HT.out]; rfl
        rw [← hnext] at hown
        clear hnext HAS HCH
        go_wp2_with fail
        go_roundw
        case rel => exact ⟨k + 1, by omega, by go_num, hown, hbk⟩
        case measure => simp [intOf]; omega
    · obtain rfl : n = k := by omega
      clear hlt
      go_wp2_with fail
      go_ret
      exact ⟨G, rfl, Lib.hid (by rw [HG.out]; exact Nat.le_refl _), by rw [HG.out]; exact hown, hbk⟩
end Go.Proofs.YtibleaaghhhjkaaDoor.Pc
