/- DigestBorders' and DigestForms' walks. -/
import Derived.Test.YtapjaagigjfidaaDoorRDig
import Derived.Test.YtapjaagigjfidaaDoorShaSum
import Derived.Test.YtapjaagigjfidaaDoorDgLong
import Derived.Test.YtapjaagigjfidaaDoorGrow
import Derived.Test.YtapjaagigjfidaaDoorMacPad
namespace Go.Proofs.YtapjaagigjfidaaDoor.Sh
open Go.RowKit
theorem bv_set1 (a : List UInt8) (m : Nat) (X : UInt8) : (bv a).set m (.int .u8 (X.toNat : Int)) = bv (a.set m X) := by
  unfold bv
  rw [List.map_set]
theorem sq_byte (x : UInt8) (m : Nat) : bits .xor .u8 (x.toNat : Int) ((m : Int) * (m : Int) % 256) = ((x ^^^ UInt8.ofNat (m * m)).toNat : Int) := by
  have h1 : (m : Int) * (m : Int) % 256 = ((UInt8.ofNat (m * m)).toNat : Int) := by
    rw [UInt8.toNat_ofNat', Int.natCast_emod, Int.natCast_mul]
    rfl
  rw [h1]
  exact xor_int _ _
set_option maxRecDepth 100000 in
set_option maxHeartbeats 1600000 in
theorem borders_walk (y : Int) (_ : -9223372036854775808 ≤ y) (_ : y ≤ 9223372036854775807) (x : UInt8) (w : World) (ht : Tab w) :
    Calls Tryd.prog 5 #[.int .i64 y, .int .u8 (x.toNat : Int)] w fun e w' => e = .returned (.bool true) ∧ Below w.heap.size w w' := by
  obtain ⟨q, hq, hpick⟩ := pick_in y 90 (by omega) (by omega)
  have HP := Lib.hid hpick
  have HT := Lib.hid ht
  obtain ⟨n, hn⟩ : ∃ n : Nat, 48 + (q : Int) = (n : Int) := ⟨48 + q, by omega⟩
  have HN := Lib.hid hn
  have hn2 : n ≤ 138 := by omega
  have hq2 : q ≤ 89 := by omega
  have hm := mk_bytes n (by omega) w
  have hA0 : Hid ((∃ a : List UInt8, a.length = n ∧ (w.alloc (.cells (Array.replicate n (.int .u8 0)) 5)).ownsRow w.heap.size 5 1 (.slice (some ⟨w.heap.size, 0, none⟩) n n) n (bv a)) ∧ Below w.heap.size w (w.alloc (.cells (Array.replicate n (.int .u8 0)) 5))) := by
    refine Lib.hid ⟨⟨List.replicate n 0, by simp, ?_⟩, (Below.refl _ _).alloc (Nat.le_refl _) _⟩
    have := own_lit (w := w) (base := w.heap.size) (g := w.heap.size) (n := n) (e := 5) (Array.replicate n (.int .u8 0)) rfl (Nat.le_refl _) (by simp) (by unfold maxLen; omega)
    simpa [bv] using this
  clear hpick hq hn ht
  go_enter Tryd.func5, Tryd.ntmps5
  go_wp2_with (first | rw [HP.out] | rw [HN.out])
  clear hm
  go_loopw [15] (fun i wr => ∃ k : Nat, k ≤ n ∧ i = .int .i64 k ∧ Hid ((∃ a : List UInt8, a.length = n ∧ wr.ownsRow w.heap.size 5 1 (.slice (some ⟨w.heap.size, 0, none⟩) n n) n (bv a)) ∧ Below w.heap.size w wr)) (fun i _ => n - (intOf i).toNat)
  case atStart => exact ⟨0, by omega, rfl, hA0⟩
  case round =>
    obtain ⟨k, hk, rfl, hd⟩ := hrel
    clear hA0
    by_cases hlt : k < n
    · obtain ⟨⟨a, ha, ho⟩, hb⟩ := hd.out
      have hfz := ho.frozenAt k
      have hcs := (ho.cellAt k (by omega)).trans (bv_getD a k (by omega))
      have HQ := Lib.hid (sq_byte x k)
      have hki : (k : Int) < (n : Int) := by omega
      have hst := (ho.stored k (.int .u8 ((x ^^^ UInt8.ofNat (k * k)).toNat : Int))).1
      rw [bv_set1] at hst
      have hD : Hid ((∃ a : List UInt8, a.length = n ∧ (wr.setCell ⟨w.heap.size, k, none⟩ (.int .u8 ((x ^^^ UInt8.ofNat (k * k)).toNat : Int))).ownsRow w.heap.size 5 1 (.slice (some ⟨w.heap.size, 0, none⟩) n n) n (bv a)) ∧ Below w.heap.size w (wr.setCell ⟨w.heap.size, k, none⟩ (.int .u8 ((x ^^^ UInt8.ofNat (k * k)).toNat : Int)))) := Lib.hid ⟨⟨_, by simpa using ha, hst⟩, hb.setCell (Nat.le_refl _) _⟩
      clear hd ho hb hst ha
      generalize a.getD k 0 = z at *
      generalize (x ^^^ UInt8.ofNat (k * k)).toNat = y2 at *
      have k138 : (k : Int) ≤ 138 := by omega
      have hkk0 : (0 : Int) ≤ (k : Int) * (k : Int) := Int.mul_nonneg (by omega) (by omega)
      have hkk1 : (k : Int) * (k : Int) ≤ 19044 := by
        have := Int.mul_le_mul k138 k138 (by omega) (by omega)
        omega
      go_wp2_with (rw [HQ.out])
      go_roundw
      case rel => exact ⟨k + 1, by omega, by go_num, by first | exact hD | (rw [HQ.out]; exact hD)⟩
      case measure => simp [intOf]; omega
    · obtain rfl : n = k := by omega
      obtain ⟨⟨a, ha, ho⟩, hb⟩ := hd.out
      have hr := Row.of_own ho
      have HS := Lib.hid (sum_any wr.heap.size n n (some ⟨w.heap.size, 0, none⟩) a wr (HT.out.below hb HT.out.1) hr (Nat.le_refl _) (by omega))
      have HR := Lib.hid hr
      have HB := Lib.hid hb
      clear hd ho hb hr ha
      go_wp2_with fail
      refine HS.out.mono ?_
      rintro e w2 ⟨A2, c2, rfl, ho2, hb2⟩
      have HO2 := ho2
      have HB2 := Lib.hid (HB.out.trans (hb2.out.mono HB.out.size))
      have HR2 := Lib.hid (HR.out.below hb2.out)
      clear ho2 HS
      go_wp2_with fail
      refine (rdig_any wr.heap.size n n (some ⟨w.heap.size, 0, none⟩) a w2 HR2.out hb2.out.size (by omega)).mono ?_
      rintro e w3 ⟨A3, c3, rfl, ho3, hb3⟩
      have HB3 := Lib.hid (HB2.out.trans (hb3.out.mono HB2.out.size))
      have HAL := Lib.hid (alike_yes w3.heap.size w3.heap.size c2 c3 A2 A3 (Sha.D a) w3 (Row.of_own (own_below HO2.out hb3.out)) (Row.of_own ho3.out))
      clear ho3 hb2 hb3 HO2 HR2
      go_wp2_with fail
      refine HAL.out.mono ?_
      rintro e w' ⟨rfl, rfl⟩
      go_wp2_with fail
      refine (awake2_any w3 (HT.out.below HB3.out HT.out.1)).mono ?_
      rintro e w4 ⟨rfl, hb4⟩
      have HB4 := Lib.hid (HB3.out.trans (hb4.mono HB3.out.size))
      go_wp2_with fail
      go_ret
      exact ⟨rfl, HB4.out⟩
theorem flat_next {es : List BRow} {k : Nat} {r : BRow} (h : es[k]? = some r) : flat (es.take (k + 1)) = flat (es.take k) ++ r.l := by
  have hlk := (List.getElem?_eq_some_iff.1 h).1
  rw [List.getElem?_eq_getElem hlk] at h
  injection h with h
  rw [List.take_succ_eq_append_getElem hlk, flat_snoc, h]
set_option maxRecDepth 100000 in
set_option maxHeartbeats 3200000 in
theorem forms_walk (A : Option Addr) (n cap : Nat) (es : List BRow) (w : World) (ht : Tab w) (hl : Rows2 w w.heap.size A n es) (hn : n ≤ cap) (hcap : cap ≤ 9223372036854775807) (hreach : ∀ r ∈ es, r.n ≤ 140737488351232) :
    Calls Tryd.prog 3 #[.slice A n cap] w fun e w' => e = .returned (.bool true) ∧ Below w.heap.size w w' := by
  obtain ⟨i0, hi, hz0, hz1, hz2⟩ := info_parts Tryd.info5
  have HT := Lib.hid ht
  have HR := Lib.hid hreach
  have HL := Lib.hid (fun W (hW : Below w.heap.size w W) => hl.below hW)
  have HLEN : Hid (es.length = n) := Lib.hid (by have := hl.1.1; simpa using this)
  have hnb : n ≤ 9223372036854775807 := by omega
  clear ht hl hreach hn hcap
  go_enter Tryd.func3, Tryd.ntmps3
  go_wp2_with fail
  have hA0 : Hid (w.ownsRow w.heap.size 5 1 (.slice none 0 0) 0 (bv (flat (es.take 0))) ∧ (flat (es.take 0)).length = 0 ∧ Below w.heap.size w w) := Lib.hid ⟨World.ownsRow_nil _ _ _ _, rfl, Below.refl _ _⟩
  go_loopw [3, 10] (fun v i wr => ∃ k : Nat, k ≤ n ∧ i = .int .i64 k ∧ ∃ m A c, v = .slice A m c ∧ m ≤ 2000 ∧ (0 < k → n ≤ 40) ∧ Hid (wr.ownsRow w.heap.size 5 1 (.slice A m c) m (bv (flat (es.take k))) ∧ (flat (es.take k)).length = m ∧ Below w.heap.size w wr)) (fun _ i _ => n - (intOf i).toNat)
  case atStart => exact ⟨0, by omega, rfl, 0, none, 0, rfl, by omega, by omega, hA0⟩
  case round =>
    obtain ⟨k, hk, rfl, m, A5, c5, rfl, hm, h40, hd⟩ := hrel
    clear hA0
    obtain ⟨wq, rfl⟩ : ∃ wq : World, wq = wr := ⟨_, rfl⟩
    by_cases hlt : k < n
    · obtain ⟨b, o, rfl, r, hr, hcell, hrow⟩ := (HL.out wq hd.out.2.2).at_ hlt
      have hrn := HR.out r (List.mem_of_getElem? hr)
      have HFN := Lib.hid (flat_next hr)
      have HRL := Lib.hid hrow.blen
      have HROW := Lib.hid hrow
      have HO := Lib.hid hd.out.1
      have HML := Lib.hid hd.out.2.1
      have HBW := Lib.hid hd.out.2.2
      have hki : (k : Int) < (n : Int) := by omega
      obtain ⟨rA, rn, rc, rl⟩ := r
      simp only at hrn hcell HFN HRL HROW
      clear hd hr hrow
      go_upto_region 6 with (at_builtin; refine wpList_app rfl (.tmp 14) (.tmp 15) 23 rfl w.heap.size 5 i0 (.int .u8 0) 1 Tryd.underlying23 hi hz0 hz1 hz2 rfl _ m _ rfl HO.out _ rA rn rc _ rfl HROW.out (bv_one _) (by unfold maxLen; omega) (by omega) HBW.out.size ?_; intro v6 w6 hown6 hg6 hat6)
      obtain ⟨A6, c6, rfl, _⟩ := own_slice hown6
      have hb6 := below_app HBW.out HBW.out.size HO.out (Nat.le_refl _) hg6
      have hD : Hid (w6.ownsRow w.heap.size 5 1 (.slice A6 (m + rn) c6) (m + rn) (bv (flat (es.take (k + 1)))) ∧ (flat (es.take (k + 1))).length = m + rn ∧ Below w.heap.size w w6) := by
        rw [HFN.out, bv_append]
        exact Lib.hid ⟨hown6, by rw [List.length_append, HML.out, HRL.out], hb6⟩
      have HAW := Lib.hid (awake2_any w6 (HT.out.below hb6 HT.out.1))
      have HB6 := Lib.hid hb6
      clear hown6 hg6 hat6 hb6 hcell
      obtain ⟨m2, hm2⟩ : ∃ m2, m + rn = m2 := ⟨_, rfl⟩
      rw [hm2] at hD ⊢
      clear hm2
      by_cases h2000 : 2000 < m2
      · go_wp2_with fail
        refine HAW.out.mono ?_
        rintro e w7 ⟨rfl, hb7⟩
        have HB7 := Lib.hid (HB6.out.trans (hb7.mono HB6.out.size))
        go_wp2_with fail
        go_ret
        exact ⟨rfl, HB7.out⟩
      · by_cases h41 : 40 < n
        · go_wp2_with fail
          refine HAW.out.mono ?_
          rintro e w7 ⟨rfl, hb7⟩
          have HB7 := Lib.hid (HB6.out.trans (hb7.mono HB6.out.size))
          go_wp2_with fail
          go_ret
          exact ⟨rfl, HB7.out⟩
        · go_wp2_with fail
          go_roundw
          case rel => exact ⟨k + 1, by omega, by go_num, m2, A6, c6, rfl, by omega, by omega, hD⟩
          case measure => simp [intOf]; omega
    · obtain rfl : n = k := by omega
      clear hlt hk
      have hn40 : n ≤ 40 := by
        rcases Nat.eq_zero_or_pos n with h | h
        · omega
        · exact h40 h
      have hfl : flat (es.take n) = flat es := by rw [List.take_of_length_le (by rw [HLEN.out]; exact Nat.le_refl _)]
      rw [hfl] at hd
      have HO := Lib.hid hd.out.1
      have HML := Lib.hid hd.out.2.1
      have HBW := Lib.hid hd.out.2.2
      clear hd hfl h40
      go_wp2_with fail
      go_loopw [29] (fun i wr => ∃ k : Nat, k ≤ n ∧ i = .int .i64 k ∧ Hid (Below wq.heap.size wq wr)) (fun i _ => n - (intOf i).toNat)
      case atStart => exact ⟨0, by omega, rfl, Lib.hid (Below.refl _ _)⟩
      case round =>
        obtain ⟨k, hk, rfl, hbk⟩ := hrel
        have hbw := HBW.out.trans (hbk.out.mono HBW.out.size)
        by_cases hlt : k < n
        · obtain ⟨b, o, rfl, r, hr, hcell, hrow⟩ := (HL.out wr hbw).at_ hlt
          have hle : (flat (es.take (k + 1))).length ≤ (flat es).length := flat_take_le es (k + 1)
          rw [flat_next hr, List.length_append, hrow.blen, HML.out] at hle
          have hrn : r.n ≤ 2000 := by omega
          obtain ⟨rA, rn, rc, rl⟩ := r
          simp only at hrn hcell hrow
          have HS := Lib.hid (sum_any w.heap.size rn rc rA rl wr (HT.out.below hbw HT.out.1) hrow hbw.size (by omega))
          have HROW := Lib.hid hrow
          have HBk := Lib.hid hbw
          have hki : (k : Int) < (n : Int) := by omega
          clear hle hrow hr hbw
          go_wp2_with fail
          refine HS.out.mono ?_
          rintro e w2 ⟨A2, c2, rfl, ho2, hb2⟩
          have HO2 := ho2
          have HR2 := Lib.hid (HROW.out.below (hb2.out.mono HBk.out.size))
          have HB2 := Lib.hid (hbk.out.trans (hb2.out.mono hbk.out.size))
          have HZ2 : Hid (w.heap.size ≤ w2.heap.size) := Lib.hid (Nat.le_trans HBk.out.size hb2.out.size)
          clear ho2 HS hcell hb2
          go_wp2_with fail
          refine (rdig_any w.heap.size rn rc rA rl w2 HR2.out HZ2.out (by omega)).mono ?_
          rintro e w3 ⟨A3, c3, rfl, ho3, hb3⟩
          have HB3 := Lib.hid (HB2.out.trans (hb3.out.mono HB2.out.size))
          have HAL := Lib.hid (alike_yes w3.heap.size w3.heap.size c2 c3 A2 A3 (Sha.D rl) w3 (Row.of_own (own_below HO2.out hb3.out)) (Row.of_own ho3.out))
          clear ho3 hb3 HO2 HR2 HB2 HZ2
          go_wp2_with fail
          refine HAL.out.mono ?_
          rintro e w' ⟨rfl, rfl⟩
          go_wp2_with fail
          go_roundw
          case rel => exact ⟨k + 1, by omega, by go_num, HB3⟩
          case measure => simp [intOf]; omega
        · obtain rfl : n = k := by omega
          clear hlt
          have HS := Lib.hid (rows_any w.heap.size n cap A es wr (HT.out.below hbw HT.out.1) (HL.out wr hbw) hbw.size (by rw [HML.out]; omega) (by omega))
          have HO4 := Lib.hid (own_below HO.out hbk.out)
          have HBk := Lib.hid hbw
          clear hbw
          go_wp2_with fail
          refine HS.out.mono ?_
          rintro e w2 ⟨A2, c2, rfl, ho2, hb2⟩
          have HO2 := ho2
          have HO5 := Lib.hid (own_below HO4.out hb2.out)
          have HB2 := Lib.hid (HBk.out.trans (hb2.out.mono HBk.out.size))
          clear ho2 HS hb2
          go_wp2_with fail
          refine (rdig_any w2.heap.size m c5 A5 (flat es) w2 (Row.of_own HO5.out) (Nat.le_refl _) (by omega)).mono ?_
          rintro e w3 ⟨A3, c3, rfl, ho3, hb3⟩
          have HB3 := Lib.hid (HB2.out.trans (hb3.out.mono HB2.out.size))
          have HAL := Lib.hid (alike_yes w3.heap.size w3.heap.size c2 c3 A2 A3 (Sha.D (flat es)) w3 (Row.of_own (own_below HO2.out hb3.out)) (Row.of_own ho3.out))
          clear ho3 hb3 HO2 HO4 HO5
          go_wp2_with fail
          refine HAL.out.mono ?_
          rintro e w' ⟨rfl, rfl⟩
          go_wp2_with fail
          refine (awake2_any w3 (HT.out.below HB3.out HT.out.1)).mono ?_
          rintro e w4 ⟨rfl, hb4⟩
          have HB4 := Lib.hid (HB3.out.trans (hb4.mono HB3.out.size))
          go_wp2_with fail
          go_ret
          exact ⟨rfl, HB4.out⟩
end Go.Proofs.YtapjaagigjfidaaDoor.Sh
