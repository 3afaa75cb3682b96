/- layer 8's laws: sound, awake. -/
import Derived.Test.YtibleaaghhhjkaaDoorSpread
import Derived.Laws.ResultCell
namespace Go.Proofs.YtibleaaghhhjkaaDoor.Sp
open Go.RowKit
open VecM RdM SoM Vc
theorem row_at (s id K P Z : Nat) (sv idv Kv Pv Zv : Int) (h0 : sv = (s : Int)) (h1 : idv = (id : Int)) (h2 : Kv = (K : Int)) (h3 : Pv = (P : Int)) (h4 : Zv = (Z : Int)) (w : World) (hs : s < 4294967296) (hid : id < 4294967296) (hK : 1 ≤ K ∧ K ≤ 64) (hP : P ≤ 16) (hZ : 1 ≤ Z ∧ Z ≤ 16) : Calls Tryd.prog 6 #[.agg #[.int .u32 sv, .int .i64 Kv, .int .i64 Pv, .int .i64 Zv], .int .u32 idv] w (OfOk (K + P) (spX s K P id) w) := by
  subst h0 h1 h2 h3 h4
  exact row_any s id K P Z w hs hid hK hP hZ
theorem pieces_at (s K P Z : Nat) (sv Kv Pv Zv : Int) (h0 : sv = (s : Int)) (h2 : Kv = (K : Int)) (h3 : Pv = (P : Int)) (h4 : Zv = (Z : Int)) (w : World) (hK : 1 ≤ K ∧ K ≤ 64) (hP : P ≤ 16) (hZ : 1 ≤ Z ∧ Z ≤ 16) : Calls Tryd.prog 23 #[.agg #[.int .u32 sv, .int .i64 Kv, .int .i64 Pv, .int .i64 Zv]] w fun e w' => e = .returned (.int .i64 ((K + P : Nat) : Int)) ∧ Hid (Below w.heap.size w w') := by
  subst h0 h2 h3 h4
  have h := pieces_any s K P Z w (by omega) (by omega)
  rw [if_pos ((mayB_iff _ _ _).2 ⟨by omega, by omega, by omega⟩), show (K : Int) + (P : Int) = ((K + P : Nat) : Int) by omega] at h
  exact h
theorem bag_below {w0 w : World} {l : List VV} {f : FuncId} {args : Array Value} {v : Value} (b : Bag w0 w l) (hc : Calls Tryd.prog f args w fun e w' => e = .returned v ∧ Hid (Below w.heap.size w w')) : Calls Tryd.prog f args w fun e w' => e = .returned v ∧ Hid (Bag w0 w' l) :=
  hc.mono fun e w' ⟨he, hb⟩ => ⟨he, b.read hb.out⟩
theorem spX_first {s K P id : Nat} (h : id < K) (hK : K ≤ 64) : Ls (spX s K P id) = [id] := by
  unfold spX; rw [if_pos h, Ls_pow id (by omega)]
set_option maxRecDepth 100000 in
set_option maxHeartbeats 800000 in
theorem awake8_any (w : World) (ht : DTab w) : Calls Tryd.prog 14 #[] w fun e w' => e = .returned (.bool true) ∧ Hid (Below w.heap.size w w') := by
  have hal : Below w.heap.size w (w.alloc (.cells #[.int .u32 1, .int .i64 4, .int .i64 2, .int .i64 1] 24)) := (Below.refl _ _).alloc (Nat.le_refl _) _
  have hx := heap_alloc_new w (.cells #[.int .u32 1, .int .i64 4, .int .i64 2, .int .i64 1] 24)
  have hz : (w.alloc (.cells #[.int .u32 1, .int .i64 4, .int .i64 2, .int .i64 1] 24)).heap.size = w.heap.size + 1 := by simp
  have HB0 := Lib.hid (Bag.start _ (ht.grow hal))
  have HAL := Lib.hid hal
  have HX := Lib.hid (fun (W : World) (h : Below (w.alloc (.cells #[.int .u32 1, .int .i64 4, .int .i64 2, .int .i64 1] 24)).heap.size (w.alloc (.cells #[.int .u32 1, .int .i64 4, .int .i64 2, .int .i64 1] 24)) W) => box4 ((h.block w.heap.size (by omega)).trans hx))
  have HF : Hid (Ls (spX 1 4 2 3) = [3]) := spX_first (by omega) (by omega)
  clear hal hx hz ht
  go_enter Tryd.func14, Tryd.ntmps14
  go_wp2_with fail
  refine (bag_Of HB0.out (row_at 1 3 4 2 1 1 3 4 2 1 rfl rfl rfl rfl rfl _ (by omega) (by omega) ⟨by omega, by omega⟩ (by omega) ⟨by omega, by omega⟩)).mono ?_
  rintro e w1 ⟨g, h, rfl, HB1⟩
  clear HB0
  go_wp2_with fail
  refine (bag_len 0 HB1.out rfl).mono ?_
  rintro e w2 ⟨rfl, HB2⟩
  clear HB1
  go_wp2_with fail
  have HFI := Lib.hid (bag_first 0 HB2.out rfl)
  rw [HF.out] at HFI
  refine HFI.out.mono ?_
  rintro e w3 ⟨rfl, HB3⟩
  clear HB2 HFI
  go_wp2_with fail
  have HCO := Lib.hid (bag_count 0 HB3.out rfl)
  rw [HF.out] at HCO
  refine HCO.out.mono ?_
  rintro e w4 ⟨rfl, HB4⟩
  clear HB3 HCO
  obtain ⟨c0, c1, c2, c3⟩ := HX.out w4 HB4.out.below
  go_wp2_with fail
  refine (bag_below HB4.out (pieces_at 1 4 2 1 1 4 2 1 rfl rfl rfl rfl _ ⟨by omega, by omega⟩ (by omega) ⟨by omega, by omega⟩)).mono ?_
  rintro e w5 ⟨rfl, HB5⟩
  clear HB4 c0 c1 c2 c3
  go_wp2_with fail
  go_ret
  exact ⟨rfl, HAL.out.trans (HB5.out.below.mono HAL.out.size)⟩
theorem bag_awake8 {w0 w : World} {l : List VV} (b : Bag w0 w l) : Calls Tryd.prog 14 #[] w fun e w' => e = .returned (.bool true) ∧ Hid (Bag w0 w' l) :=
  bag_below b (awake8_any w b.dtab)
def SoundOk (s : Nat) (w : World) (e : Ending) (w' : World) : Prop := ∃ K P Z : Nat, e = .returned (parV s K P Z) ∧ Hid ((1 ≤ K ∧ K ≤ 64) ∧ P ≤ 16 ∧ (1 ≤ Z ∧ Z ≤ 16)) ∧ Hid (Below w.heap.size w w')
set_option maxRecDepth 100000 in
set_option maxHeartbeats 800000 in
theorem sound_any (s : Nat) (K P Z : Int) (w : World) : Calls Tryd.prog 5 #[parV s K P Z] w (SoundOk s w) := by
  obtain ⟨k, hk, hkp⟩ := pick_in K 64 (by omega) (by omega)
  obtain ⟨p, hp, hpp⟩ := pick_in P 17 (by omega) (by omega)
  obtain ⟨z, hz, hzp⟩ := pick_in Z 16 (by omega) (by omega)
  have HK := Lib.hid hkp
  have HP := Lib.hid hpp
  have HZ := Lib.hid hzp
  obtain ⟨k1, hk1⟩ : ∃ k1 : Nat, 1 + (k : Int) = (k1 : Int) := ⟨k + 1, by omega⟩
  obtain ⟨z1, hz1⟩ : ∃ z1 : Nat, 1 + (z : Int) = (z1 : Int) := ⟨z + 1, by omega⟩
  have HK1 := Lib.hid hk1
  have HZ1 := Lib.hid hz1
  have hk64 : k ≤ 63 := by omega
  have hz16 : z ≤ 15 := by omega
  have HF : Hid ((1 ≤ k1 ∧ k1 ≤ 64) ∧ p ≤ 16 ∧ (1 ≤ z1 ∧ z1 ≤ 16)) := ⟨by omega, by omega, by omega⟩
  unfold parV
  clear hkp hpp hzp hk hp hz hk1 hz1
  go_enter Tryd.func5, Tryd.ntmps5
  go_wp2_with (first | rw [HK.out] | rw [HK1.out] | rw [HP.out] | rw [HZ.out] | rw [HZ1.out])
  refine bodyPost_ret (v := .agg #[.int .u32 (s : Int), .int .i64 (k1 : Int), .int .i64 (p : Int), .int .i64 (z1 : Int)]) (by simp [results, Tryd.results5, go_sem]) rfl ⟨k1, p, z1, rfl, HF, ?_⟩
  exact ((Below.refl _ _).alloc (Nat.le_refl _) _).alloc (by simp) _
end Go.Proofs.YtibleaaghhhjkaaDoor.Sp
