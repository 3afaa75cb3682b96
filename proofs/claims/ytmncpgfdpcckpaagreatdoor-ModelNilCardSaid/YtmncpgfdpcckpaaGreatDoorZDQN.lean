/- The pieces of a row as a number: plain mathematics. -/
import Derived.BigQuiet
import Derived.Deep.QuietTactic
import Derived.Deep.RegionWith
import Derived.Deep.DeepCutAuto
import Derived.WalkSpells
import Derived.WalkLawsBesides
import Derived.Laws.Rows
import Derived.Test.YtmncpgfdpcckpaaGreatDoorZBQN
import Derived.Test.YtmncpgfdpcckpaaGreatDoorZCQN
import Derived.Test.YtmncpgfdpcckpaaGreatDoorZAQN
import Derived.Test.YtmncpgfdpcckpaaGreatDoorRows
set_option maxRecDepth 100000
namespace Go.Proofs.YtmncpgfdpcckpaaGreatDoor.Sp
open Go.RowKit
open VecM RdM SoM Vc
def degP (n a d : Nat) : Bool := decide (1 ≤ d) && decide (d ≤ n) && decide (sm n (d - 1) ≤ a) && decide (a < sm n d)
theorem degP_iff (n a d : Nat) : degP n a d = true ↔ IsDeg n a d := by
 unfold degP IsDeg; simp [and_assoc]
def degF (n a : Nat) : Nat := ((List.range 81).find? (degP n a)).getD 0
theorem degF_eq {n a d : Nat} (h : IsDeg n a d) (hn : n ≤ 80) : degF n a = d := by
 have hd : d ∈ List.range 81 := by have := h.2.1; simp; omega
 unfold degF
 cases hf : (List.range 81).find? (degP n a) with
 | none =>
  rw [List.find?_eq_none] at hf
  exact absurd ((degP_iff n a d).2 h) (hf d hd)
 | some d' =>
  have h2 := (degP_iff n a d').1 (List.find?_some hf)
  exact (h.uniq h2).symm
theorem deg_exists (n a : Nat) (ha : a < sm n n) : ∃ d, IsDeg n a d := by
 have key : ∀ m, m ≤ n → a < sm n m → ∃ d, 1 ≤ d ∧ d ≤ m ∧ sm n (d - 1) ≤ a ∧ a < sm n d := by
  intro m
  induction m with
  | zero => intro _ h; exact absurd h (by simp [sm])
  | succ m ih =>
   intro hm h
   by_cases h2 : a < sm n m
   ·obtain ⟨d, h3, h4, h5⟩ := ih (by omega) h2
    exact ⟨d, h3, by omega, h5⟩
   ·exact ⟨m + 1, by omega, by omega, by simpa using h2, h⟩
 obtain ⟨d, h1, h2, h3, h4⟩ := key n (Nat.le_refl n) ha
 exact ⟨d, h1, h2, h3, h4⟩
theorem count_fold (n : Nat) (hn : n ≤ 256) : ∀ (l : List Int) (X : Nat), l.Nodup → (∀ z ∈ l, 0 ≤ z ∧ z < (n : Int)) → (∀ z ∈ l, X.testBit z.toNat = false) → (L (l.foldl (setOne n) X) 256).length = (L X 256).length + l.length
 | [], X, _, _, _ => by simp
 | z :: t, X, hd, hr, hb => by
  have hz := hr z (by simp)
  have hzb := hb z (by simp)
  rw [List.nodup_cons] at hd
  have e : setOne n X z = X ||| 2 ^ z.toNat := by unfold setOne; rw [if_pos hz]
  rw [List.foldl_cons, e, count_fold n hn t _ hd.2 (fun y hy => hr y (by simp [hy])) (fun y hy => ?_), L_set X z.toNat hzb 256, if_pos (by omega), List.length_cons]
  ·omega
  ·rw [set_bit, hb y (by simp [hy])]
   have hy2 := hr y (by simp [hy])
   have : ¬ z.toNat = y.toNat := by
    intro e2
    have : z = y := by omega
    subst this
    exact hd.1 hy
   simp [this]
theorem count_ofL {n : Nat} (hn : n ≤ 256) {l : List Int} (hd : l.Nodup) (hr : ∀ z ∈ l, 0 ≤ z ∧ z < (n : Int)) : (Ls (ofL n l)).length = l.length := by
 have := count_fold n hn l 0 hd hr (fun z _ => by simp)
 rw [L_zero, List.length_nil, Nat.zero_add] at this
 exact this
def chance (s n id : Nat) : List Int := some_ n (sh (seed (s : Int) (id : Int))) (degF n (atx n (mx (sh (seed (s : Int) (id : Int)))).toNat))
def spX (s K P id : Nat) : Nat := if id < K then 2 ^ id else ofL (K + P) (chance s (K + P) id)
theorem spX_lt {s K P id : Nat} : spX s K P id < 2 ^ (K + P) := by
 unfold spX
 split
 ·exact Nat.pow_lt_pow_right (by decide) (by omega)
 ·exact ofL_lt _
theorem pow_bit (i j : Nat) : (2 ^ i).testBit j = decide (i = j) := Nat.testBit_two_pow
theorem ofL_one (n i : Nat) (h : i < n) : ofL n [(i : Int)] = 2 ^ i := by
 show setOne n 0 (i : Int) = _
 unfold setOne
 rw [if_pos (by omega)]; simp
theorem Ls_pow (i : Nat) (h : i < 256) : Ls (2 ^ i) = [i] := by
 have h1 : (2 ^ i).testBit i = true := by rw [pow_bit]; simp
 have h2 : ∀ j, j < i → (2 ^ i).testBit j = false := fun j hj => by rw [pow_bit]; simp; omega
 have h3 : clr (2 ^ i) i = 0 := by
  apply Nat.eq_of_testBit_eq; intro j
  rw [clr_bit, pow_bit, Nat.zero_testBit]
  by_cases e : i = j
  ·subst e; simp
  ·simp [e]
 unfold Ls
 rw [L_low _ i 256 h h1 h2, h3, L_zero]
theorem chance_facts {s n id d : Nat} (hn : 1 ≤ n) (hn2 : n ≤ 80) (hd : IsDeg n (atx n (mx (sh (seed (s : Int) (id : Int)))).toNat) d) : (chance s n id).length = d ∧ (chance s n id).Nodup ∧ ∀ z ∈ chance s n id, 0 ≤ z ∧ z < (n : Int) := by
 have e := degF_eq hd hn2
 unfold chance
 rw [e]
 have h1 := some_sub n (by omega) (sh (seed (s : Int) (id : Int))) d hd.2.1
 exact ⟨some_length n _ d hd.2.1, h1.1, h1.2⟩
theorem spX_count {s K P id : Nat} (hK : 1 ≤ K) (hn2 : K + P ≤ 80) : 1 ≤ (Ls (spX s K P id)).length ∧ (Ls (spX s K P id)).length ≤ K + P ∧ (id < K → Ls (spX s K P id) = [id]) := by
 by_cases h : id < K
 ·have e : spX s K P id = 2 ^ id := by unfold spX; rw [if_pos h]
  rw [e, Ls_pow id (by omega)]
  exact ⟨by simp, by simp; omega, fun _ => rfl⟩
 ·have hm := mx_bounds (sh (seed (s : Int) (id : Int)))
  obtain ⟨d, hd⟩ := deg_exists (K + P) _ (atx_lt (K + P) (mx (sh (seed (s : Int) (id : Int)))).toNat (by omega) hn2 (by omega))
  obtain ⟨h1, h2, h3⟩ := chance_facts (s := s) (id := id) (by omega) hn2 hd
  have e : spX s K P id = ofL (K + P) (chance s (K + P) id) := by unfold spX; rw [if_neg h]
  rw [e, count_ofL (by omega) h2 h3, h1]
  exact ⟨hd.1, hd.2.1, fun h' => absurd h' h⟩
end Go.Proofs.YtmncpgfdpcckpaaGreatDoor.Sp
namespace Go.Proofs.YtmncpgfdpcckpaaGreatDoor.Sp
open Go.RowKit
theorem within_any (x a b : Int) (w : World) : Calls Tryz.prog 99 #[.int .i64 x, .int .i64 a, .int .i64 b] w fun e w' => e = .returned (.bool (decide (a ≤ x) && decide (x ≤ b))) ∧ w = w' := by
 go_enter Tryz.func99, Tryz.ntmps99
 go_wp2
 all_goals (go_ret; exact ⟨by simp; intros; omega, rfl⟩)
def mayB (K P Z : Int) : Bool := (decide (1 ≤ K) && decide (K ≤ 64)) && (decide (0 ≤ P) && decide (P ≤ 16)) && (decide (1 ≤ Z) && decide (Z ≤ 16))
def parV (s : Nat) (K P Z : Int) : Value := .agg #[.int .u32 (s : Int), .int .i64 K, .int .i64 P, .int .i64 Z]
set_option maxHeartbeats 400000 in
theorem may_any (s : Nat) (K P Z : Int) (w : World) : Calls Tryz.prog 67 #[parV s K P Z] w fun e w' => e = .returned (.bool (mayB K P Z)) ∧ Hid (Below w.heap.size w w') := by
 unfold parV
 go_enter Tryz.func67, Tryz.ntmps67
 go_wp2_with (go_at_call 99; refine (within_any _ _ _ _).mono ?_; rintro e w' ⟨rfl, rfl⟩)
 all_goals (go_ret; exact ⟨by simp [mayB, *], (Below.refl _ _).alloc (Nat.le_refl _) _⟩)
theorem mayB_iff (K P Z : Int) : mayB K P Z = true ↔ (1 ≤ K ∧ K ≤ 64) ∧ (0 ≤ P ∧ P ≤ 16) ∧ (1 ≤ Z ∧ Z ≤ 16) := by
 unfold mayB; simp [and_assoc]
theorem box4 {w : World} {g : Nat} {x y z u : Value} {t : TypeId} (h : w.heap[g]? = some (.cells #[x, y, z, u] t (0, 0))) : w.cell? ⟨g, 0, none⟩ = some x ∧ w.cell? ⟨g, 1, none⟩ = some y ∧ w.cell? ⟨g, 2, none⟩ = some z ∧ w.cell? ⟨g, 3, none⟩ = some u := by
 refine ⟨?_, ?_, ?_, ?_⟩ <;> rw [cell_of_row w g _ _ t (0, 0) h] <;> rfl
set_option maxHeartbeats 800000 in
theorem pieces_any (s : Nat) (K P Z : Int) (w : World) (hk : -9223372036854775808 ≤ K ∧ K ≤ 9223372036854775807) (hp : -9223372036854775808 ≤ P ∧ P ≤ 9223372036854775807) : Calls Tryz.prog 69 #[parV s K P Z] w fun e w' => e = .returned (.int .i64 (if mayB K P Z then K + P else 0)) ∧ Hid (Below w.heap.size w w') := by
 have hx := heap_alloc_new w (.cells #[.int .u32 (s : Int), .int .i64 K, .int .i64 P, .int .i64 Z] 76)
 have hb0 : Below w.heap.size w (w.alloc (.cells #[.int .u32 (s : Int), .int .i64 K, .int .i64 P, .int .i64 Z] 76)) := (Below.refl _ _).alloc (Nat.le_refl _) _
 have hz : (w.alloc (.cells #[.int .u32 (s : Int), .int .i64 K, .int .i64 P, .int .i64 Z] 76)).heap.size = w.heap.size + 1 := by simp
 have HM := Lib.hid (fun W => may_any s K P Z W)
 have HI := Lib.hid (mayB_iff K P Z)
 have HX := Lib.hid hx
 have HB0 := Lib.hid hb0
 have HZ := Lib.hid hz
 clear hx hb0 hz
 unfold parV at HM ⊢
 cases hm : mayB K P Z with
 | true =>
  obtain ⟨⟨k1, k2⟩, ⟨p1, p2⟩, _⟩ := HI.out.1 hm
  rw [hm] at HM
  clear hm HI hk hp
  go_enter Tryz.func69, Tryz.ntmps69
  go_wp2_with fail
  refine (HM.out _).mono ?_
  rintro e w1 ⟨rfl, hb1⟩
  obtain ⟨c0, c1, c2, c3⟩ := box4 ((hb1.out.block w.heap.size (by have := HZ.out; omega)).trans HX.out)
  have HE := Lib.hid (HB0.out.trans (hb1.out.mono HB0.out.size))
  clear hb1
  go_wp2_with fail
  go_ret
  exact ⟨rfl, HE⟩
 | false =>
  rw [hm] at HM
  clear hm HI hk hp
  go_enter Tryz.func69, Tryz.ntmps69
  go_wp2_with fail
  refine (HM.out _).mono ?_
  rintro e w1 ⟨rfl, hb1⟩
  have HE := Lib.hid (HB0.out.trans (hb1.out.mono HB0.out.size))
  go_wp2_with fail
  go_ret
  exact ⟨rfl, HE⟩
end Go.Proofs.YtmncpgfdpcckpaaGreatDoor.Sp
namespace Go.Proofs.YtmncpgfdpcckpaaGreatDoor.Sp
open Go.RowKit
open VecM RdM SoM Vc
set_option maxHeartbeats 800000 in
theorem row_no (s id : Nat) (K P Z : Int) (w : World) (hm : mayB K P Z = false) : Calls Tryz.prog 73 #[parV s K P Z, .int .u32 (id : Int)] w fun e w' => e = .returned (.pointer none) ∧ Hid (Below w.heap.size w w') := by
 have hb0 : Below w.heap.size w (w.alloc (.cells #[.int .u32 (s : Int), .int .i64 K, .int .i64 P, .int .i64 Z] 76)) := (Below.refl _ _).alloc (Nat.le_refl _) _
 have HM := Lib.hid (fun W => may_any s K P Z W)
 rw [hm] at HM
 unfold parV at HM ⊢
 clear hm
 go_enter Tryz.func73, Tryz.ntmps73
 go_wp2_with fail
 refine (HM.out _).mono ?_
 rintro e w1 ⟨rfl, hb1⟩
 have HE := Lib.hid (hb0.trans (hb1.out.mono hb0.size))
 go_wp2_with fail
 go_ret
 exact ⟨rfl, HE⟩
set_option maxHeartbeats 1600000 in
theorem row_any (s id K P Z : Nat) (w : World) (hs : s < 4294967296) (hid : id < 4294967296) (hK : 1 ≤ K ∧ K ≤ 64) (hP : P ≤ 16) (hZ : 1 ≤ Z ∧ Z ≤ 16) : Calls Tryz.prog 73 #[parV s K P Z, .int .u32 (id : Int)] w (OfOk (K + P) (spX s K P id) w) := by
 have hx := heap_alloc_new w (.cells #[.int .u32 (s : Int), .int .i64 (K : Int), .int .i64 (P : Int), .int .i64 (Z : Int)] 76)
 have hb0 : Below w.heap.size w (w.alloc (.cells #[.int .u32 (s : Int), .int .i64 (K : Int), .int .i64 (P : Int), .int .i64 (Z : Int)] 76)) := (Below.refl _ _).alloc (Nat.le_refl _) _
 have hz : (w.alloc (.cells #[.int .u32 (s : Int), .int .i64 (K : Int), .int .i64 (P : Int), .int .i64 (Z : Int)] 76)).heap.size = w.heap.size + 1 := by simp
 have hm : mayB (K : Int) (P : Int) (Z : Int) = true := (mayB_iff _ _ _).2 ⟨by omega, by omega, by omega⟩
 have HM := Lib.hid (fun W => may_any s K P Z W)
 have HPC := Lib.hid (fun W => pieces_any s K P Z W (by omega) (by omega))
 rw [hm] at HM HPC
 have hn : (K : Int) + (P : Int) = ((K + P : Nat) : Int) := by omega
 rw [if_pos rfl, hn] at HPC
 have HX := Lib.hid hx
 have HB0 := Lib.hid hb0
 have HZ' := Lib.hid hz
 obtain ⟨n, hnn⟩ : ∃ n, K + P = n := ⟨_, rfl⟩
 rw [hnn] at HPC ⊢
 have hn80 : n ≤ 80 := by omega
 have hn1 : 1 ≤ n := by omega
 have HNN := Lib.hid hnn
 have hK1 := hK.1
 have hK2 := hK.2
 have HS := Lib.hid hs
 clear hx hb0 hz hm hn hnn hK hP hZ hs
 unfold parV at HM HPC ⊢
 by_cases hlt : id < K
 ·have hlt' : (id : Int) < (K : Int) := by omega
  have HXX : Hid (spX s K P id = ofL n [(id : Int)]) := by
   show _ = _
   unfold spX; rw [if_pos hlt, ofL_one n id (by have := HNN.out; omega)]
  rw [HXX.out]
  clear hlt hid
  go_enter Tryz.func73, Tryz.ntmps73
  go_wp2_with fail
  refine (HM.out _).mono ?_
  rintro e w1 ⟨rfl, hb1⟩
  have hs1 : w.heap.size < w1.heap.size := by have := hb1.out.size; have := HZ'.out; omega
  have HX1 := Lib.hid ((hb1.out.block w.heap.size (by have := HZ'.out; omega)).trans HX.out)
  have HB1 := Lib.hid (HB0.out.trans (hb1.out.mono HB0.out.size))
  obtain ⟨c0, c1, c2, c3⟩ := box4 HX1.out
  clear hb1
  go_wp2_with fail
  refine (HPC.out _).mono ?_
  rintro e w2 ⟨rfl, hb2⟩
  have hs2 : w.heap.size < w2.heap.size := by have := hb2.out.size; omega
  have HX2 := Lib.hid ((hb2.out.block w.heap.size hs1).trans HX1.out)
  have HB2 := Lib.hid (HB1.out.trans (hb2.out.mono HB1.out.size))
  clear c0 c1 c2 c3 hb2
  obtain ⟨c0, c1, c2, c3⟩ := box4 HX2.out
  have hr : Row (w2.alloc (.cells #[.int .i64 (id : Int)] 3)) (w2.heap.size + 1) (some ⟨w2.heap.size, 0, none⟩) 1 (nv [(id : Int)]) := row_new w2 #[.int .i64 (id : Int)] 3 (0, 0)
  have HO := Lib.hid (of_any n (some ⟨w2.heap.size, 0, none⟩) 1 1 _ [(id : Int)] _ hr (by simp) (by omega) (by omega))
  have HB3 : Hid (Below w.heap.size w (w2.alloc (.cells #[.int .i64 (id : Int)] 3))) := HB2.out.alloc HB2.out.size _
  clear hr
  go_wp2_with fail
  refine HO.out.mono ?_
  rintro e w3 ⟨g, h, rfl, hg, hh, hv, hb3⟩
  have hs3 : w.heap.size ≤ (w2.alloc (.cells #[.int .i64 (id : Int)] 3)).heap.size := HB3.out.size
  have HE := Lib.hid (HB3.out.trans (hb3.out.mono HB3.out.size))
  have HG : Hid (w.heap.size ≤ g ∧ w.heap.size ≤ h) := ⟨by omega, by omega⟩
  clear hb3 hg hh hs3 c0 c1 c2 c3
  go_wp2_with fail
  go_ret
  exact ⟨g, h, rfl, HG.out.1, HG.out.2, hv, HE⟩
 ·have hlt' : ¬ (id : Int) < (K : Int) := by omega
  have HXX : Hid (spX s K P id = ofL n (chance s n id)) := by
   show _ = _
   have := HNN.out
   unfold spX; rw [if_neg hlt, this]
  rw [HXX.out]
  obtain ⟨Q, hQ⟩ : ∃ Q, chance s n id = Q := ⟨_, rfl⟩
  rw [hQ]
  have HQ := Lib.hid hQ
  clear hlt hQ HXX
  go_enter Tryz.func73, Tryz.ntmps73
  go_wp2_with fail
  refine (HM.out _).mono ?_
  rintro e w1 ⟨rfl, hb1⟩
  have hs1 : w.heap.size < w1.heap.size := by have := hb1.out.size; have := HZ'.out; omega
  have HX1 := Lib.hid ((hb1.out.block w.heap.size (by have := HZ'.out; omega)).trans HX.out)
  have HB1 := Lib.hid (HB0.out.trans (hb1.out.mono HB0.out.size))
  obtain ⟨c0, c1, c2, c3⟩ := box4 HX1.out
  clear hb1
  go_wp2_with fail
  refine (HPC.out _).mono ?_
  rintro e w2 ⟨rfl, hb2⟩
  have hs2 : w.heap.size < w2.heap.size := by have := hb2.out.size; omega
  have HX2 := Lib.hid ((hb2.out.block w.heap.size hs1).trans HX1.out)
  have HB2 := Lib.hid (HB1.out.trans (hb2.out.mono HB1.out.size))
  clear c0 c1 c2 c3 hb2
  obtain ⟨c0, c1, c2, c3⟩ := box4 HX2.out
  have HNW := Lib.hid (Go.Proofs.YtmncpgfdpcckpaaGreatDoor.rand_new (s : Int) (id : Int) (by omega) (by have := HS.out; omega) (by omega) (by omega) w2)
  go_wp2_with fail
  refine HNW.out.mono ?_
  rintro e w3 ⟨rfl, hsrc3, hb3, hz3⟩
  have HSRC := Lib.hid hsrc3
  have HB3 := Lib.hid (HB2.out.trans (hb3.mono HB2.out.size))
  have hs3 : w2.heap.size < w3.heap.size := by omega
  clear hz3 hsrc3 hb3 c0 c1 c2 c3 HNW
  go_wp2_with fail
  have hbs3 := HB3.out.size
  refine (Go.Proofs.YtmncpgfdpcckpaaGreatDoor.new_in n w3 hn1 hn80).mono ?_
  rintro e w4 ⟨rfl, htab, hb4⟩
  have HSRC4 := Lib.hid (HSRC.out.below hb4.out HSRC.out.lt)
  have HB4 := Lib.hid (HB3.out.trans (hb4.out.mono HB3.out.size))
  have hs4 := htab.out.lt
  have hs34 := hb4.out.size
  have HN4 := Lib.hid (Go.Proofs.YtmncpgfdpcckpaaGreatDoor.next_any w2.heap.size _ w4 HSRC4.out)
  have hxm := mx_bounds (sh (seed (s : Int) (id : Int)))
  obtain ⟨x, hxx⟩ : ∃ x : Nat, mx (sh (seed (s : Int) (id : Int))) = (x : Int) := ⟨(mx (sh (seed (s : Int) (id : Int)))).toNat, by omega⟩
  have hx32 : x < 4294967296 := by omega
  rw [hxx] at HN4
  have HCH : Hid (some_ n (sh (seed (s : Int) (id : Int))) (degF n (atx n x)) = Q) := by
   show _ = _
   rw [← HQ.out]
   unfold chance
   rw [hxx, Int.toNat_natCast]
  generalize seed (s : Int) (id : Int) = sd at *
  have HHX := Lib.hid hx32
  clear hb4 HSRC HB3 hxm hxx hx32 HQ
  go_wp2_with fail
  refine HN4.out.mono ?_
  rintro e w5 ⟨rfl, hsrc5, hb5, hz5⟩
  have HTAB5 : Hid (Tab w5 w3.heap.size n 0 0 (.slice none 0 0)) := (hb5.block w3.heap.size hs4 (by omega)).trans htab.out
  have HSRC5 := Lib.hid hsrc5
  have HB5 := Lib.hid (HB4.out.trans (hb5.below (by omega) HB4.out.size))
  have hs5 : w5.heap.size = w4.heap.size := hz5
  have HZ5 := Lib.hid hs5
  clear hsrc5 hb5 hz5 hs5 htab HN4 HSRC4 HB4
  go_wp2_with fail
  refine (Go.Proofs.YtmncpgfdpcckpaaGreatDoor.degree_first w3.heap.size n x w5 HTAB5.out hn1 hn80 HHX.out).mono ?_
  rintro e w6 ⟨d, rfl, hdeg, _, hb6⟩
  have HD : Hid (degF n (atx n x) = d) := degF_eq hdeg.out hn80
  rw [HD.out] at HCH
  have hd1 := hdeg.out.1
  have hdn := hdeg.out.2.1
  have hz5 := HZ5.out
  have HSRC6 := Lib.hid (hb6.out.other HSRC5.out (by omega) (by omega))
  have HB6 := Lib.hid (HB5.out.trans (hb6.out.below (by omega) HB5.out.size))
  have hs6 := hb6.out.size
  have HZ6 : Hid (w4.heap.size ≤ w6.heap.size) := by show _ ≤ _; omega
  have HST := Lib.hid (Go.Proofs.YtmncpgfdpcckpaaGreatDoor.some_tot w2.heap.size n (sh sd) (d : Int) w6 HSRC6.out (by omega) d (by rw [kk_nat]; omega))
  clear hdeg hb6 HTAB5 HSRC5 HB5 hz5 hs6 HZ5 HD
  go_wp2_with fail
  refine HST.out.mono ?_
  rintro e w7 ⟨A7, c7, rfl, hrow7, _, hb7⟩
  have hz6 := HZ6.out
  have HB7 := Lib.hid (HB6.out.trans (hb7.out.below (by omega) HB6.out.size))
  have HO := Lib.hid (of_any n A7 d c7 _ (some_ n (sh sd) d) w7 hrow7.out (Nat.le_refl _) (by omega) (by omega))
  rw [HCH.out] at HO
  have hbs7 := HB7.out.size
  clear hrow7 hb7 HST HSRC6 HB6 hz6
  go_wp2_with fail
  refine HO.out.mono ?_
  rintro e w8 ⟨g, h, rfl, hg, hh, hv, hb8⟩
  have HE := Lib.hid (HB7.out.trans (hb8.out.mono HB7.out.size))
  have HG : Hid (w.heap.size ≤ g ∧ w.heap.size ≤ h) := ⟨by omega, by omega⟩
  clear hb8 hg hh
  go_wp2_with fail
  go_ret
  exact ⟨g, h, rfl, HG.out.1, HG.out.2, hv, HE⟩
end Go.Proofs.YtmncpgfdpcckpaaGreatDoor.Sp
