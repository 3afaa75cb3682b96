/- The reference's Below and Some: by contracts. -/
import Derived.Test.YtmncpgfdpcckpaaGreatDoorZCQN
import Derived.Test.YtmncpgfdpcckpaaGreatDoorZYQN
import Derived.Test.YtmncpgfdpcckpaaGreatDoorZBQN
import Derived.Test.YtmncpgfdpcckpaaGreatDoorZDQN
import Derived.Test.YtmncpgfdpcckpaaGreatDoorZXQN
import Derived.Test.YtmncpgfdpcckpaaGreatDoorDcMathQN
set_option maxRecDepth 100000
namespace Go.Proofs.YtmncpgfdpcckpaaGreatDoor
open Go.RowKit
open RdM VecM Vc
theorem r1below_any (g : Nat) (x n : Int) (w : World) (hs : r1Src w g x) (h0 : 0 ≤ x) (hx : x ≤ 4294967295) (h1 : 1 ≤ n) (h2 : n ≤ 2147483648) : Calls Tryz.prog 153 #[.pointer (some ⟨g, 0, none⟩), .int .i64 n] w fun e w' => e = .returned (.int .i64 (RdM.bl x n)) ∧ w' = w.setCell ⟨g, 0, none⟩ (.int .u32 (sh x)) := by
 obtain ⟨hy0, hy1⟩ := mx_bounds (sh x)
 obtain ⟨a0, a1, a2, a3⟩ := mul_bounds _ n hy0 hy1 h1 h2
 have HB : Hid (mx (sh x) * n / 4294967296 = RdM.bl x n) := Lib.hid rfl
 have hn := Lib.hid (r1nx_any g x w hs h0 hx)
 clear hs
 go_enter Tryz.func153, Tryz.ntmps153
 go_wp2_with fail
 refine hn.out.mono ?_
 rintro e w' ⟨rfl, rfl⟩
 generalize mx (sh x) = y at *
 go_wp2_with fail
 go_ret
 refine ⟨?_, rfl⟩
 rw [← HB.out]
 rfl
theorem swap_take {p : List Int} {i j : Nat} (hij : i ≤ j) (hi : i < p.length) : (swapL p i j).take (i + 1) = p.take i ++ [(swapL p i j).getD i 0] := by
 have hl : i < (swapL p i j).length := by rw [swapL_length]; exact hi
 rw [List.take_succ_eq_append_getElem hl, List.getD_eq_getElem?_getD, List.getElem?_eq_getElem hl]
 congr 1
 unfold swapL
 apply List.ext_getElem?
 intro k
 rw [List.getElem?_take, List.getElem?_take]
 by_cases h : k < i
 ·rw [if_pos h, if_pos h, List.getElem?_set_ne (by omega), List.getElem?_set_ne (by omega)]
 ·rw [if_neg h, if_neg h]
theorem go_mem {n : Nat} (hn : n ≤ 256) {x : Int} {i : Nat} (hi : i ≤ n) {z : Int} (h : z ∈ go n x i) : 0 ≤ z ∧ z < (n : Int) := by
 have hg := (go_perm n (by omega) x i hi).mem_iff.1 h
 simp only [ids, List.mem_map, List.mem_range] at hg
 obtain ⟨j, hj, rfl⟩ := hg
 omega
def pk (n : Nat) (x : Int) (i : Nat) : Int := (go n x (i + 1)).getD i 0
theorem pk_bound {n : Nat} (hn : n ≤ 256) {x : Int} {i : Nat} (hi : i < n) : 0 ≤ pk n x i ∧ pk n x i < (n : Int) := by
 refine go_mem (x := x) hn (i := i + 1) hi ?_
 unfold pk
 rw [List.getD_eq_getElem?_getD, List.getElem?_eq_getElem (by rw [go_length]; exact hi)]
 exact List.getElem_mem _
theorem go_take {n : Nat} (hn : n ≤ 256) {x : Int} {i : Nat} (hi : i < n) : (go n x (i + 1)).take (i + 1) = (go n x i).take i ++ [pk n x i] := by
 have hb := bl_bounds (shk x i) ((n : Int) - i) (by omega) (by omega)
 exact swap_take (p := go n x i) (by omega) (by rw [go_length]; exact hi)
def inX (n : Nat) (x : Int) : Nat → Nat
 | 0 => 0
 | i + 1 => put (inX n x i) (pk n x i).toNat true
theorem put_bit (X k i : Nat) : (put X k true).testBit i = (decide (i = k) || X.testBit i) := by
 rw [put_true, Nat.testBit_or, Nat.testBit_two_pow, Bool.or_comm]
 congr 1
 by_cases h : k = i
 ·rw [decide_eq_true h, decide_eq_true h.symm]
 ·rw [decide_eq_false h, decide_eq_false (fun e => h e.symm)]
theorem inX_bit {n : Nat} (hn : n ≤ 256) (x : Int) (j : Nat) : ∀ i, i ≤ n → (inX n x i).testBit j = decide ((j : Int) ∈ (go n x i).take i)
 | 0, _ => by simp [inX]
 | i + 1, hi => by
  have hb := pk_bound (x := x) hn hi
  unfold inX
  rw [put_bit, inX_bit hn x j i (by omega), go_take hn hi]
  by_cases h : (j : Int) ∈ (go n x i).take i
  ·rw [decide_eq_true h, decide_eq_true (List.mem_append_left _ h), Bool.or_true]
  ·rw [decide_eq_false h, Bool.or_false]
   by_cases e : j = (pk n x i).toNat
   ·rw [decide_eq_true e, decide_eq_true (List.mem_append_right _ (List.mem_singleton.2 (by omega)))]
   ·rw [decide_eq_false e, decide_eq_false]
    intro hm
    rcases List.mem_append.1 hm with hm | hm
    ·exact h hm
    ·have := List.mem_singleton.1 hm
     omega
theorem inX_eq {n : Nat} (hn : n ≤ 256) (x : Int) {K : Nat} (hK : K ≤ n) : inX n x K = ofL n (some_ n x K) := by
 apply Nat.eq_of_testBit_eq
 intro j
 rw [inX_bit hn x j K hK, ofL_bit]
 have hp : ∀ z, z ∈ some_ n x K ↔ z ∈ (go n x K).take K := fun z => (List.mergeSort_perm _ _).mem_iff
 by_cases h : (j : Int) ∈ (go n x K).take K
 ·have hb := go_mem hn hK (List.mem_of_mem_take h)
  have hj : j < n := by omega
  rw [decide_eq_true h, decide_eq_true hj, decide_eq_true ((hp _).2 h)]; rfl
 ·rw [decide_eq_false h, decide_eq_false (fun e => h ((hp _).1 e)), Bool.and_false]
theorem inX_lt {n : Nat} (hn : n ≤ 256) (x : Int) {K : Nat} (hK : K ≤ n) : inX n x K < 2 ^ n := by rw [inX_eq hn x hK]; exact ofL_lt _
theorem ofL_L {n X : Nat} (hX : X < 2 ^ n) : ofL n ((L X n).map fun i : Nat => (i : Int)) = X := by
 apply Nat.eq_of_testBit_eq
 intro j
 rw [ofL_bit]
 by_cases hj : j < n
 ·rw [decide_eq_true hj, Bool.true_and]
  cases hb : X.testBit j with
  | true => exact decide_eq_true (List.mem_map.2 ⟨j, (mem_L X n j).2 ⟨hj, hb⟩, rfl⟩)
  | false =>
   refine decide_eq_false fun h => ?_
   obtain ⟨i, hi, e⟩ := List.mem_map.1 h
   have e2 : i = j := by omega
   subst e2
   have := ((mem_L X n i).1 hi).2
   rw [hb] at this; cases this
 ·rw [decide_eq_false hj, Bool.false_and, Nat.testBit_lt_two_pow (Nat.lt_of_lt_of_le hX (Nat.pow_le_pow_right (by decide) (by omega)))]
theorem own_at {W W' : World} {base g n c : Nat} {e : TypeId} {xs : List Value} (h : W.ownsRow base e 1 (.slice (some ⟨g, 0, none⟩) n c) n xs) (hk : W'.heap[g]? = W.heap[g]?) : W'.ownsRow base e 1 (.slice (some ⟨g, 0, none⟩) n c) n xs := by
 refine ⟨h.1, ?_⟩
 rcases h.2 with h0 | ⟨g', cap, cur, hv, hb, hg, r⟩
 ·exact .inl h0
 ·have e1 := hv
  injection e1 with e1
  injection e1 with e1
  injection e1 with e1
  subst e1
  exact .inr ⟨_, cap, cur, hv, hb, hk.trans hg, r⟩
structure SI (w : World) (g G Gi n : Nat) (x : Int) (i : Nat) (wr : World) : Prop where
 l : wr.ownsRow G 3 1 (.slice (some ⟨G, 0, none⟩) n n) n (iv (go n x i))
 y : wr.ownsRow G 4 1 (.slice (some ⟨Gi, 0, none⟩) n n) n (vb (inX n x i) n)
 s : r1Src wr g (shk x i)
 b : But G g w wr
theorem SI.draw {w : World} {g G Gi n : Nat} {x : Int} {i : Nat} {wr : World} (h : SI w g G Gi n x i wr) (hg : g < G) (hi : G < Gi) :
  (wr.setCell ⟨g, 0, none⟩ (.int .u32 (sh (shk x i)))).ownsRow G 3 1 (.slice (some ⟨G, 0, none⟩) n n) n (iv (go n x i)) ∧ (wr.setCell ⟨g, 0, none⟩ (.int .u32 (sh (shk x i)))).ownsRow G 4 1 (.slice (some ⟨Gi, 0, none⟩) n n) n (vb (inX n x i) n) ∧ r1Src (wr.setCell ⟨g, 0, none⟩ (.int .u32 (sh (shk x i)))) g (shk x (i + 1)) ∧ But G g w (wr.setCell ⟨g, 0, none⟩ (.int .u32 (sh (shk x i)))) :=
 ⟨own_at h.l (Below.heap_setCell _ _ _ _ (by show G ≠ g; omega)), own_at h.y (Below.heap_setCell _ _ _ _ (by show Gi ≠ g; omega)), by unfold r1Src; rw [heap_setCell_same wr g 0 _ _ _ h.s]; rfl, h.b.setSelf 0 _⟩
def RSomeOk (g n : Nat) (x : Int) (K : Nat) (w : World) (e : Ending) (w' : World) : Prop :=
 ∃ A m c zs, e = .returned (.slice A m c) ∧ Hid (Row w' w'.heap.size A m (nv zs)) ∧ Hid (m ≤ 256 ∧ ofL n zs = ofL n (some_ n x K)) ∧ Hid (But w.heap.size g w w')
set_option maxHeartbeats 6400000 in
theorem r1some_any (g n K : Nat) (x : Int) (w : World) (hs : r1Src w g x) (h0 : 0 ≤ x) (hx : x ≤ 4294967295) (h1 : 1 ≤ n) (h2 : n ≤ 256) (hKn : K ≤ n) : Calls Tryz.prog 128 #[.pointer (some ⟨g, 0, none⟩), .int .i64 (n : Int), .int .i64 (K : Int)] w (RSomeOk g n x K w) := by
 obtain ⟨i0, hi, hz0, hz1, hz2⟩ := info_parts infoI64
 have hmk := mk_ints n (by omega) w
 have hmb := madeBool n (by omega)
 have HOW := Lib.hid (fun W => vb_own W n (by omega))
 have HS := Lib.hid hs
 have hglt : g < w.heap.size := (Array.getElem?_eq_some_iff.1 hs).1
 have hni : (n : Int) ≤ 256 := by omega
 have hni1 : (1 : Int) ≤ (n : Int) := by omega
 have hki : (K : Int) ≤ (n : Int) := by omega
 have hk0 : (0 : Int) ≤ (K : Int) := by omega
 have HX := Lib.hid (And.intro h0 hx)
 have HKM : Hid (max 0 (min (K : Int) (n : Int)) = (K : Int)) := Lib.hid (by omega)
 clear hs h0 hx
 go_enter Tryz.func128, Tryz.ntmps128
 go_upto_region 4 with fail
 rw [HKM.out]
 go_wp2_with fail
 clear hmk
 obtain ⟨G, hG⟩ : ∃ G, w.heap.size = G := ⟨_, rfl⟩
 have HG := Lib.hid hG
 have hst0 : (w.alloc (.cells (Array.replicate n (.int .i64 0)) 3)).ownsRow w.heap.size 3 1 (.slice (some ⟨w.heap.size, 0, none⟩) n n) n (iv (idl n 0)) := by
  rw [idl_zero]
  have := own_lit (w := w) (base := w.heap.size) (g := w.heap.size) (n := n) (e := 3) (Array.replicate n (.int .i64 0)) rfl (Nat.le_refl _) (by simp) (by unfold maxLen; omega)
  simpa [iv] using this
 have hba : Below w.heap.size w (w.alloc (.cells (Array.replicate n (.int .i64 0)) 3)) := (Below.refl _ _).alloc (Nat.le_refl _) _
 rw [hG] at hst0 hba hglt ⊢
 have HST0 := Lib.hid hst0
 have HBA := Lib.hid hba
 clear hst0 hba hG
 generalize (w.alloc (.cells (Array.replicate n (.int .i64 0)) 3)) = wA at *
 go_loopw [29] (fun z wr => ∃ i : Nat, i ≤ n ∧ z = .int .i64 i ∧ Hid (wr.ownsRow G 3 1 (.slice (some ⟨G, 0, none⟩) n n) n (iv (idl n i))) ∧ Hid (Below G w wr)) (fun z _ => n - (intOf z).toNat)
 case atStart => exact ⟨0, by omega, rfl, HST0, HBA⟩
 case round =>
  obtain ⟨i, hi2, rfl, hown, hbl⟩ := hrel
  clear HST0 HBA
  by_cases hlt : i < n
  ·have hfz := hown.out.frozenAt i
   have hcs := (hown.out.cellAt i (by omega)).trans (iv_get _ i (by rw [idl_length]; exact hlt))
   have hst := Lib.hid ((hown.out.stored i (.int .i64 (i : Int))).1)
   have hset := Lib.hid (iv_set (idl n i) i (i : Int))
   have hids := Lib.hid (idl_set n i hlt)
   have hii : (i : Int) < (n : Int) := by omega
   generalize (idl n i).getD i 0 = u at *
   go_wp2_with fail
   go_roundw
   case rel => exact ⟨i + 1, by omega, by go_num, by show World.ownsRow _ _ _ _ _ _ _; rw [← hids.out, ← hset.out]; exact hst.out, hbl.out.setCell (Nat.le_refl _) _⟩
   case measure => simp [intOf]; omega
  ·obtain rfl : n = i := by omega
   have hgo0 := hown.out
   rw [idl_all] at hgo0
   have hGl : G < wr.heap.size := (hgo0.lt G rfl).2
   obtain ⟨wo, rfl⟩ : ∃ wo : World, wo = wr := ⟨_, rfl⟩
   obtain ⟨Gi, hGi⟩ : ∃ Gi, wo.heap.size = Gi := ⟨_, rfl⟩
   have HOB := HOW.out wo
   have hbo : Below G w (wo.alloc (.cells (Array.replicate n (.bool false)) 4)) := hbl.out.alloc (by have := hbl.out.size; omega) _
   have hal : Below wo.heap.size wo (wo.alloc (.cells (Array.replicate n (.bool false)) 4)) := (Below.refl _ _).alloc (Nat.le_refl _) _
   have HSI0 : Hid (SI w g G Gi n x 0 (wo.alloc (.cells (Array.replicate n (.bool false)) 4))) := Lib.hid ⟨own_below hgo0 hal, by rw [← hGi]; exact own_base HOB (by omega), (hbo.block g hglt).trans HS.out, But.of_below hbo⟩
   have HGi : Hid (G < Gi) := Lib.hid (by omega)
   have hm := hmb wo
   rw [hGi] at hm
   clear hmb hown hgo0 hbl HOB hbo hal hGl hlt
   go_wp2_with fail
   clear hm
   rw [hGi] at *
   clear hGi
   generalize (wo.alloc (.cells (Array.replicate n (.bool false)) 4)) = wB at *
   go_loopw [40] (fun z wr => ∃ i : Nat, i ≤ K ∧ z = .int .i64 i ∧ Hid (SI w g G Gi n x i wr)) (fun z _ => K - (intOf z).toNat)
   case atStart => exact ⟨0, by omega, rfl, HSI0⟩
   case round =>
    obtain ⟨i, hi3, rfl, HSI⟩ := hrel
    clear HSI0
    by_cases hlt : i < K
    ·have hni3 : (1 : Int) ≤ (n : Int) - (i : Int) := by omega
     have hni4 : (n : Int) - (i : Int) ≤ 2147483648 := by omega
     have hsb : 0 ≤ shk x i ∧ shk x i ≤ 4294967295 := by
      cases i with
      | zero => exact HX.out
      | succ i => exact sh_bounds _
     have HBE := Lib.hid (r1below_any g (shk x i) ((n : Int) - (i : Int)) wr HSI.out.s hsb.1 hsb.2 hni3 hni4)
     obtain ⟨d1, d2, d3, d4⟩ := HSI.out.draw hglt HGi.out
     obtain ⟨hq0, hq1⟩ := bl_bounds (shk x i) ((n : Int) - (i : Int)) hni3 hni4
     have hgo : Hid (go n x (i + 1) = swapL (go n x i) i (i + (RdM.bl (shk x i) ((n : Int) - i)).toNat)) := Lib.hid rfl
     generalize hq : RdM.bl (shk x i) ((n : Int) - (i : Int)) = q at *
     have hij0 : (i : Int) < (n : Int) := by omega
     clear hsb HSI hq
     go_wp2_with fail
     refine HBE.out.mono ?_
     rintro e w1 ⟨rfl, rfl⟩
     clear HBE
     have HD3 := Lib.hid d3
     have HD4 := Lib.hid d4
     have hown1 := d1
     have hy1 := d2
     clear d1 d2 d3 d4
     generalize wr.setCell ⟨g, 0, none⟩ (.int .u32 (sh (shk x i))) = w1 at *
     obtain ⟨j, rfl⟩ : ∃ j : Nat, q = j := ⟨q.toNat, by omega⟩
     have hp := go_length n x i
     have hcI := (hown1.cellAt i (by omega)).trans (iv_get _ i (by rw [hp]; omega))
     have hcJ := (hown1.cellAt (i + j) (by omega)).trans (iv_get _ (i + j) (by rw [hp]; omega))
     have hfI := hown1.frozenAt i
     have hfJ := hown1.frozenAt (i + j)
     have hst := ((hown1.stored i (.int .i64 ((go n x i).getD (i + j) 0))).1).stored (i + j) (.int .i64 ((go n x i).getD i 0))
     have hsw : ((iv (go n x i)).set i (.int .i64 ((go n x i).getD (i + j) 0))).set (i + j) (.int .i64 ((go n x i).getD i 0)) = iv (go n x (i + 1)) := by
      rw [hgo.out, iv_set, iv_set, Int.toNat_natCast]; rfl
     have hL2 := hst.1
     rw [hsw] at hL2
     have hmid : ∃ u, (w1.setCell ⟨G, i, none⟩ (.int .i64 ((go n x i).getD (i + j) 0))).cell? ⟨G, i + j, none⟩ = some u := by
      rw [((hown1.stored i (.int .i64 ((go n x i).getD (i + j) 0))).1).cellAt (i + j) (by omega)]
      exact ⟨_, List.getElem?_eq_getElem (by rw [List.length_set, iv_length, hp]; omega)⟩
     obtain ⟨um, hmid⟩ := hmid
     clear hp hgo hsw hst hown1
     generalize (go n x i).getD (i + j) 0 = vj at *
     generalize (go n x i).getD i 0 = vi at *
     have HL2 : Hid (((w1.setCell ⟨G, i, none⟩ (.int .i64 vj)).setCell ⟨G, i + j, none⟩ (.int .i64 vi)).drew.ownsRow G 3 1 (.slice (some ⟨G, 0, none⟩) n n) n (iv (go n x (i + 1)))) := Lib.hid hL2
     have HY2 : Hid (((w1.setCell ⟨G, i, none⟩ (.int .i64 vj)).setCell ⟨G, i + j, none⟩ (.int .i64 vi)).drew.ownsRow G 4 1 (.slice (some ⟨Gi, 0, none⟩) n n) n (vb (inX n x i) n)) := Lib.hid (own_at hy1 (by
      show ((w1.setCell ⟨G, i, none⟩ (.int .i64 vj)).setCell ⟨G, i + j, none⟩ (.int .i64 vi)).heap[Gi]? = _
      have := HGi.out
      rw [Below.heap_setCell _ _ _ _ (by show Gi ≠ G; omega), Below.heap_setCell _ _ _ _ (by show Gi ≠ G; omega)]))
     have HS2 : Hid (r1Src (((w1.setCell ⟨G, i, none⟩ (.int .i64 vj)).setCell ⟨G, i + j, none⟩ (.int .i64 vi)).drew) g (shk x (i + 1))) := Lib.hid (by
      show ((w1.setCell ⟨G, i, none⟩ (.int .i64 vj)).setCell ⟨G, i + j, none⟩ (.int .i64 vi)).heap[g]? = _
      rw [Below.heap_setCell _ _ _ _ (by show g ≠ G; omega), Below.heap_setCell _ _ _ _ (by show g ≠ G; omega)]
      exact HD3.out)
     have HB2 : Hid (But G g w (((w1.setCell ⟨G, i, none⟩ (.int .i64 vj)).setCell ⟨G, i + j, none⟩ (.int .i64 vi)).drew)) := Lib.hid (HD4.out.trans (But.of_below (((Below.refl G w1).setCell (Nat.le_refl _) _).setCell (Nat.le_refl _) _).drew))
     have hij : (i : Int) + (j : Int) < (n : Int) := by omega
     clear hL2 hy1 HD3 HD4
     go_wp2_with fail
     go_region
     all_goals
      clear hcI hcJ hfI hfJ hmid
      generalize ((w1.setCell ⟨G, i, none⟩ (.int .i64 vj)).setCell ⟨G, i + j, none⟩ (.int .i64 vi)).drew = w2 at *
      obtain ⟨p, hp⟩ : ∃ p : Nat, pk n x i = p := ⟨(pk n x i).toNat, by have := pk_bound (x := x) h2 (show i < n by omega); omega⟩
      have hpb := pk_bound (x := x) h2 (show i < n by omega)
      rw [hp] at hpb
      have hpi : (p : Int) < (n : Int) := hpb.2
      have hpl : p < n := by omega
      have hc16 := (HL2.out.cellAt i (by omega)).trans (iv_get _ i (by rw [go_length]; omega))
      have e16 : (go n x (i + 1)).getD i 0 = (p : Int) := hp
      rw [e16] at hc16
      have hfy := HY2.out.frozenAt p
      have hcy := (HY2.out.cellAt p (by omega)).trans (vb_get _ n p hpl)
      have hst3 := (HY2.out.stored p (.bool true)).1
      rw [vb_put _ n p true hpl] at hst3
      have e17 : put (inX n x i) p true = inX n x (i + 1) := by
       show _ = put (inX n x i) (pk n x i).toNat true
       rw [hp]; rfl
      rw [e17] at hst3
      have HSI3 : Hid (SI w g G Gi n x (i + 1) (w2.setCell ⟨Gi, p, none⟩ (.bool true))) := Lib.hid ⟨own_at HL2.out (Below.heap_setCell _ _ _ _ (by show G ≠ Gi; have := HGi.out; omega)), hst3, (Below.heap_setCell _ _ _ _ (by show g ≠ Gi; have := HGi.out; omega)).trans HS2.out, HB2.out.trans (But.of_below ((Below.refl G w2).setCell (by show G ≤ Gi; have := HGi.out; omega) _))⟩
      clear hp hpb e16 e17 hst3 HL2 HY2 HS2 HB2
      go_wp2_with fail
      go_roundw
      case rel => exact ⟨i + 1, by omega, by go_num, HSI3⟩
      case measure => simp [intOf]; omega
    ·obtain rfl : K = i := by omega
     clear hlt
     obtain ⟨wE, rfl⟩ : ∃ W : World, W = wr := ⟨_, rfl⟩
     obtain ⟨X, hX⟩ : ∃ X, inX n x K = X := ⟨_, rfl⟩
     have HR := Lib.hid (Row.of_own HSI.out.y)
     rw [hX] at HR
     have HXE : Hid (ofL n ((L X n).map fun i : Nat => (i : Int)) = ofL n (some_ n x K)) := Lib.hid (by
      rw [ofL_L (by rw [← hX]; exact inX_lt h2 x hKn), ← hX]
      exact inX_eq h2 x hKn)
     have HBW := Lib.hid HSI.out.b
     clear hX HSI
     go_wp2_with fail
     go_loopw [12, 73] (fun q i wr => ∃ k s : Nat, k ≤ n ∧ i = .int .i64 k ∧ s ≤ k ∧ Hid ((L X k).length = s) ∧ Hid (wr.ownsRow wE.heap.size 3 1 q s (ni (L X k))) ∧ Hid (Below wE.heap.size wE wr)) (fun _ i _ => n - (intOf i).toNat)
     case atStart => exact ⟨0, 0, by omega, rfl, by omega, Lib.hid rfl, Lib.hid (World.ownsRow_nil _ _ _ _), Lib.hid (Below.refl _ _)⟩
     case round =>
      obtain ⟨k, s, hk, rfl, hs, hL, hown, hb⟩ := hrel
      have hbs := hb.out.size
      by_cases hlt : k < n
      ·have hkn : (k : Int) < (n : Int) := by omega
       obtain ⟨b, o, e, _, hc⟩ := (HR.out.below hb.out).cellAt hlt (vb_get X n k hlt)
       injection e with e
       injection e with e1 e2
       subst e1 e2
       rw [Nat.zero_add] at hc
       cases hbit : X.testBit k with
       | true =>
        rw [hbit] at hc
        have HN : Hid (L X (k + 1) = L X k ++ [k]) := Lib.hid (by rw [L_snoc', hbit]; rfl)
        have hsum : Hid ([Value.int .i64 (k : Int)] = ni [k]) := Lib.hid rfl
        clear hbit
        go_wp2_with (at_builtin; refine wpList_app rfl (.tmp 79) (.tmp 81) 161 rfl wE.heap.size 3 i0 (.int .i64 0) 8 Tryz.underlying161 hi hz0 hz1 hz2 rfl _ s (ni (L X k)) rfl (own_below hown.out ((Below.refl _ _).alloc (Nat.le_refl _) _)) _ _ 1 1 _ rfl (row_new _ _ _ _) (by rw [hsum.out]; exact ni_one _) (by unfold maxLen; omega) (by omega) (by simp; omega) ?_; intro v2 w2 hown2 hg2 hat2)
        have hal : Below wr.heap.size wr (wr.alloc (.cells #[.int .i64 (k : Int)] 3)) := (Below.refl _ _).alloc (Nat.le_refl _) _
        have HB2 : Hid (Below wE.heap.size wE w2) := Lib.hid (below_app (hb.out.trans (hal.mono hbs)) (by simp; omega) (own_below hown.out hal) (Nat.le_refl _) hg2)
        have HO2 : Hid (w2.ownsRow wE.heap.size 3 1 v2 (s + 1) (ni (L X (k + 1)))) := Lib.hid (by
         rw [HN.out, ni_append, ← hsum.out]; exact hown2)
        have HL2 : Hid ((L X (k + 1)).length = s + 1) := Lib.hid (by rw [HN.out, List.length_append, hL.out]; rfl)
        clear hg2 hat2 hown2 hal hown hL HN
        go_wp2_with fail
        go_roundw
        case rel => exact ⟨k + 1, s + 1, by omega, by go_num, by omega, HL2, HO2, HB2⟩
        case measure => simp [intOf]; omega
       | false =>
        rw [hbit] at hc
        have HN : L X (k + 1) = L X k := by rw [L_snoc', hbit]; simp
        rw [← HN] at hL hown
        clear hbit HN
        go_wp2_with fail
        go_roundw
        case rel => exact ⟨k + 1, s, by omega, by go_num, by omega, hL, hown, hb⟩
        case measure => simp [intOf]; omega
      ·obtain rfl : n = k := by omega
       obtain ⟨A2, c2, rfl, _⟩ := own_slice hown.out
       have HBF : Hid (But w.heap.size g w wr) := Lib.hid (by rw [HG.out]; exact HBW.out.trans (But.of_below (hb.out.mono (Nat.le_trans (by have := HG.out; omega) HBW.out.size))))
       have HSL : Hid (s ≤ 256) := Lib.hid (by omega)
       clear hlt
       go_wp2_with fail
       go_ret
       exact ⟨A2, s, c2, _, rfl, Lib.hid (Row.of_own hown.out), Lib.hid ⟨HSL.out, HXE.out⟩, HBF⟩
end Go.Proofs.YtmncpgfdpcckpaaGreatDoor
namespace Go.Proofs.YtmncpgfdpcckpaaGreatDoor
open Go.RowKit
open SoM RdM
theorem rroot_any (n : Nat) (h1 : 1 ≤ n) (h2 : n ≤ 80) (w : World) : Calls Tryz.prog 164 #[.int .i64 (n : Int)] w fun e w' => e = .returned (.int .i64 (rt n : Nat)) ∧ w = w' := by
 have H12 := Lib.hid (And.intro h1 h2)
 have hni : (n : Int) ≤ 80 := by omega
 have hni1 : (1 : Int) ≤ (n : Int) := by omega
 go_enter Tryz.func164, Tryz.ntmps164
 go_wp2_with fail
 go_loop [3, 4] (fun a b => ∃ (lo hi : Nat), a = .int .i64 lo ∧ b = .int .i64 hi ∧ lo ≤ hi ∧ hi ≤ 3037000499 ∧ Hid (lo * lo ≤ n ∧ n < (hi + 1) * (hi + 1))) (fun a b => (intOf b).toNat - (intOf a).toNat)
 case atStart => exact ⟨0, 3037000499, rfl, rfl, by omega, by omega, Lib.hid ⟨by omega, by omega⟩⟩
 case round =>
  obtain ⟨lo, hi, rfl, rfl, hlh, hh, hI⟩ := hrel
  by_cases hlt : lo < hi
  ·have hlti : (lo : Int) < (hi : Int) := by omega
   obtain ⟨m, hm⟩ : ∃ m, lo + (hi - lo + 1) / 2 = m := ⟨_, rfl⟩
   have hhi : (hi : Int) ≤ 3037000499 := by omega
   have HMID : Hid ((lo : Int) + ((hi : Int) - (lo : Int) + 1) / 2 = (m : Int)) := Lib.hid (by omega)
   have hm1 : 1 ≤ m := by omega
   have hm2 : lo < m ∧ m ≤ hi := by omega
   have hmi1 : (1 : Int) ≤ (m : Int) := by omega
   have hmi2 : (m : Int) ≤ 3037000499 := by omega
   have hm0 : ¬ (m : Int) = 0 := by omega
   have HIO := Lib.hid hI.out
   clear hm hI
   obtain ⟨q, hq⟩ : ∃ q, n / m = q := ⟨_, rfl⟩
   have hqi : (n : Int) / (m : Int) = (q : Int) := by rw [← hq, Int.natCast_ediv]
   have HQI := Lib.hid hqi
   have hq80 : (q : Int) ≤ 80 := by have := Nat.div_le_self n m; omega
   have hqm : m * m ≤ n ↔ m ≤ q := by rw [← hq]; exact (Nat.le_div_iff_mul_le (by omega)).symm
   by_cases hq2 : m ≤ q
   ·have hci : (m : Int) ≤ (q : Int) := by omega
    have HN : Hid (m * m ≤ n ∧ n < (hi + 1) * (hi + 1)) := Lib.hid ⟨hqm.2 hq2, HIO.out.2⟩
    clear hq hqm hq2
    go_wp2_with (first | rw [HMID.out] | rw [HQI.out])
    go_round
    case rel => exact ⟨m, hi, rfl, rfl, by omega, by omega, HN⟩
    case measure => simp [intOf]; omega
   ·have hci : ¬ (m : Int) ≤ (q : Int) := by omega
    obtain ⟨m', hm'⟩ : ∃ m', m - 1 = m' := ⟨_, rfl⟩
    have HN : Hid (lo * lo ≤ n ∧ n < (m' + 1) * (m' + 1)) := Lib.hid ⟨HIO.out.1, by
     have e : m' + 1 = m := by omega
     rw [e]
     exact Nat.lt_of_not_le fun h => hq2 (hqm.1 h)⟩
    have hmm : (m : Int) - 1 = (m' : Int) := by omega
    have HMM := Lib.hid hmm
    clear hq hqm hq2 hmm
    go_wp2_with (first | rw [HMID.out] | rw [HQI.out])
    rw [HMM.out]
    go_round
    case rel => exact ⟨lo, m', rfl, rfl, by omega, by omega, HN⟩
    case measure => simp [intOf]; omega
  ·obtain rfl : lo = hi := by omega
   have hr : lo = rt n := rt_eq n lo H12.out.1 H12.out.2 hI.out.1 hI.out.2
   have HR := Lib.hid hr
   clear hlt hI hr
   go_wp2_with fail
   go_ret
   rw [← HR.out]
   exact ⟨rfl, rfl⟩
theorem ws_snoc (n k : Nat) : ws n (k + 1) = ws n k ++ [wt n (k + 1)] := by simp [ws, List.range_succ]
theorem infoW32 : (Tryz.prog.info? 32).map (fun i => (i.zero, i.size, i.bytes)) = some (some (.int .u32 0), 1, 4) := by kernel_rfl
set_option maxHeartbeats 3200000 in
theorem rweights_any (n : Nat) (w : World) (h1 : 1 ≤ n) (h2 : n ≤ 80) : Calls Tryz.prog 152 #[.int .i64 (n : Int)] w (WtOk n w) := by
 obtain ⟨i0, hi, hz0, hz1, hz2⟩ := info_parts infoW32
 obtain ⟨_, _, _, _, hR1, hR8, _⟩ := wt_bound n 1 h1 h2 (by omega) (by omega)
 obtain ⟨R, hR⟩ : ∃ R, rt n = R := ⟨_, rfl⟩
 rw [hR] at hR1 hR8
 have HRT := Lib.hid (rroot_any n h1 h2)
 rw [hR] at HRT
 obtain ⟨M, hM⟩ : ∃ M, n / R = M := ⟨_, rfl⟩
 have hMi : (n : Int) / (R : Int) = (M : Int) := by rw [← Int.natCast_ediv, hM]
 have hMn : M ≤ n := by rw [← hM]; exact Nat.div_le_self _ _
 have hR0 : ¬ (R : Int) = 0 := by omega
 have HR := Lib.hid hR
 have HM := Lib.hid hM
 have hni : (n : Int) ≤ 80 := by omega
 have hni1 : (1 : Int) ≤ (n : Int) := by omega
 have hR8i : (R : Int) ≤ 8 := by omega
 have hR1i : (1 : Int) ≤ (R : Int) := by omega
 have hMni : (M : Int) ≤ 80 := by omega
 clear hR hM
 go_enter Tryz.func152, Tryz.ntmps152
 go_wp2_with (go_at_call 164; refine (HRT.out _).mono ?_; rintro e w' ⟨rfl, rfl⟩)
 clear hMi
 go_loopw [5, 6] (fun v z wr => ∃ k : Nat, k ≤ n ∧ z = .int .i64 (k + 1 : Nat) ∧ Hid (wr.ownsRow w.heap.size 32 1 v k (uv (ws n k))) ∧ Hid (Below w.heap.size w wr)) (fun _ z _ => n + 1 - (intOf z).toNat)
 case atStart => exact ⟨0, by omega, rfl, Lib.hid (World.ownsRow_nil _ _ _ _), Lib.hid (Below.refl _ _)⟩
 case round =>
  obtain ⟨k, hk, rfl, hown, hbl⟩ := hrel
  have hbs := hbl.out.size
  obtain ⟨d, hd⟩ : ∃ d, k + 1 = d := ⟨_, rfl⟩
  rw [hd]
  have hdi1 : (1 : Int) ≤ (d : Int) := by omega
  by_cases hlk : k < n
  ·obtain ⟨b1, b2, b3, _, _, _, _⟩ := wt_bound n d h1 h2 (by omega) (by omega)
   obtain ⟨W, hW0⟩ : ∃ W, wt n d = W := ⟨_, rfl⟩
   obtain ⟨I, hI⟩ : ∃ I, ideal n d = I := ⟨_, rfl⟩
   have HWN : Hid (uv (ws n (k + 1)) = uv (ws n k) ++ [.int .u32 (W : Int)]) := Lib.hid (by
    rw [ws_snoc, hd, hW0]
    simp [uv])
   rw [hW0] at b2
   rw [hI] at b3
   have hWu : (W : Int) ≤ 4294967295 := by omega
   have hle : (d : Int) ≤ (n : Int) := by omega
   have hd80 : (d : Int) ≤ 80 := by omega
   by_cases hd1 : d = 1
   ·rcases Nat.lt_trichotomy d M with hc | hc | hc
    ·skip
     have hI2 : (1048576 : Int) / (n : Int) = (I : Int) := by rw [← hI]; unfold ideal; rw [if_pos hd1, Int.natCast_ediv]; rfl
     have hd1i : ¬ (1 : Int) < (d : Int) := by omega
     have hI6 : (I : Int) ≤ 1048576 := by omega
     have HI2 := Lib.hid hI2
     obtain ⟨PP, hP⟩ : ∃ PP, d * n = PP := ⟨_, rfl⟩
     have hP1 : 1 ≤ PP := by rw [← hP]; exact Nat.mul_pos (by omega) (by omega)
     have hP2 : PP ≤ 6400 := by
      rw [← hP]
      have := Nat.mul_le_mul (show d ≤ 80 by omega) h2
      omega
     have hPi : (d : Int) * (n : Int) = (PP : Int) := by rw [← hP, Int.natCast_mul]
     obtain ⟨Qw, hQ⟩ : ∃ Qw, R * 262144 / PP = Qw := ⟨_, rfl⟩
     have hQi : (262144 : Int) * (R : Int) / (PP : Int) = (Qw : Int) := by rw [← hQ, Int.natCast_ediv, Int.natCast_mul, Int.mul_comm]; rfl
     have hQ2 : Qw ≤ 2097152 := by
      rw [← hQ]
      exact Nat.le_trans (Nat.div_le_self _ _) (by omega)
     have hW := wt_lt n d R M PP Qw HR.out HM.out hP hQ hc
     rw [hI] at hW
     have hci : (d : Int) < (M : Int) := by omega
     have hne : ((d : Int) == (M : Int)) = false := by simp; omega
     have hP0 : ¬ (PP : Int) = 0 := by omega
     have hP6 : (PP : Int) ≤ 6400 := by omega
     have hP7 : (1 : Int) ≤ (PP : Int) := by omega
     have hQ6 : (Qw : Int) ≤ 2097152 := by omega
     have hWS : (I : Int) + (Qw : Int) = (W : Int) := by omega
     have HQI := Lib.hid hQi
     clear hI2 hQi hP hQ hW hc hd1
     go_wp2_with (first | (at_builtin; refine wpList_app rfl (.tmp 53) (.tmp 56) 208 rfl w.heap.size 32 i0 (.int .u32 0) 4 Tryz.underlying208 hi hz0 hz1 hz2 rfl _ k (uv (ws n k)) rfl (own_below hown.out ((Below.refl _ _).alloc (Nat.le_refl _) _)) _ _ 1 1 _ rfl (row_new _ _ _ _) (by intro u hu; simp at hu; subst hu; rfl) (by unfold maxLen; omega) (by omega) (by simp; omega) ?_; intro v2 w2 hown2 hg2 hat2) | first | rw [HI2.out] | rw [HQI.out])
     have hal : Below wr.heap.size wr (wr.alloc (.cells #[.int .u32 (W : Int)] 32)) := (Below.refl _ _).alloc (Nat.le_refl _) _
     have HB2 : Hid (Below w.heap.size w w2) := Lib.hid (below_app (hbl.out.trans (hal.mono hbs)) (by simp; omega) (own_below hown.out hal) (Nat.le_refl _) hg2)
     have HO2 : Hid (w2.ownsRow w.heap.size 32 1 v2 (k + 1) (uv (ws n (k + 1)))) := Lib.hid (by
      rw [HWN.out]
      exact hown2)
     clear hg2 hat2 hown2 hal hown
     go_wp2_with fail
     go_roundw
     case rel => exact ⟨k + 1, by omega, by go_num, HO2, HB2⟩
     case measure => simp [intOf]; omega
    ·skip
     have hI2 : (1048576 : Int) / (n : Int) = (I : Int) := by rw [← hI]; unfold ideal; rw [if_pos hd1, Int.natCast_ediv]; rfl
     have hd1i : ¬ (1 : Int) < (d : Int) := by omega
     have hI6 : (I : Int) ≤ 1048576 := by omega
     have HI2 := Lib.hid hI2
     obtain ⟨Qw, hQ⟩ : ∃ Qw, R * 524288 / n = Qw := ⟨_, rfl⟩
     have hQi : (524288 : Int) * (R : Int) / (n : Int) = (Qw : Int) := by rw [← hQ, Int.natCast_ediv, Int.natCast_mul, Int.mul_comm]; rfl
     have hQ2 : Qw ≤ 4194304 := by
      rw [← hQ]
      exact Nat.le_trans (Nat.div_le_self _ _) (by omega)
     have hW := wt_eq n d R M Qw HR.out HM.out hQ hc
     rw [hI] at hW
     have hci : ¬ (d : Int) < (M : Int) := by omega
     have hne : ((d : Int) == (M : Int)) = true := by simp; omega
     have hQ6 : (Qw : Int) ≤ 4194304 := by omega
     have hWS : (I : Int) + (Qw : Int) = (W : Int) := by omega
     have HQI := Lib.hid hQi
     clear hI2 hQi hQ hW hc hd1
     go_wp2_with (first | (at_builtin; refine wpList_app rfl (.tmp 53) (.tmp 56) 208 rfl w.heap.size 32 i0 (.int .u32 0) 4 Tryz.underlying208 hi hz0 hz1 hz2 rfl _ k (uv (ws n k)) rfl (own_below hown.out ((Below.refl _ _).alloc (Nat.le_refl _) _)) _ _ 1 1 _ rfl (row_new _ _ _ _) (by intro u hu; simp at hu; subst hu; rfl) (by unfold maxLen; omega) (by omega) (by simp; omega) ?_; intro v2 w2 hown2 hg2 hat2) | first | rw [HI2.out] | rw [HQI.out])
     have hal : Below wr.heap.size wr (wr.alloc (.cells #[.int .u32 (W : Int)] 32)) := (Below.refl _ _).alloc (Nat.le_refl _) _
     have HB2 : Hid (Below w.heap.size w w2) := Lib.hid (below_app (hbl.out.trans (hal.mono hbs)) (by simp; omega) (own_below hown.out hal) (Nat.le_refl _) hg2)
     have HO2 : Hid (w2.ownsRow w.heap.size 32 1 v2 (k + 1) (uv (ws n (k + 1)))) := Lib.hid (by
      rw [HWN.out]
      exact hown2)
     clear hg2 hat2 hown2 hal hown
     go_wp2_with fail
     go_roundw
     case rel => exact ⟨k + 1, by omega, by go_num, HO2, HB2⟩
     case measure => simp [intOf]; omega
    ·skip
     have hI2 : (1048576 : Int) / (n : Int) = (I : Int) := by rw [← hI]; unfold ideal; rw [if_pos hd1, Int.natCast_ediv]; rfl
     have hd1i : ¬ (1 : Int) < (d : Int) := by omega
     have hI6 : (I : Int) ≤ 1048576 := by omega
     have HI2 := Lib.hid hI2
     have hW := wt_gt n d R M HR.out HM.out hc
     rw [hI] at hW
     have hci : ¬ (d : Int) < (M : Int) := by omega
     have hne : ((d : Int) == (M : Int)) = false := by simp; omega
     have hWS : W = I := by omega
     subst hWS
     clear hI2 hW hc hd1
     go_wp2_with (first | (at_builtin; refine wpList_app rfl (.tmp 53) (.tmp 56) 208 rfl w.heap.size 32 i0 (.int .u32 0) 4 Tryz.underlying208 hi hz0 hz1 hz2 rfl _ k (uv (ws n k)) rfl (own_below hown.out ((Below.refl _ _).alloc (Nat.le_refl _) _)) _ _ 1 1 _ rfl (row_new _ _ _ _) (by intro u hu; simp at hu; subst hu; rfl) (by unfold maxLen; omega) (by omega) (by simp; omega) ?_; intro v2 w2 hown2 hg2 hat2) | (rw [HI2.out]))
     have hal : Below wr.heap.size wr (wr.alloc (.cells #[.int .u32 (W : Int)] 32)) := (Below.refl _ _).alloc (Nat.le_refl _) _
     have HB2 : Hid (Below w.heap.size w w2) := Lib.hid (below_app (hbl.out.trans (hal.mono hbs)) (by simp; omega) (own_below hown.out hal) (Nat.le_refl _) hg2)
     have HO2 : Hid (w2.ownsRow w.heap.size 32 1 v2 (k + 1) (uv (ws n (k + 1)))) := Lib.hid (by
      rw [HWN.out]
      exact hown2)
     clear hg2 hat2 hown2 hal hown
     go_wp2_with fail
     go_roundw
     case rel => exact ⟨k + 1, by omega, by go_num, HO2, HB2⟩
     case measure => simp [intOf]; omega
   ·rcases Nat.lt_trichotomy d M with hc | hc | hc
    ·skip
     obtain ⟨e, he⟩ : ∃ e, d - 1 = e := ⟨_, rfl⟩
     have hdei : (d : Int) - 1 = (e : Int) := by omega
     have he80 : (e : Int) ≤ 80 := by omega
     have he1 : (1 : Int) ≤ (e : Int) := by omega
     obtain ⟨Qd, hQd⟩ : ∃ Qd, d * e = Qd := ⟨_, rfl⟩
     have hQdi : (d : Int) * (e : Int) = (Qd : Int) := by rw [← hQd, Int.natCast_mul]
     have hQd1 : 1 ≤ Qd := by rw [← hQd]; exact Nat.mul_pos (by omega) (by omega)
     have hQd2 : Qd ≤ 6400 := by
      rw [← hQd]
      have := Nat.mul_le_mul (show d ≤ 80 by omega) (show e ≤ 80 by omega)
      omega
     have hQd0 : ¬ (Qd : Int) = 0 := by omega
     have hQd6 : (Qd : Int) ≤ 6400 := by omega
     have hQd7 : (1 : Int) ≤ (Qd : Int) := by omega
     have hI2 : (1048576 : Int) / (Qd : Int) = (I : Int) := by rw [← hI]; unfold ideal; rw [if_neg hd1, he, hQd, Int.natCast_ediv]; rfl
     have hd1i : (1 : Int) < (d : Int) := by omega
     have hI6 : (I : Int) ≤ 1048576 := by omega
     have HI2 := Lib.hid hI2
     obtain ⟨PP, hP⟩ : ∃ PP, d * n = PP := ⟨_, rfl⟩
     have hP1 : 1 ≤ PP := by rw [← hP]; exact Nat.mul_pos (by omega) (by omega)
     have hP2 : PP ≤ 6400 := by
      rw [← hP]
      have := Nat.mul_le_mul (show d ≤ 80 by omega) h2
      omega
     have hPi : (d : Int) * (n : Int) = (PP : Int) := by rw [← hP, Int.natCast_mul]
     obtain ⟨Qw, hQ⟩ : ∃ Qw, R * 262144 / PP = Qw := ⟨_, rfl⟩
     have hQi : (262144 : Int) * (R : Int) / (PP : Int) = (Qw : Int) := by rw [← hQ, Int.natCast_ediv, Int.natCast_mul, Int.mul_comm]; rfl
     have hQ2 : Qw ≤ 2097152 := by
      rw [← hQ]
      exact Nat.le_trans (Nat.div_le_self _ _) (by omega)
     have hW := wt_lt n d R M PP Qw HR.out HM.out hP hQ hc
     rw [hI] at hW
     have hci : (d : Int) < (M : Int) := by omega
     have hne : ((d : Int) == (M : Int)) = false := by simp; omega
     have hP0 : ¬ (PP : Int) = 0 := by omega
     have hP6 : (PP : Int) ≤ 6400 := by omega
     have hP7 : (1 : Int) ≤ (PP : Int) := by omega
     have hQ6 : (Qw : Int) ≤ 2097152 := by omega
     have hWS : (I : Int) + (Qw : Int) = (W : Int) := by omega
     have HQI := Lib.hid hQi
     clear hI2 hQi hP hQ hW hc hd1
     go_wp2_with (first | (at_builtin; refine wpList_app rfl (.tmp 53) (.tmp 56) 208 rfl w.heap.size 32 i0 (.int .u32 0) 4 Tryz.underlying208 hi hz0 hz1 hz2 rfl _ k (uv (ws n k)) rfl (own_below hown.out ((Below.refl _ _).alloc (Nat.le_refl _) _)) _ _ 1 1 _ rfl (row_new _ _ _ _) (by intro u hu; simp at hu; subst hu; rfl) (by unfold maxLen; omega) (by omega) (by simp; omega) ?_; intro v2 w2 hown2 hg2 hat2) | first | rw [HI2.out] | rw [HQI.out])
     have hal : Below wr.heap.size wr (wr.alloc (.cells #[.int .u32 (W : Int)] 32)) := (Below.refl _ _).alloc (Nat.le_refl _) _
     have HB2 : Hid (Below w.heap.size w w2) := Lib.hid (below_app (hbl.out.trans (hal.mono hbs)) (by simp; omega) (own_below hown.out hal) (Nat.le_refl _) hg2)
     have HO2 : Hid (w2.ownsRow w.heap.size 32 1 v2 (k + 1) (uv (ws n (k + 1)))) := Lib.hid (by
      rw [HWN.out]
      exact hown2)
     clear hg2 hat2 hown2 hal hown
     go_wp2_with fail
     go_roundw
     case rel => exact ⟨k + 1, by omega, by go_num, HO2, HB2⟩
     case measure => simp [intOf]; omega
    ·skip
     obtain ⟨e, he⟩ : ∃ e, d - 1 = e := ⟨_, rfl⟩
     have hdei : (d : Int) - 1 = (e : Int) := by omega
     have he80 : (e : Int) ≤ 80 := by omega
     have he1 : (1 : Int) ≤ (e : Int) := by omega
     obtain ⟨Qd, hQd⟩ : ∃ Qd, d * e = Qd := ⟨_, rfl⟩
     have hQdi : (d : Int) * (e : Int) = (Qd : Int) := by rw [← hQd, Int.natCast_mul]
     have hQd1 : 1 ≤ Qd := by rw [← hQd]; exact Nat.mul_pos (by omega) (by omega)
     have hQd2 : Qd ≤ 6400 := by
      rw [← hQd]
      have := Nat.mul_le_mul (show d ≤ 80 by omega) (show e ≤ 80 by omega)
      omega
     have hQd0 : ¬ (Qd : Int) = 0 := by omega
     have hQd6 : (Qd : Int) ≤ 6400 := by omega
     have hQd7 : (1 : Int) ≤ (Qd : Int) := by omega
     have hI2 : (1048576 : Int) / (Qd : Int) = (I : Int) := by rw [← hI]; unfold ideal; rw [if_neg hd1, he, hQd, Int.natCast_ediv]; rfl
     have hd1i : (1 : Int) < (d : Int) := by omega
     have hI6 : (I : Int) ≤ 1048576 := by omega
     have HI2 := Lib.hid hI2
     obtain ⟨Qw, hQ⟩ : ∃ Qw, R * 524288 / n = Qw := ⟨_, rfl⟩
     have hQi : (524288 : Int) * (R : Int) / (n : Int) = (Qw : Int) := by rw [← hQ, Int.natCast_ediv, Int.natCast_mul, Int.mul_comm]; rfl
     have hQ2 : Qw ≤ 4194304 := by
      rw [← hQ]
      exact Nat.le_trans (Nat.div_le_self _ _) (by omega)
     have hW := wt_eq n d R M Qw HR.out HM.out hQ hc
     rw [hI] at hW
     have hci : ¬ (d : Int) < (M : Int) := by omega
     have hne : ((d : Int) == (M : Int)) = true := by simp; omega
     have hQ6 : (Qw : Int) ≤ 4194304 := by omega
     have hWS : (I : Int) + (Qw : Int) = (W : Int) := by omega
     have HQI := Lib.hid hQi
     clear hI2 hQi hQ hW hc hd1
     go_wp2_with (first | (at_builtin; refine wpList_app rfl (.tmp 53) (.tmp 56) 208 rfl w.heap.size 32 i0 (.int .u32 0) 4 Tryz.underlying208 hi hz0 hz1 hz2 rfl _ k (uv (ws n k)) rfl (own_below hown.out ((Below.refl _ _).alloc (Nat.le_refl _) _)) _ _ 1 1 _ rfl (row_new _ _ _ _) (by intro u hu; simp at hu; subst hu; rfl) (by unfold maxLen; omega) (by omega) (by simp; omega) ?_; intro v2 w2 hown2 hg2 hat2) | first | rw [HI2.out] | rw [HQI.out])
     have hal : Below wr.heap.size wr (wr.alloc (.cells #[.int .u32 (W : Int)] 32)) := (Below.refl _ _).alloc (Nat.le_refl _) _
     have HB2 : Hid (Below w.heap.size w w2) := Lib.hid (below_app (hbl.out.trans (hal.mono hbs)) (by simp; omega) (own_below hown.out hal) (Nat.le_refl _) hg2)
     have HO2 : Hid (w2.ownsRow w.heap.size 32 1 v2 (k + 1) (uv (ws n (k + 1)))) := Lib.hid (by
      rw [HWN.out]
      exact hown2)
     clear hg2 hat2 hown2 hal hown
     go_wp2_with fail
     go_roundw
     case rel => exact ⟨k + 1, by omega, by go_num, HO2, HB2⟩
     case measure => simp [intOf]; omega
    ·skip
     obtain ⟨e, he⟩ : ∃ e, d - 1 = e := ⟨_, rfl⟩
     have hdei : (d : Int) - 1 = (e : Int) := by omega
     have he80 : (e : Int) ≤ 80 := by omega
     have he1 : (1 : Int) ≤ (e : Int) := by omega
     obtain ⟨Qd, hQd⟩ : ∃ Qd, d * e = Qd := ⟨_, rfl⟩
     have hQdi : (d : Int) * (e : Int) = (Qd : Int) := by rw [← hQd, Int.natCast_mul]
     have hQd1 : 1 ≤ Qd := by rw [← hQd]; exact Nat.mul_pos (by omega) (by omega)
     have hQd2 : Qd ≤ 6400 := by
      rw [← hQd]
      have := Nat.mul_le_mul (show d ≤ 80 by omega) (show e ≤ 80 by omega)
      omega
     have hQd0 : ¬ (Qd : Int) = 0 := by omega
     have hQd6 : (Qd : Int) ≤ 6400 := by omega
     have hQd7 : (1 : Int) ≤ (Qd : Int) := by omega
     have hI2 : (1048576 : Int) / (Qd : Int) = (I : Int) := by rw [← hI]; unfold ideal; rw [if_neg hd1, he, hQd, Int.natCast_ediv]; rfl
     have hd1i : (1 : Int) < (d : Int) := by omega
     have hI6 : (I : Int) ≤ 1048576 := by omega
     have HI2 := Lib.hid hI2
     have hW := wt_gt n d R M HR.out HM.out hc
     rw [hI] at hW
     have hci : ¬ (d : Int) < (M : Int) := by omega
     have hne : ((d : Int) == (M : Int)) = false := by simp; omega
     have hWS : W = I := by omega
     subst hWS
     clear hI2 hW hc hd1
     go_wp2_with (first | (at_builtin; refine wpList_app rfl (.tmp 53) (.tmp 56) 208 rfl w.heap.size 32 i0 (.int .u32 0) 4 Tryz.underlying208 hi hz0 hz1 hz2 rfl _ k (uv (ws n k)) rfl (own_below hown.out ((Below.refl _ _).alloc (Nat.le_refl _) _)) _ _ 1 1 _ rfl (row_new _ _ _ _) (by intro u hu; simp at hu; subst hu; rfl) (by unfold maxLen; omega) (by omega) (by simp; omega) ?_; intro v2 w2 hown2 hg2 hat2) | (rw [HI2.out]))
     have hal : Below wr.heap.size wr (wr.alloc (.cells #[.int .u32 (W : Int)] 32)) := (Below.refl _ _).alloc (Nat.le_refl _) _
     have HB2 : Hid (Below w.heap.size w w2) := Lib.hid (below_app (hbl.out.trans (hal.mono hbs)) (by simp; omega) (own_below hown.out hal) (Nat.le_refl _) hg2)
     have HO2 : Hid (w2.ownsRow w.heap.size 32 1 v2 (k + 1) (uv (ws n (k + 1)))) := Lib.hid (by
      rw [HWN.out]
      exact hown2)
     clear hg2 hat2 hown2 hal hown
     go_wp2_with fail
     go_roundw
     case rel => exact ⟨k + 1, by omega, by go_num, HO2, HB2⟩
     case measure => simp [intOf]; omega
  ·obtain rfl : n = k := by omega
   obtain ⟨A2, c2, rfl, _⟩ := own_slice hown.out
   have hle : ¬ (d : Int) ≤ (n : Int) := by omega
   clear hd
   go_wp2_with fail
   go_ret
   exact ⟨A2, c2, rfl, hown, hbl⟩
def RDegOk (n x : Nat) (w : World) (e : Ending) (w' : World) : Prop :=
 ∃ d : Nat, e = .returned (.int .i64 (d : Int)) ∧ Hid (IsDeg n (atx n x) d) ∧ Hid (Below w.heap.size w w')
set_option maxHeartbeats 3200000 in
theorem rdegree_any (n x : Nat) (w : World) (h1 : 1 ≤ n) (h2 : n ≤ 80) (hx : x < 4294967296) :
  Calls Tryz.prog 126 #[.int .i64 (n : Int), .int .u32 (x : Int)] w (RDegOk n x w) := by
 obtain ⟨_, _, _, hs4, _, _, _⟩ := wt_bound n n h1 h2 h1 (Nat.le_refl _)
 have HATL := Lib.hid (atx_lt n x h1 h2 hx)
 obtain ⟨S, hS⟩ : ∃ S, sm n n = S := ⟨_, rfl⟩
 obtain ⟨T, hTT⟩ : ∃ T, atx n x = T := ⟨_, rfl⟩
 rw [hS] at hs4
 have hmul : ∃ Q : Nat, (x : Int) * (S : Int) = (Q : Int) ∧ Q ≤ 18446744073709551615 ∧ (Q : Int) / 4294967296 = (T : Int) := by
  refine ⟨x * S, by push_cast; rfl, ?_, ?_⟩
  ·have := Nat.mul_le_mul (show x ≤ 4294967296 by omega) hs4
   omega
  ·rw [← hTT, atx, hS]; rfl
 obtain ⟨Q, hQ, hQ2, hQ3⟩ := hmul
 have HTT := Lib.hid hTT
 have HS := Lib.hid hS
 rw [hTT] at HATL
 have hQi : (Q : Int) ≤ 18446744073709551615 := by omega
 have hwq : IntKind.u64.wrap (Q : Int) = (Q : Int) := by simp only [IntKind.wrap, IntKind.bits, IntKind.signed]; simp; omega
 have hwx : IntKind.u64.wrap (x : Int) = (x : Int) := by simp only [IntKind.wrap, IntKind.bits, IntKind.signed]; simp; omega
 have hni : (n : Int) ≤ 80 := by omega
 have hxi : (x : Int) ≤ 4294967295 := by omega
 have HW := Lib.hid (rweights_any n w h1 h2)
 have HM := Lib.hid (And.intro hQ (And.intro hQ3 (And.intro hwq (And.intro hwx hQi))))
 clear hS hTT hQ2 hQi hx hQ hQ3 hwq hwx
 go_enter Tryz.func126, Tryz.ntmps126
 go_wp2_with fail
 refine HW.out.mono ?_
 rintro e w1 ⟨A, c, rfl, hown, hb⟩
 have HB := Lib.hid hb.out
 have HR := Lib.hid (Row.of_own hown.out)
 clear hown hb HW
 go_wp2_with fail
 go_loop [6, 17] (fun s z => ∃ k : Nat, k ≤ n ∧ z = .int .i64 (k : Nat) ∧ s = .int .u64 (sm n k : Nat)) (fun _ z => n - (intOf z).toNat)
 case atStart => exact ⟨0, by omega, rfl, rfl⟩
 case round =>
  obtain ⟨k, hk, rfl, rfl⟩ := hrel
  by_cases hlk : k < n
  ·have hki : (k : Int) < (n : Int) := by omega
   obtain ⟨b, o, rfl, _, hcl⟩ := HR.out.cellAt (k := k) hlk (uv_get _ k (by rw [show (ws n n).length = n by simp [ws]]; exact hlk))
   rw [ws_getD n k hlk] at hcl
   obtain ⟨_, b2, _, b4, _, _, _⟩ := wt_bound n (k + 1) h1 h2 (by omega) (by omega)
   obtain ⟨W, hW⟩ : ∃ W, wt n (k + 1) = W := ⟨_, rfl⟩
   obtain ⟨Y, hY⟩ : ∃ Y, sm n k = Y := ⟨_, rfl⟩
   have hY2 : sm n (k + 1) = Y + W := by
    show sm n k + wt n (k + 1) = _
    rw [hY, hW]
   rw [hW] at hcl
   rw [hY2] at b4
   have HY2 := Lib.hid hY2
   rw [hY]
   have hWi : (W : Int) ≤ 4000000 := by omega
   have hYi : (Y : Int) + (W : Int) ≤ 4000000 := by omega
   clear hW hY hY2 b2 b4
   go_wp2_with fail
   go_round
   case rel => exact ⟨k + 1, by omega, by go_num, by rw [HY2.out]; go_num⟩
   case measure => simp [intOf]; omega
  ·obtain rfl : n = k := by omega
   rw [HS.out]
   obtain ⟨hQ, hQ3, hwq, hwx, hQi⟩ := HM.out
   have hSi : (S : Int) ≤ 4000000 := by omega
   clear hlk
   go_wp2_with fail
   clear hQ hQ3 hwq hwx hQi
   go_loop [10, 33] (fun s z => ∃ k : Nat, k ≤ n ∧ z = .int .i64 (k : Nat) ∧ s = .int .u64 (sm n k : Nat) ∧ Hid (sm n k ≤ T)) (fun _ z => n - (intOf z).toNat)
   case atStart => exact ⟨0, by omega, rfl, rfl, Lib.hid (by simp [sm])⟩
   case round =>
    obtain ⟨k, hk, rfl, rfl, hle⟩ := hrel
    by_cases hlk : k < n
    ·have hki : (k : Int) < (n : Int) := by omega
     obtain ⟨b, o, rfl, _, hcl⟩ := HR.out.cellAt (k := k) hlk (uv_get _ k (by rw [show (ws n n).length = n by simp [ws]]; exact hlk))
     rw [ws_getD n k hlk] at hcl
     obtain ⟨_, b2, _, b4, _, _, _⟩ := wt_bound n (k + 1) h1 h2 (by omega) (by omega)
     obtain ⟨W, hW⟩ : ∃ W, wt n (k + 1) = W := ⟨_, rfl⟩
     obtain ⟨Y, hY⟩ : ∃ Y, sm n k = Y := ⟨_, rfl⟩
     obtain ⟨V, hV⟩ : ∃ V, sm n (k + 1) = V := ⟨_, rfl⟩
     have hY2 : V = Y + W := by
      rw [← hV]
      show sm n k + wt n (k + 1) = _
      rw [hY, hW]
     rw [hW] at hcl
     rw [hV] at b4
     have HV := Lib.hid hV
     have HY := Lib.hid hY
     rw [hY] at hle ⊢
     have hWi : (W : Int) ≤ 4000000 := by omega
     have hYi : (Y : Int) + (W : Int) = (V : Int) := by omega
     have hVi : (V : Int) ≤ 4000000 := by omega
     have hk80 : (k : Int) ≤ 79 := by omega
     clear hW hY hV hY2 b2 b4
     by_cases hc : T < V
     ·have hci : (T : Int) < (V : Int) := by omega
      have HD : Hid (IsDeg n T (k + 1)) := Lib.hid ⟨by omega, by omega, by show sm n k ≤ T; rw [HY.out]; exact hle.out, by rw [HV.out]; exact hc⟩
      clear hc hle
      go_wp2_with fail
      go_ret
      exact ⟨k + 1, by go_num, by rw [HTT.out]; exact HD, HB⟩
     ·have hci : ¬ (T : Int) < (V : Int) := by omega
      have HLE : Hid (sm n (k + 1) ≤ T) := Lib.hid (by rw [HV.out]; omega)
      clear hc hle
      go_wp2_with fail
      go_round
      case rel => exact ⟨k + 1, by omega, by go_num, by rw [HV.out], HLE⟩
      case measure => simp [intOf]; omega
    ·obtain rfl : n = k := by omega
     have h := hle.out
     rw [HS.out] at h
     have h2 := HATL.out
     rw [HS.out] at h2
     omega
end Go.Proofs.YtmncpgfdpcckpaaGreatDoor
namespace Go.Proofs.YtmncpgfdpcckpaaGreatDoor.Sp
open Go.RowKit
open VecM RdM SoM Vc
theorem rpmay3_any (s K P Z : Int) (w : World) : Calls Tryz.prog 90 #[.agg #[.int .u32 s, .int .i64 K, .int .i64 P, .int .i64 Z]] w fun e w' => e = .returned (.bool (mayB K P Z)) ∧ Below w.heap.size w w' := by
 go_enter Tryz.func90, Tryz.ntmps90
 go_wp2_with fail
 all_goals (go_ret; exact ⟨by simp [mayB, *]; try omega, (Below.refl _ _).alloc (Nat.le_refl _) _⟩)
set_option maxHeartbeats 3200000 in
theorem rrow_any (s id K P Z : Nat) (w : World) (hs : s < 4294967296) (hid : id < 4294967296) (hK : 1 ≤ K ∧ K ≤ 64) (hP : P ≤ 16) (hZ : 1 ≤ Z ∧ Z ≤ 16) : Calls Tryz.prog 92 #[parV s K P Z, .int .u32 (id : Int)] w (BitsOk (K + P) (spX s K P id) w) := by
 have HX0 := Lib.hid (heap_alloc_new w (.cells #[.int .u32 (s : Int), .int .i64 (K : Int), .int .i64 (P : Int), .int .i64 (Z : Int)] 76))
 have HB0 : Hid (Below w.heap.size w (w.alloc (.cells #[.int .u32 (s : Int), .int .i64 (K : Int), .int .i64 (P : Int), .int .i64 (Z : Int)] 76))) := (Below.refl _ _).alloc (Nat.le_refl _) _
 generalize hw0 : (w.alloc (.cells #[.int .u32 (s : Int), .int .i64 (K : Int), .int .i64 (P : Int), .int .i64 (Z : Int)] 76)) = w0 at *
 have HW0 := Lib.hid hw0
 have hM := fun W => rpmay3_any (s : Int) (K : Int) (P : Int) (Z : Int) W
 rw [show mayB (K : Int) (P : Int) (Z : Int) = true from (mayB_iff _ _ _).2 (by omega)] at hM
 have HM := Lib.hid hM
 have HBX := Lib.hid (fun W (hW : Below w0.heap.size w0 W) => box4 ((hW.block _ (Array.getElem?_eq_some_iff.1 HX0.out).1).trans HX0.out))
 obtain ⟨n, hnn⟩ : ∃ n, K + P = n := ⟨_, rfl⟩
 have HNN := Lib.hid hnn
 have hn80 : n ≤ 80 := by omega
 have hn1 : 1 ≤ n := by omega
 have hKP : (K : Int) + (P : Int) = (n : Int) := by omega
 have HKP := Lib.hid hKP
 have hk64 : (K : Int) ≤ 64 := by omega
 have hk1 : (1 : Int) ≤ (K : Int) := by omega
 have hp16 : (P : Int) ≤ 16 := by omega
 have hid32 : (id : Int) ≤ 4294967295 := by omega
 have hs32 : (s : Int) ≤ 4294967295 := by omega
 rw [hnn]
 unfold parV
 clear hM hw0 hnn hKP hZ hs
 by_cases hlt : id < K
 ·have hlti : (id : Int) < (K : Int) := by omega
  have HXX : Hid (spX s K P id = ofL n [(id : Int)]) := Lib.hid (by
   unfold spX; rw [if_pos hlt, ofL_one n id (by have := HNN.out; omega)])
  rw [HXX.out]
  clear HXX
  go_enter Tryz.func92, Tryz.ntmps92
  go_upto_region 1 with fail
  rw [HW0.out]
  obtain ⟨c0, c1, c2, c3⟩ := HBX.out w0 (Below.refl _ _)
  go_wp2_with fail
  refine (HM.out _).mono ?_
  rintro e w1 ⟨rfl, hb1⟩
  clear c0 c1 c2 c3
  obtain ⟨c0, c1, c2, c3⟩ := HBX.out w1 hb1
  have hba : Below w1.heap.size w1 (w1.alloc (.cells #[.int .i64 (id : Int)] 3)) := (Below.refl _ _).alloc (Nat.le_refl _) _
  have hr : Row (w1.alloc (.cells #[.int .i64 (id : Int)] 3)) (w1.alloc (.cells #[.int .i64 (id : Int)] 3)).heap.size (some ⟨w1.heap.size, 0, none⟩) 1 (nv [(id : Int)]) := (row_new w1 #[.int .i64 (id : Int)] 3 (0, 0)).more (by simp)
  have HO := Lib.hid (r1bits_any n (some ⟨w1.heap.size, 0, none⟩) 1 1 _ [(id : Int)] _ hr (Nat.le_refl _) (by omega) (by omega))
  have HB3 := Lib.hid (HB0.out.trans ((hb1.trans (hba.mono hb1.size)).mono HB0.out.size))
  clear hr hba hb1
  go_wp2_with (rw [HKP.out])
  refine HO.out.mono ?_
  rintro e w3 ⟨g, rfl, ho, hb3⟩
  have HB4 := Lib.hid (HB3.out.trans (hb3.out.mono HB3.out.size))
  have HO4 := Lib.hid (own_base ho.out HB3.out.size)
  clear c0 c1 c2 c3 ho hb3
  go_wp2_with fail
  go_ret
  exact ⟨g, rfl, HO4, HB4⟩
 ·have hlti : ¬ (id : Int) < (K : Int) := by omega
  have HNW := Lib.hid (fun W => r1new_any (s : Int) (id : Int) (by omega) (by omega) (by omega) (by omega) W)
  obtain ⟨x0, hx0⟩ : ∃ x0, seed (s : Int) (id : Int) = x0 := ⟨_, rfl⟩
  have hxb := seed_bounds (s : Int) (id : Int)
  rw [hx0] at HNW hxb
  have HXB := Lib.hid hxb
  obtain ⟨y, hy⟩ : ∃ y : Nat, mx (sh x0) = (y : Int) := ⟨(mx (sh x0)).toNat, by have := mx_bounds (sh x0); omega⟩
  have hyb := mx_bounds (sh x0)
  rw [hy] at hyb
  have HYY := Lib.hid hy
  have HXX : Hid (∀ d, IsDeg n (atx n y) d → ofL n (some_ n (sh x0) d) = spX s K P id) := Lib.hid fun d hd => by
   unfold spX
   rw [if_neg hlt, HNN.out]
   unfold chance
   rw [hx0, hy, Int.toNat_natCast, degF_eq hd hn80]
  clear hx0 hxb hy
  go_enter Tryz.func92, Tryz.ntmps92
  go_upto_region 1 with fail
  rw [HW0.out]
  obtain ⟨c0, c1, c2, c3⟩ := HBX.out w0 (Below.refl _ _)
  go_wp2_with fail
  refine (HM.out _).mono ?_
  rintro e w1 ⟨rfl, hb1⟩
  clear c0 c1 c2 c3
  obtain ⟨c0, c1, c2, c3⟩ := HBX.out w1 hb1
  have HB1 := Lib.hid (HB0.out.trans (hb1.mono HB0.out.size))
  clear hb1
  go_wp2_with (rw [HKP.out])
  refine (HNW.out _).mono ?_
  rintro e w2 ⟨rfl, rfl⟩
  clear c0 c1 c2 c3
  have hsrc : r1Src (w1.alloc (.cells #[.int .u32 x0] 207)) w1.heap.size x0 := heap_alloc_new w1 _
  have hb2 : Below w.heap.size w (w1.alloc (.cells #[.int .u32 x0] 207)) := HB1.out.alloc HB1.out.size _
  have HNX := Lib.hid (r1nx_any w1.heap.size x0 _ hsrc HXB.out.1 HXB.out.2)
  rw [HYY.out] at HNX
  have hsrc2 : r1Src ((w1.alloc (.cells #[.int .u32 x0] 207)).setCell ⟨w1.heap.size, 0, none⟩ (.int .u32 (sh x0))) w1.heap.size (sh x0) := by
   unfold r1Src
   rw [heap_setCell_same _ _ 0 _ _ _ hsrc]; rfl
  have HSR := Lib.hid hsrc2
  have HB2 := Lib.hid (hb2.setCell (p := ⟨w1.heap.size, 0, none⟩) HB1.out.size (.int .u32 (sh x0)))
  have HGS : Hid (w.heap.size ≤ w1.heap.size) := Lib.hid HB1.out.size
  obtain ⟨gs, hgs⟩ : ∃ gs, w1.heap.size = gs := ⟨_, rfl⟩
  rw [hgs] at HNX HSR HB2 HGS
  have HGQ := Lib.hid hgs
  clear hsrc hb2 hsrc2
  rw [HGQ.out]
  clear hgs
  go_wp2_with fail
  refine HNX.out.mono ?_
  rintro e w3 ⟨rfl, rfl⟩
  clear HNX
  generalize ((w1.alloc (.cells #[.int .u32 x0] 207)).setCell ⟨gs, 0, none⟩ (.int .u32 (sh x0))) = w3 at *
  go_wp2_with fail
  refine (rdegree_any n y w3 hn1 hn80 (by omega)).mono ?_
  rintro e w4 ⟨d, rfl, hd, hb4⟩
  have HSR4 : Hid (r1Src w4 gs (sh x0)) := Lib.hid ((hb4.out.block gs (Array.getElem?_eq_some_iff.1 HSR.out).1).trans HSR.out)
  have HB4 := Lib.hid (HB2.out.trans (hb4.out.mono HB2.out.size))
  have HDX := Lib.hid (HXX.out d hd.out)
  have hdn : d ≤ n := hd.out.2.1
  clear hb4 hd
  go_wp2_with fail
  refine (r1some_any gs n d (sh x0) w4 HSR4.out (sh_bounds x0).1 (sh_bounds x0).2 hn1 (by omega) hdn).mono ?_
  rintro e w5 ⟨A5, m5, c5, zs, rfl, hr5, hz5, hb5⟩
  have HB5 := Lib.hid (HB4.out.trans (hb5.out.below HGS.out HB4.out.size))
  have HO := Lib.hid (r1bits_any n A5 m5 c5 _ zs w5 hr5.out (Nat.le_refl _) (by have := hz5.out.1; omega) (by omega))
  rw [hz5.out.2, HDX.out] at HO
  clear hr5 hz5 hb5
  go_wp2_with fail
  refine HO.out.mono ?_
  rintro e w6 ⟨g, rfl, ho, hb6⟩
  have HB6 := Lib.hid (HB5.out.trans (hb6.out.mono HB5.out.size))
  have HO6 := Lib.hid (own_base ho.out HB5.out.size)
  clear ho hb6
  go_wp2_with fail
  go_ret
  exact ⟨g, rfl, HO6, HB6⟩
end Go.Proofs.YtmncpgfdpcckpaaGreatDoor.Sp
namespace Go.Proofs.YtmncpgfdpcckpaaGreatDoor.Car
open Go.RowKit
open VecM RdM Vc Sp Pc El Cd Dc
theorem rpieces_all (s kk P Z c : Nat) (A : Option Addr) (es : List BRow) (img : List UInt8) (w : World) (hs : s < 4294967296) (hK : 1 ≤ kk ∧ kk ≤ 64) (hP : P ≤ 16) (hZ : 1 ≤ Z ∧ Z ≤ 16) (h2 : Rows2 w w.heap.size A kk es) (he : es.map (·.l) = (List.range kk).map (BlkM.piece img (Z : Int).toNat)) :
  Calls Tryz.prog 93 #[.agg #[.int .u32 (s : Int), .int .i64 (kk : Int), .int .i64 (P : Int), .int .i64 (Z : Int)], .slice A kk c] w fun e w' => ∃ Ap cp es2, e = .returned (.slice Ap (kk + P) cp) ∧ Hid (es2.map (·.l) = allC s kk P Z img) ∧ Hid (Rows2 w' w'.heap.size Ap (kk + P) es2) ∧ Hid (Below w.heap.size w w') := by
 have he2 : es.map (·.l) = pcsL img Z kk := by rw [he]; rfl
 have hlen : ∀ r ∈ es, r.n = Z := by
  intro r hr
  have h1 : r.l ∈ es.map (·.l) := List.mem_map.2 ⟨r, hr, rfl⟩
  rw [he2] at h1
  rw [← (h2.2 r hr).blen]
  exact pcsL_z _ h1
 have hfit : fitB kk Z kk es = true := fitB_yes.2 ⟨rfl, hlen⟩
 have h := rpieces_any s kk P Z kk c w.heap.size A es w hs hK hP hZ h2 (Nat.le_refl _)
 unfold parV at h
 refine h.mono ?_
 rintro e w' (⟨_, v, rfl, hp, hb⟩ | ⟨h0, _⟩)
 ·obtain ⟨Ap, cp, es2, rfl, h3, h4, _⟩ := hp.out.rows
  rw [he2] at h3 h4
  have hl : (allP s kk Z (pcsL img Z kk) P).length = kk + P := by rw [allP_length, pcsL_length]
  rw [hl] at h4
  exact ⟨Ap, cp, es2, by rw [he2, hl], Lib.hid h3, Lib.hid h4, hb⟩
 ·rw [hfit] at h0; cases h0
theorem rows_len {W : World} {B m : Nat} {A : Option Addr} {es : List BRow} {s kk P Z : Nat} {img : List UInt8} (h : Rows2 W B A m es) (hl : es.map (·.l) = allC s kk P Z img) : ∀ r ∈ es, r.n = Z := by
 intro r hr
 have h1 : r.l ∈ es.map (·.l) := List.mem_map.2 ⟨r, hr, rfl⟩
 rw [hl] at h1
 rw [← (h.2 r hr).blen]
 exact allC_z _ h1
set_option maxHeartbeats 6400000 in
theorem rsymbol_any (s kk P Z id n c : Nat) (A : Option Addr) (img : List UInt8) (w : World) (hs : s < 4294967296) (hid : id < 4294967296) (hK : 1 ≤ kk ∧ kk ≤ 64) (hP : P ≤ 16) (hZ : 1 ≤ Z ∧ Z ≤ 16) (hr : Row w w.heap.size A n (bv img)) (hnc : n ≤ c) (hcm : c ≤ 9223372036854775807) (hcn : BlkM.count (n : Int) (Z : Int) = kk) :
  Calls Tryz.prog 57 #[.agg #[.int .u32 (s : Int), .int .i64 (kk : Int), .int .i64 (P : Int), .int .i64 (Z : Int)], .slice A n c, .int .u32 (id : Int)] w fun e w' => ∃ g c', e = .returned (.slice (some ⟨g, 0, none⟩) Z c') ∧ Hid (w'.ownsRow w.heap.size 5 1 (.slice (some ⟨g, 0, none⟩) Z c') Z (bv (symX s kk P Z img id))) ∧ Hid (Below w.heap.size w w') := by
 have HX0 := Lib.hid (heap_alloc_new w (.cells #[.int .u32 (s : Int), .int .i64 (kk : Int), .int .i64 (P : Int), .int .i64 (Z : Int)] 76))
 have HB0 : Hid (Below w.heap.size w (w.alloc (.cells #[.int .u32 (s : Int), .int .i64 (kk : Int), .int .i64 (P : Int), .int .i64 (Z : Int)] 76))) := Lib.hid ((Below.refl _ _).alloc (Nat.le_refl _) _)
 have HL0 : Hid (w.heap.size < (w.alloc (.cells #[.int .u32 (s : Int), .int .i64 (kk : Int), .int .i64 (P : Int), .int .i64 (Z : Int)] 76)).heap.size) := Lib.hid (by simp)
 have HS := Lib.hid hs
 have HID := Lib.hid hid
 have HK := Lib.hid hK
 have HP := Lib.hid hP
 have HZ := Lib.hid hZ
 have HR := Lib.hid hr
 have HCN := Lib.hid hcn
 have HN80 : Hid (kk + P ≤ 80) := Lib.hid (by omega)
 have hmay : mayB (kk : Int) (P : Int) (Z : Int) = true := (mayB_iff _ _ _).2 ⟨by omega, by omega, by omega⟩
 have HMA := Lib.hid (fun W => rpmay2_any (s : Int) (kk : Int) (P : Int) (Z : Int) W)
 rw [hmay] at HMA
 have HCT : Hid (∀ W, Calls Tryz.prog 89 #[.int .i64 (n : Int), .int .i64 (Z : Int)] W fun e w' => e = .returned (.int .i64 (kk : Int)) ∧ W = w') := Lib.hid (fun W => by
  have h := r7count_any (n : Int) (Z : Int) W
  rw [hcn] at h
  exact h)
 have hnb : ((kk : Int) != (kk : Int)) = false := bne_self_eq_false _
 clear hs hid hK hP hZ hr hcn hmay
 go_enter Tryz.func57, Tryz.ntmps57
 go_upto_region 1 with fail
 generalize hw0 : (w.alloc (.cells #[.int .u32 (s : Int), .int .i64 (kk : Int), .int .i64 (P : Int), .int .i64 (Z : Int)] 76)) = w0 at *
 clear hw0
 have HF : Hid (∀ W, Below w0.heap.size w0 W → W.cell? ⟨w.heap.size, 0, none⟩ = some (.int .u32 (s : Int)) ∧ W.cell? ⟨w.heap.size, 1, none⟩ = some (.int .i64 (kk : Int)) ∧ W.cell? ⟨w.heap.size, 2, none⟩ = some (.int .i64 (P : Int)) ∧ W.cell? ⟨w.heap.size, 3, none⟩ = some (.int .i64 (Z : Int))) := Lib.hid (fun W hW => box4 ((hW.block w.heap.size HL0.out).trans HX0.out))
 refine wp_region_noPanic ?_
 refine wp_region_held_drew (S := (fun W => Below w0.heap.size w0 W)) (by kernel_rfl) (Below.refl _ _).drew (fun hH0 => ?_)
 have hH0 : Below w0.heap.size w0 w0.drew := hH0
 generalize w0.drew = wd at *
 refine wpAnyH_take (i := 0) (oi := _) (v := ?tkv101) rfl (by kernel_rfl) (by kernel_rfl) (by kernel_rfl) (fun _ _ _ h => h) (Or.inl ⟨by rfl, ?tky101⟩) hH0 ?tkr101
 case tky101 => (intro w' hSw; have z0 := HF.out _ hSw; clear hSw; go_simp; try with_reducible rfl)
 try simp only [Act.put, zqa, zqb, zqc]
 refine wpAnyH_ready (rs := [1]) (by kernel_rfl) (by simp) ?_
 refine AllReadyH.cons (o := _) rfl (fun K hK => ?_) AllReadyH.nil
 go_simp
 refine (HMA.out _).mono ?_
 rintro e' wma ⟨rfl, hb1⟩
 go_simp
 refine hK.out _ _ ((hH0).trans (hb1.mono (hH0).size)) (fun hH102 => ?_)
 clear hK K
 try simp only [Act.put, zqa, zqb, zqc]
 have hG102 : (fun W => Below w0.heap.size w0 W ∧ Below wma.heap.size wma W) wma := ⟨hH102, Below.refl _ _⟩
 refine wpAnyH_grow (S' := (fun W => Below w0.heap.size w0 W ∧ Below wma.heap.size wma W)) (fun _ h => h.1) _ _ _ _ ?_
 refine wpAnyH_take (i := 2) (oi := _) (v := ?tkv103) rfl (by kernel_rfl) (by kernel_rfl) (by kernel_rfl) (fun _ _ _ h => h) (Or.inl ⟨by rfl, ?tky103⟩) hG102 ?tkr103
 case tky103 => (intro w' hSw; clear hSw; go_simp; try with_reducible rfl)
 try simp only [Act.put, zqa, zqb, zqc]
 refine wpAnyH_take (i := 3) (oi := _) (v := ?tkv104) rfl (by kernel_rfl) (by kernel_rfl) (by kernel_rfl) (fun _ _ _ h => h) (Or.inl ⟨by rfl, ?tky104⟩) hG102 ?tkr104
 case tky104 => (intro w' hSw; clear hSw; go_simp; try with_reducible rfl)
 try simp only [Act.put, zqa, zqb, zqc]
 refine wpAnyH_take (i := 4) (oi := _) (v := ?tkv105) rfl (by kernel_rfl) (by kernel_rfl) (by kernel_rfl) (fun _ _ _ h => h) (Or.inl ⟨by rfl, ?tky105⟩) hG102 ?tkr105
 case tky105 => (intro w' hSw; clear hSw; go_simp; try with_reducible rfl)
 try simp only [Act.put, zqa, zqb, zqc]
 refine wpAnyH_take (i := 5) (oi := _) (v := ?tkv106) rfl (by kernel_rfl) (by kernel_rfl) (by kernel_rfl) (fun _ _ _ h => h) (Or.inl ⟨by rfl, ?tky106⟩) hG102 ?tkr106
 case tky106 => (intro w' hSw; clear hSw; go_simp; try with_reducible rfl)
 try simp only [Act.put, zqa, zqb, zqc]
 refine wpAnyH_take (i := 6) (oi := _) (v := ?tkv107) rfl (by kernel_rfl) (by kernel_rfl) (by kernel_rfl) (fun _ _ _ h => h) (Or.inl ⟨by rfl, ?tky107⟩) hG102 ?tkr107
 case tky107 => (intro w' hSw; clear hSw; go_simp; try with_reducible rfl)
 try simp only [Act.put, zqa, zqb, zqc]
 refine wpAnyH_take (i := 7) (oi := _) (v := ?tkv108) rfl (by kernel_rfl) (by kernel_rfl) (by kernel_rfl) (fun _ _ _ h => h) (Or.inl ⟨by rfl, ?tky108⟩) hG102 ?tkr108
 case tky108 => (intro w' hSw; have z0 := HF.out _ hSw.1; clear hSw; go_simp; try with_reducible rfl)
 try simp only [Act.put, zqa, zqb, zqc]
 refine wpAnyH_take (i := 9) (oi := _) (v := ?tkv109) rfl (by kernel_rfl) (by kernel_rfl) (by kernel_rfl) (fun _ _ _ h => h) (Or.inl ⟨by rfl, ?tky109⟩) hG102 ?tkr109
 case tky109 => (intro w' hSw; clear hSw; go_simp; try with_reducible rfl)
 try simp only [Act.put, zqa, zqb, zqc]
 refine wpAnyH_take (i := 10) (oi := _) (v := ?tkv110) rfl (by kernel_rfl) (by kernel_rfl) (by kernel_rfl) (fun _ _ _ h => h) (Or.inl ⟨by rfl, ?tky110⟩) hG102 ?tkr110
 case tky110 => (intro w' hSw; have z0 := HF.out _ hSw.1; clear hSw; go_simp; try with_reducible rfl)
 try simp only [Act.put, zqa, zqb, zqc]
 refine wpAnyH_ready (rs := [8]) (by kernel_rfl) (by simp) ?_
 refine AllReadyH.cons (o := _) rfl (fun K hK => ?_) AllReadyH.nil
 go_simp
 refine (HCT.out _).mono ?_
 rintro e' wct ⟨rfl, rfl⟩
 go_simp
 refine hK.out _ _ hG102 (fun hH111 => ?_)
 clear hK K
 try simp only [Act.put, zqa, zqb, zqc]
 refine wpAnyH_take (i := 11) (oi := _) (v := ?tkv112) rfl (by kernel_rfl) (by kernel_rfl) (by kernel_rfl) (fun _ _ _ h => h) (Or.inl ⟨by rfl, ?tky112⟩) hH111 ?tkr112
 case tky112 => (intro w' hSw; clear hSw; go_simp; try with_reducible rfl)
 try simp only [Act.put, zqa, zqb, zqc]
 refine wpAnyH_take (i := 12) (oi := _) (v := ?tkv113) rfl (by kernel_rfl) (by kernel_rfl) (by kernel_rfl) (fun _ _ _ h => h) (Or.inl ⟨by rfl, ?tky113⟩) hH111 ?tkr113
 case tky113 => (intro w' hSw; clear hSw; go_simp; try with_reducible rfl)
 try simp only [Act.put, zqa, zqb, zqc]
 refine wpAnyH_done (by kernel_rfl) ?_ _
 refine NoPanic.normal ?_
 have hEnd : Below w0.heap.size w0 _ := hH111.1
 obtain ⟨w3, rfl⟩ : ∃ W : World, W = wma := ⟨_, rfl⟩
 have HB3 := Lib.hid hEnd
 go_upto_region 3 with fail
 have HSP := Lib.hid (fun W (hW : Below w3.heap.size w3 W) => r7split_any W.heap.size n c kk (Z : Int) A img W (((HR.out.below HB0.out).below ((HB3.out.trans (hW.mono HB3.out.size)).mono HB0.out.size)).more (Nat.le_trans (Nat.le_trans HB0.out.size HB3.out.size) hW.size)) hnc hcm HCN.out (Nat.le_refl _))
 have HF3 : Hid (∀ W, Below w3.heap.size w3 W → W.cell? ⟨w.heap.size, 0, none⟩ = some (.int .u32 (s : Int)) ∧ W.cell? ⟨w.heap.size, 1, none⟩ = some (.int .i64 (kk : Int)) ∧ W.cell? ⟨w.heap.size, 2, none⟩ = some (.int .i64 (P : Int)) ∧ W.cell? ⟨w.heap.size, 3, none⟩ = some (.int .i64 (Z : Int))) := Lib.hid (fun W hW => HF.out W (HB3.out.trans (hW.mono HB3.out.size)))
 refine wp_region_noPanic ?_
 refine wp_region_held_drew (S := (fun W => Below w3.heap.size w3 W)) (by kernel_rfl) (Below.refl _ _).drew (fun hH0 => ?_)
 have hH0 : Below w3.heap.size w3 w3.drew := hH0
 generalize w3.drew = wd at *
 refine wpAnyH_take (i := 0) (oi := _) (v := ?tkv301) rfl (by kernel_rfl) (by kernel_rfl) (by kernel_rfl) (fun _ _ _ h => h) (Or.inl ⟨by rfl, ?tky301⟩) hH0 ?tkr301
 case tky301 => (intro w' hSw; have z0 := HF3.out _ hSw; clear hSw; go_simp; try with_reducible rfl)
 try simp only [Act.put, zqa, zqb, zqc]
 refine wpAnyH_take (i := 1) (oi := _) (v := ?tkv302) rfl (by kernel_rfl) (by kernel_rfl) (by kernel_rfl) (fun _ _ _ h => h) (Or.inl ⟨by rfl, ?tky302⟩) hH0 ?tkr302
 case tky302 => (intro w' hSw; clear hSw; go_simp; try with_reducible rfl)
 try simp only [Act.put, zqa, zqb, zqc]
 refine wpAnyH_take (i := 3) (oi := _) (v := ?tkv303) rfl (by kernel_rfl) (by kernel_rfl) (by kernel_rfl) (fun _ _ _ h => h) (Or.inl ⟨by rfl, ?tky303⟩) hH0 ?tkr303
 case tky303 => (intro w' hSw; have z0 := HF3.out _ hSw; clear hSw; go_simp; try with_reducible rfl)
 try simp only [Act.put, zqa, zqb, zqc]
 refine wpAnyH_take (i := 4) (oi := _) (v := ?tkv304) rfl (by kernel_rfl) (by kernel_rfl) (by kernel_rfl) (fun _ _ _ h => h) (Or.inl ⟨by rfl, ?tky304⟩) hH0 ?tkr304
 case tky304 => (intro w' hSw; clear hSw; go_simp; try with_reducible rfl)
 try simp only [Act.put, zqa, zqb, zqc]
 refine wpAnyH_take (i := 5) (oi := _) (v := ?tkv305) rfl (by kernel_rfl) (by kernel_rfl) (by kernel_rfl) (fun _ _ _ h => h) (Or.inl ⟨by rfl, ?tky305⟩) hH0 ?tkr305
 case tky305 => (intro w' hSw; clear hSw; go_simp; try with_reducible rfl)
 try simp only [Act.put, zqa, zqb, zqc]
 refine wpAnyH_take (i := 6) (oi := _) (v := ?tkv306) rfl (by kernel_rfl) (by kernel_rfl) (by kernel_rfl) (fun _ _ _ h => h) (Or.inl ⟨by rfl, ?tky306⟩) hH0 ?tkr306
 case tky306 => (intro w' hSw; have z0 := HF3.out _ hSw; clear hSw; go_simp; try with_reducible rfl)
 try simp only [Act.put, zqa, zqb, zqc]
 refine wpAnyH_take (i := 9) (oi := _) (v := ?tkv307) rfl (by kernel_rfl) (by kernel_rfl) (by kernel_rfl) (fun _ _ _ h => h) (Or.inl ⟨by rfl, ?tky307⟩) hH0 ?tkr307
 case tky307 => (intro w' hSw; clear hSw; go_simp; try with_reducible rfl)
 try simp only [Act.put, zqa, zqb, zqc]
 refine wpAnyH_take (i := 10) (oi := _) (v := ?tkv308) rfl (by kernel_rfl) (by kernel_rfl) (by kernel_rfl) (fun _ _ _ h => h) (Or.inl ⟨by rfl, ?tky308⟩) hH0 ?tkr308
 case tky308 => (intro w' hSw; have z0 := HF3.out _ hSw; clear hSw; go_simp; try with_reducible rfl)
 try simp only [Act.put, zqa, zqb, zqc]
 refine wpAnyH_ready (rs := [2]) (by kernel_rfl) (by simp) ?_
 refine AllReadyH.cons (o := _) rfl (fun K hK => ?_) AllReadyH.nil
 go_simp
 refine (rrow_any s id kk P Z wd HS.out HID.out HK.out HP.out HZ.out).mono ?_
 rintro e' wro ⟨gr, rfl, hor, hb2'⟩
 have hb2 := hb2'.out
 have HOR := Lib.hid hor.out
 clear hor hb2'
 go_simp
 refine hK.out _ _ ((hH0).trans (hb2.mono (hH0).size)) (fun hH309 => ?_)
 clear hK K
 try simp only [Act.put, zqa, zqb, zqc]
 have hG309 : (fun W => Below w3.heap.size w3 W ∧ Below wro.heap.size wro W) wro := ⟨hH309, Below.refl _ _⟩
 refine wpAnyH_grow (S' := (fun W => Below w3.heap.size w3 W ∧ Below wro.heap.size wro W)) (fun _ h => h.1) _ _ _ _ ?_
 refine wpAnyH_ready (rs := [7]) (by kernel_rfl) (by simp) ?_
 refine AllReadyH.cons (o := _) rfl (fun K hK => ?_) AllReadyH.nil
 go_simp
 refine (HSP.out _ hG309.1).mono ?_
 rintro e' wsp ⟨Asp, csp, es, rfl, hr2, hes, hb7'⟩
 have hb7 := hb7'.out
 have HR2 := Lib.hid hr2.out
 have HES := Lib.hid hes.out
 clear hr2 hes hb7'
 go_simp
 refine hK.out _ _ (⟨(hG309.1).trans (hb7.mono (hG309.1).size), (hG309.2).trans (hb7.mono (hG309.2).size)⟩) (fun hH310 => ?_)
 clear hK K
 try simp only [Act.put, zqa, zqb, zqc]
 have hG310 : (fun W => Below w3.heap.size w3 W ∧ Below wro.heap.size wro W ∧ Below wsp.heap.size wsp W) wsp := ⟨hH310.1, hH310.2, Below.refl _ _⟩
 refine wpAnyH_grow (S' := (fun W => Below w3.heap.size w3 W ∧ Below wro.heap.size wro W ∧ Below wsp.heap.size wsp W)) (fun _ h => ⟨h.1, h.2.1⟩) _ _ _ _ ?_
 refine wpAnyH_ready (rs := [8]) (by kernel_rfl) (by simp) ?_
 refine AllReadyH.cons (o := _) rfl (fun K hK => ?_) AllReadyH.nil
 go_simp
 refine (rpieces_all s kk P Z csp Asp es img wsp HS.out HK.out HP.out HZ.out HR2.out HES.out).mono ?_
 rintro e' wpc ⟨Ap, cp, es2, rfl, hl2, hr3, hb8'⟩
 have hb8 := hb8'.out
 have HR3 := Lib.hid hr3.out
 have HL2 := Lib.hid hl2.out
 clear hr3 hl2 hb8'
 go_simp
 refine hK.out _ _ (⟨(hG310.1).trans (hb8.mono (hG310.1).size), (hG310.2.1).trans (hb8.mono (hG310.2.1).size), (hG310.2.2).trans (hb8.mono (hG310.2.2).size)⟩) (fun hH311 => ?_)
 clear hK K
 try simp only [Act.put, zqa, zqb, zqc]
 have hG311 : (fun W => Below w3.heap.size w3 W ∧ Below wro.heap.size wro W ∧ Below wsp.heap.size wsp W ∧ Below wpc.heap.size wpc W) wpc := ⟨hH311.1, hH311.2.1, hH311.2.2, Below.refl _ _⟩
 refine wpAnyH_grow (S' := (fun W => Below w3.heap.size w3 W ∧ Below wro.heap.size wro W ∧ Below wsp.heap.size wsp W ∧ Below wpc.heap.size wpc W)) (fun _ h => ⟨h.1, h.2.1, h.2.2.1⟩) _ _ _ _ ?_
 refine wpAnyH_ready (rs := [11]) (by kernel_rfl) (by simp) ?_
 refine AllReadyH.cons (o := _) rfl (fun K hK => ?_) AllReadyH.nil
 go_simp
 refine (rsum_any (spX s kk P id) (kk + P) (kk + P) Z (kk + P) cp wpc.heap.size _ Ap es2 wpc (Row.of_own (own_below HOR.out hG311.2.1)) HR3.out (rows_len HR3.out HL2.out) (Nat.le_refl _) HN80.out HZ.out (Nat.le_refl _)).mono ?_
 rintro e' wsu ⟨gs, cs, rfl, hos, hb11'⟩
 have hb11 := hb11'.out
 rw [HL2.out] at hos
 have HOS := Lib.hid hos.out
 have HSZ := Lib.hid (hG311.1).size
 clear hos hb11'
 go_simp
 refine hK.out _ _ (⟨(hG311.1).trans (hb11.mono (hG311.1).size), (hG311.2.1).trans (hb11.mono (hG311.2.1).size), (hG311.2.2.1).trans (hb11.mono (hG311.2.2.1).size), (hG311.2.2.2).trans (hb11.mono (hG311.2.2.2).size)⟩) (fun hH312 => ?_)
 clear hK K
 try simp only [Act.put, zqa, zqb, zqc]
 have hG312 : (fun W => Below w3.heap.size w3 W ∧ Below wro.heap.size wro W ∧ Below wsp.heap.size wsp W ∧ Below wpc.heap.size wpc W ∧ Below wsu.heap.size wsu W) wsu := ⟨hH312.1, hH312.2.1, hH312.2.2.1, hH312.2.2.2, Below.refl _ _⟩
 refine wpAnyH_grow (S' := (fun W => Below w3.heap.size w3 W ∧ Below wro.heap.size wro W ∧ Below wsp.heap.size wsp W ∧ Below wpc.heap.size wpc W ∧ Below wsu.heap.size wsu W)) (fun _ h => ⟨h.1, h.2.1, h.2.2.1, h.2.2.2.1⟩) _ _ _ _ ?_
 refine wpAnyH_take (i := 12) (oi := _) (v := ?tkv313) rfl (by kernel_rfl) (by kernel_rfl) (by kernel_rfl) (fun _ _ _ h => h) (Or.inl ⟨by rfl, ?tky313⟩) hG312 ?tkr313
 case tky313 => (intro w' hSw; clear hSw; go_simp; try with_reducible rfl)
 try simp only [Act.put, zqa, zqb, zqc]
 refine wpAnyH_done (by kernel_rfl) ?_ _
 refine NoPanic.normal ?_
 have hEnd : Below w3.heap.size w3 _ := hG312.1
 have HEN := Lib.hid (HB0.out.trans ((HB3.out.trans (hEnd.mono HB3.out.size)).mono HB0.out.size))
 have HOE := Lib.hid (own_base HOS.out (Nat.le_trans (Nat.le_trans HB0.out.size HB3.out.size) HSZ.out))
 go_wp2_with fail
 go_ret
 exact ⟨gs, cs, rfl, Lib.hid (by rw [← dataX_sym HK.out.1 HN80.out]; exact HOE.out), HEN⟩
end Go.Proofs.YtmncpgfdpcckpaaGreatDoor.Car
