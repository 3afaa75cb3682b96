/- The reference's Digest: by contract. -/
import Derived.Deep.DeepCutAuto
import Derived.StillTailTactics
import Derived.Deep.QuietTactic
import Derived.BigQuiet
import Derived.Test.YtmncpgfdpcckpaaGreatDoorZOQN
set_option maxRecDepth 100000
namespace Go.Proofs.YtmncpgfdpcckpaaGreatDoor.Sh
open Go.RowKit
def sliceLen : Value → Nat
 | .slice _ m _ => m
 | _ => 0
def RDOk (l : List UInt8) (w : World) (e : Ending) (w' : World) : Prop :=
 ∃ A c, e = .returned (.slice A 32 c) ∧ Hid (w'.ownsRow w.heap.size 5 1 (.slice A 32 c) 32 (bv l)) ∧ Hid (Below w.heap.size w w')
def padT (l : List UInt8) (k : Nat) : List UInt8 := l ++ 0x80 :: List.replicate k 0
theorem padT_next (l : List UInt8) (k : Nat) : padT l (k + 1) = padT l k ++ [0] := by
 unfold padT
 rw [List.replicate_succ', List.append_assoc]; rfl
theorem filled_is (l : List UInt8) : Sha.filled l = padT l (Sha.noughts (l.length % 64)) ++ CrcM.four (l.length * 8 / 4294967296 % 4294967296) ++ CrcM.four (l.length * 8 % 4294967296) := by
 show padT l (Sha.noughts (l.length % 64)) ++ Sha.len8 (l.length * 8) = _
 rw [List.append_assoc]
 congr 1
 unfold Sha.len8 CrcM.four
 simp only [List.cons_append, List.nil_append, List.cons.injEq, and_true]
 refine ⟨?_, ?_, ?_, ?_, ?_, ?_, ?_, ?_⟩ <;> apply UInt8.toNat.inj <;> simp <;> omega
def SAt (W : World) (g : Nat) (f : Nat → Nat) : Prop :=
 ∃ cs : Array Value, W.heap[g]? = some (.cells cs 134 (0, 0)) ∧ cs.size = 8 ∧ ∀ i, i < 8 → cs[i]? = some (.int .u32 (f i : Int))
theorem SAt.at_ {W : World} {g : Nat} {f : Nat → Nat} (h : SAt W g f) {i : Nat} (hi : i < 8) : W.cell? ⟨g, i, none⟩ = some (.int .u32 (f i : Int)) := by
 obtain ⟨cs, hg, _, hc⟩ := h
 rw [cell_of_row W g i cs _ (0, 0) hg]
 exact hc i hi
theorem SAt.frozen {W : World} {g : Nat} {f : Nat → Nat} (h : SAt W g f) (i : Nat) : W.frozen? ⟨g, i, none⟩ = false := by
 obtain ⟨cs, hg, _, _⟩ := h
 exact frozen_of_row W g i cs _ hg
theorem SAt.keep {W W' : World} {g : Nat} {f : Nat → Nat} (h : SAt W g f) (hb : W'.heap[g]? = W.heap[g]?) : SAt W' g f := by
 obtain ⟨cs, hg, r⟩ := h
 exact ⟨cs, hb.trans hg, r⟩
theorem SAt.store {W : World} {g : Nat} {f f' : Nat → Nat} (h : SAt W g f) {k x : Nat} (hf : ∀ i, i < 8 → f' i = if i = k then x else f i) : SAt (W.setCell ⟨g, k, none⟩ (.int .u32 (x : Int))) g f' := by
 obtain ⟨cs, hg, hs, hc⟩ := h
 refine ⟨cs.setIfInBounds k (.int .u32 (x : Int)), heap_setCell_same W g k cs _ _ hg, by simpa using hs, fun i hi => ?_⟩
 rw [Array.getElem?_setIfInBounds, hf i hi]
 by_cases e : k = i
 ·subst e; rw [if_pos rfl, if_pos (by omega), if_pos rfl]
 ·rw [if_neg e, if_neg (fun e' => e e'.symm)]; exact hc i hi
theorem SAt.fun_ {W : World} {g : Nat} {f f' : Nat → Nat} (h : SAt W g f) (hf : ∀ i, i < 8 → f' i = f i) : SAt W g f' := by
 obtain ⟨cs, hg, hs, hc⟩ := h
 exact ⟨cs, hg, hs, fun i hi => by rw [hf i hi]; exact hc i hi⟩
theorem SAt.row {W : World} {g : Nat} {s : Sha.S8} (h : SAt W g s.get) : W.heap[g]? = some (.cells (s8v s) 134 (0, 0)) := by
 obtain ⟨cs, hg, hs, hc⟩ := h
 have : cs = s8v s := by
  apply Array.ext_getElem?
  intro i
  by_cases hi : i < 8
  ·rw [hc i hi, s8v_get s i hi]
  ·rw [Array.getElem?_eq_none (by omega), Array.getElem?_eq_none (by rw [s8v_size]; omega)]
 rw [hg, this]
theorem SAt.of {W : World} {g : Nat} {s : Sha.S8} (h : W.heap[g]? = some (.cells (s8v s) 134 (0, 0))) : SAt W g s.get := ⟨_, h, s8v_size s, fun i hi => s8v_get s i hi⟩
set_option maxHeartbeats 3200000 in
theorem rdig_any (B n c : Nat) (A : Option Addr) (l : List UInt8) (w : World) (hr : Row w B A n (bv l)) (hB : B ≤ w.heap.size) (hn : n ≤ 100000000) :
  Calls Tryz.prog 51 #[.slice A n c] w (RDOk (Sha.D l) w) := by
 obtain ⟨i0, hi, hz0, hz1, hz2⟩ := info_parts Tryz.info5
 obtain ⟨j0, hj, hy0, hy1, hy2⟩ := info_parts Tryz.info32
 obtain ⟨Z, hZ⟩ : ∃ Z, blkZ = Z := ⟨_, rfl⟩
 have hz : ∀ w' : World, (zeroValue 135).run Tryz.prog w' = .ok (.agg Z) w' := fun w' => by rw [← hZ]; exact blkZ_zero w'
 have HZ := Lib.hid hZ
 have HR := Lib.hid hr
 have HL := Lib.hid hr.blen
 have HB := Lib.hid hB
 have HT := Lib.hid (fun W => table_any W)
 have HS0 : Hid (SAt (w.alloc (.cells #[.int .u32 1779033703, .int .u32 3144134277, .int .u32 1013904242, .int .u32 2773480762, .int .u32 1359893119, .int .u32 2600822924, .int .u32 528734635, .int .u32 1541459225] 134)) w.heap.size Sha.first.get) := Lib.hid (SAt.of (s := Sha.first) (heap_alloc_new w _))
 have HB0 : Hid (Below w.heap.size w (w.alloc (.cells #[.int .u32 1779033703, .int .u32 3144134277, .int .u32 1013904242, .int .u32 2773480762, .int .u32 1359893119, .int .u32 2600822924, .int .u32 528734635, .int .u32 1541459225] 134))) := Lib.hid ((Below.refl _ _).alloc (Nat.le_refl _) _)
 have HZ1 : Hid ((w.alloc (.cells #[.int .u32 1779033703, .int .u32 3144134277, .int .u32 1013904242, .int .u32 2773480762, .int .u32 1359893119, .int .u32 2600822924, .int .u32 528734635, .int .u32 1541459225] 134)).heap.size = w.heap.size + 1) := Lib.hid (by simp)
 clear hZ hr hB
 go_enter Tryz.func51, Tryz.ntmps51
 go_upto_region 2 with fail
 generalize (w.alloc (.cells #[.int .u32 1779033703, .int .u32 3144134277, .int .u32 1013904242, .int .u32 2773480762, .int .u32 1359893119, .int .u32 2600822924, .int .u32 528734635, .int .u32 1541459225] 134)) = w1 at *
 go_wp2_with fail
 refine (HT.out w1).mono ?_
 rintro e w2 ⟨ck, rfl, HCK, HCC, hb2⟩
 have HB2 := Lib.hid (HB0.out.trans (hb2.out.mono (by have := HZ1.out; omega)))
 have hs2 := hb2.out.size
 have HS2 : Hid (SAt w2 w.heap.size Sha.first.get) := Lib.hid (HS0.out.keep (hb2.out.block _ (by have := HZ1.out; omega)))
 have hw2 : w.heap.size < w2.heap.size := by have := HZ1.out; omega
 have B1 := Lib.hid (heap_alloc_new w2 (.cells Z 135))
 clear hb2 hs2 HS0 HB0 HZ1 HT
 have hnn : n ≤ 100000000 := hn
 go_upto_region 4 with (first
  | (refine wpList_store_row rfl _ (.tmp 4) (.tmp 21) rfl w2.heap.size ck rfl rfl _ _ B1.out (by rw [HCK.out]; kernel_rfl) (by rw [HCK.out, blkZ_size HZ.out]) (all_one HCK.out HCC.out) ?_; rw [World.setRow_alloc_new]))
 have HK3 : Hid ((w2.alloc (.cells ck 135)).heap[w2.heap.size]? = some (.cells ck 135 (0, 0))) := Lib.hid (heap_alloc_new _ _)
 have HS3 : Hid (SAt (w2.alloc (.cells ck 135)) w.heap.size Sha.first.get) := Lib.hid (HS2.out.keep (heap_alloc_old _ _ hw2))
 have HB3 : Hid (Below w.heap.size w (w2.alloc (.cells ck 135))) := Lib.hid (HB2.out.alloc HB2.out.size _)
 have hw3 : (w2.alloc (.cells ck 135)).heap.size = w2.heap.size + 1 := by simp
 have HR3 : Hid (Row (w2.alloc (.cells ck 135)) B A n (bv l)) := Lib.hid (HR.out.below (HB3.out.mono HB.out))
 generalize (w2.alloc (.cells ck 135)) = w3 at *
 obtain ⟨gk, hgk⟩ : ∃ gk, w2.heap.size = gk := ⟨_, rfl⟩
 obtain ⟨gs, hgs⟩ : ∃ gs, w.heap.size = gs := ⟨_, rfl⟩
 obtain ⟨T, hT⟩ : ∃ T, w3.heap.size = T := ⟨_, rfl⟩
 have HGS := Lib.hid hgs
 have HTT := Lib.hid hT
 have HGT : Hid (gs < gk ∧ gk < T) := Lib.hid ⟨by omega, by omega⟩
 have HBT : Hid (B ≤ T) := Lib.hid (by have := HB.out; omega)
 rw [hgs] at HS3
 rw [hgk] at HK3
 clear B1 HS2 HB2 hw2 hw3 HR
 rw [hgk, hgs]
 clear hgk hT
 go_upto_region 5 with (first
  | (at_builtin; refine wpList_app rfl _ (.tmp 26) 22 rfl T 5 i0 (.int .u8 0) 1 Tryz.underlying22 hi hz0 hz1 hz2 rfl _ 0 [] rfl (World.ownsRow_nil _ _ _ _) B A n c (bv l) rfl HR3.out (bv_one l) (by unfold maxLen; omega) (by omega) (by rw [HTT.out]; exact Nat.le_refl _) ?_; intro v4 w4 hown4 hg4 hat4; have HOWN4 := Lib.hid hown4; have HB4 : Hid (Below T w3 w4) := (by rw [← HTT.out]; exact Lib.hid ((Below.refl _ _).grown hg4 (Nat.le_refl _) (by intro g h; nomatch h))); have HZ4 : Hid (T ≤ w4.heap.size) := (by have := hg4.size; rw [HTT.out] at this; exact Lib.hid this); clear hown4 hg4 hat4)
  | (at_builtin; refine wpList_app rfl (.tmp 27) (.tmp 28) 22 rfl T 5 i0 (.int .u8 0) 1 Tryz.underlying22 hi hz0 hz1 hz2 rfl v4 (0 + n) ([] ++ bv l) rfl (HOWN4.out.alloc _) _ _ 1 1 _ rfl (row_new w4 _ _ _) (by intro u hu; simp at hu; subst hu; rfl) (by unfold maxLen; omega) (by omega) (by have := HZ4.out; simp; omega) ?_; intro v5 w5 hown5 hg5 hat5))
 have hb5 : Below T w3 w5 := below_app (HB4.out.alloc HZ4.out _) (by have := HZ4.out; simp; omega) (HOWN4.out.alloc _) (Nat.le_refl _) hg5
 have hown5' : w5.ownsRow T 5 1 v5 (n + 1 + 0) (bv (padT l 0)) := by
  have e : bv (padT l 0) = ([] ++ bv l) ++ [Value.int .u8 128] := by simp [padT, bv]
  rw [e]
  simpa using hown5
 have HA0 : Hid (w5.ownsRow T 5 1 v5 (n + 1 + 0) (bv (padT l 0)) ∧ Below T w3 w5) := Lib.hid ⟨hown5', hb5⟩
 clear hown5 hg5 hat5 hb5 hown5' HOWN4 HB4 HZ4 HR3
 obtain ⟨N, hN⟩ : ∃ N, Sha.noughts (l.length % 64) = N := ⟨_, rfl⟩
 have HN : Hid (Sha.noughts (l.length % 64) = N) := Lib.hid hN
 have hNn : N = (119 - n % 64) % 64 := by rw [← hN, HL.out]; rfl
 clear hN
 go_loopw [6] (fun v wr => ∃ k : Nat, k ≤ N ∧ ∃ A c, v = .slice A (n + 1 + k) c ∧ Hid (wr.ownsRow T 5 1 (.slice A (n + 1 + k) c) (n + 1 + k) (bv (padT l k)) ∧ Below T w3 wr)) (fun v _ => n + 1 + N - sliceLen v)
 case atStart =>
  obtain ⟨A5, c5, rfl, _⟩ := own_slice HA0.out.1
  exact ⟨0, by omega, A5, c5, rfl, HA0⟩
 case round =>
  obtain ⟨k, hk, A5, c5, rfl, hd⟩ := hrel
  clear HA0
  by_cases hlt : k < N
  ·obtain ⟨m, hm⟩ : ∃ m, n + 1 + k = m := ⟨_, rfl⟩
   have hm1 : n + 1 + (k + 1) = m + 1 := by omega
   have hne : ((m : Int) % 64 != 56) = true := by simp; omega
   have hmb : m ≤ 100000100 := by omega
   have HM := Lib.hid hm
   have HM1 := Lib.hid hm1
   rw [hm] at hd ⊢
   have HO := Lib.hid hd.out.1
   have HBW := Lib.hid hd.out.2
   have HZW : Hid (T ≤ wr.heap.size) := Lib.hid (by have := hd.out.2.size; have := HTT.out; omega)
   have HP := Lib.hid (padT_next l k)
   clear hd hm hm1 hNn
   go_wp2_with (at_builtin; refine wpList_app rfl (.tmp 34) (.tmp 35) 22 rfl T 5 i0 (.int .u8 0) 1 Tryz.underlying22 hi hz0 hz1 hz2 rfl _ m _ rfl (HO.out.alloc _) _ _ 1 1 _ rfl (row_new wr _ _ _) (by intro u hu; simp at hu; subst hu; rfl) (by unfold maxLen; omega) (by omega) (by have := HZW.out; simp; omega) ?_; intro v6 w6 hown6 hg6 hat6)
   obtain ⟨A6, c6, rfl, _⟩ := own_slice hown6
   have hnx : Hid (w6.ownsRow T 5 1 (.slice A6 (n + 1 + (k + 1)) c6) (n + 1 + (k + 1)) (bv (padT l (k + 1))) ∧ Below T w3 w6) := by
    rw [HM1.out, HP.out, bv_append]
    exact Lib.hid ⟨hown6, below_app (HBW.out.alloc HZW.out _) (by have := HZW.out; simp; omega) (HO.out.alloc _) (Nat.le_refl _) hg6⟩
   clear hown6 hg6 hat6 HO HBW HZW
   rw [← HM1.out] at *
   go_wp2_with fail
   go_roundw
   case rel => exact ⟨k + 1, by omega, A6, c6, rfl, hnx⟩
   case measure => have := HM.out; simp [sliceLen]; omega
  ·obtain rfl : N = k := by omega
   obtain ⟨m, hm⟩ : ∃ m, n + 1 + N = m := ⟨_, rfl⟩
   have hne : ((m : Int) % 64 != 56) = false := by simp; omega
   have hmb : m ≤ 100000100 := by omega
   have HMM : Hid (n + 1 + N = m ∧ m % 64 = 56 ∧ N < 64) := Lib.hid ⟨hm, by omega, by omega⟩
   have HM := Lib.hid hm
   rw [hm] at hd ⊢
   have HO := Lib.hid hd.out.1
   have HBW := Lib.hid hd.out.2
   have HZW : Hid (T ≤ wr.heap.size) := Lib.hid (by have := hd.out.2.size; have := HTT.out; omega)
   clear hd hm hNn hlt hk
   have hn8 : (n : Int) * 8 ≤ 800000000 := by omega
   have HHI := Lib.hid (show (n : Int) * 8 / 4294967296 = ((n * 8 / 4294967296 % 4294967296 : Nat) : Int) by omega)
   have HLO := Lib.hid (show (n : Int) * 8 = ((n * 8 % 4294967296 : Nat) : Int) by omega)
   go_wp2_with fail
   rw [HHI.out]
   refine (four_any _ (Nat.mod_lt _ (by decide)) wr).mono ?_
   rintro e w6 ⟨A6, n6, c6, rfl, hn6, hown6, hb6⟩
   have hn6' : n6 = 4 := hn6.out
   subst hn6'
   have HR6 := Lib.hid (Row.of_own hown6)
   have HO6 := Lib.hid (own_below HO.out hb6)
   have HZ6 : Hid (T ≤ w6.heap.size) := Lib.hid (by have h1 := hb6.size; have h2 := HZW.out; omega)
   have HB6 := Lib.hid (HBW.out.trans (hb6.mono HZW.out))
   clear hn6 hown6 hb6
   go_wp2_with (at_builtin; refine wpList_app rfl (.tmp 37) (.tmp 41) 22 rfl T 5 i0 (.int .u8 0) 1 Tryz.underlying22 hi hz0 hz1 hz2 rfl _ m _ rfl HO6.out _ A6 4 c6 _ rfl HR6.out (bv_one _) (by unfold maxLen; omega) (by omega) HZ6.out ?_; intro v7 w7 hown7 hg7 hat7; have HO7 := Lib.hid hown7; have HB7 : Hid (Below T w3 w7) := Lib.hid (below_app HB6.out HZ6.out HO6.out (Nat.le_refl _) hg7); have HZ7 : Hid (T ≤ w7.heap.size) := (by have h1 := hg7.size; have h2 := HZ6.out; exact Lib.hid (by omega)); clear hown7 hg7 hat7)
   rw [HLO.out]
   refine (four_any _ (Nat.mod_lt _ (by decide)) w7).mono ?_
   rintro e w8 ⟨A8, n8, c8, rfl, hn8', hown8, hb8⟩
   have hn8'' : n8 = 4 := hn8'.out
   subst hn8''
   have HR8 := Lib.hid (Row.of_own hown8)
   have HO8 := Lib.hid (own_below HO7.out hb8)
   have HZ8 : Hid (T ≤ w8.heap.size) := Lib.hid (by have h1 := hb8.size; have h2 := HZ7.out; omega)
   have HB8 := Lib.hid (HB7.out.trans (hb8.mono HZ7.out))
   clear hn8' hown8 hb8 HO7 HB7 HZ7 HR6 HO6 HZ6 HB6
   go_upto_region 8 with (at_builtin; refine wpList_app rfl (.tmp 42) (.tmp 45) 22 rfl T 5 i0 (.int .u8 0) 1 Tryz.underlying22 hi hz0 hz1 hz2 rfl _ (m + 4) _ rfl HO8.out _ A8 4 c8 _ rfl HR8.out (bv_one _) (by unfold maxLen; omega) (by omega) HZ8.out ?_; intro v9 w9 hown9 hg9 hat9)
   obtain ⟨M, hM⟩ : ∃ M, (n + 72) / 64 = M := ⟨_, rfl⟩
   obtain ⟨L, hL⟩ : ∃ L, m + 4 + 4 = L := ⟨_, rfl⟩
   have hLM : L = 64 * M := by have := HMM.out; omega
   have hfill : bv (padT l N) ++ bv (CrcM.four (n * 8 / 4294967296 % 4294967296)) ++ bv (CrcM.four (n * 8 % 4294967296)) = bv (Sha.filled l) := by
    rw [filled_is, HN.out, HL.out, bv_append, bv_append]
   rw [hfill, hL] at hown9
   obtain ⟨g9, c9, hv9, hg9T, _⟩ := hown9.form (by omega)
   subst hv9
   have hc9 := (own_cap hown9).1
   have hc9m := (own_cap hown9).2
   have HO9 := Lib.hid hown9
   have HB9 : Hid (Below T w3 w9) := Lib.hid (below_app HB8.out HZ8.out HO8.out (Nat.le_refl _) hg9)
   have HX : Hid ((Sha.filled l).length = L) := Lib.hid (Row.of_own hown9).blen
   have HD : Hid (Sha.D l = (Sha.stN (Sha.filled l) M).bytes) := Lib.hid (by rw [Sha.D_filled, HL.out, hM])
   have HM9 : Hid (M ≤ 2000000) := Lib.hid (by omega)
   have HLM := Lib.hid hLM
   have HG9 : Hid (T ≤ g9 ∧ g9 < w9.heap.size) := Lib.hid (hown9.lt g9 rfl)
   have HS9 : Hid (SAt w9 gs Sha.first.get) := Lib.hid (HS3.out.keep (HB9.out.block _ (by have := HGT.out; omega)))
   have HK9 : Hid (w9.heap[gk]? = some (.cells ck 135 (0, 0))) := Lib.hid ((HB9.out.block _ (by have := HGT.out; omega)).trans HK3.out)
   generalize Sha.filled l = X at *
   clear hown9 hg9 hat9 hfill hM hL hLM hg9T HO8 HR8 HZ8 HB8 HS3 HK3 HO HBW HZW HHI HLO hn8 hne hmb HM HMM hnn
   go_wp2_with fail
   have hA0 : Hid (SAt w9 gs (Sha.stN X 0).get ∧ w9.grownBy w9 (some gs)) := Lib.hid ⟨HS9.out, ⟨rfl, rfl, rfl, Nat.le_refl _, fun _ _ _ => rfl⟩⟩
   clear HS9
   go_loopw [7] (fun i wr => ∃ c : Nat, c ≤ M ∧ i = .int .i64 ((64 * c : Nat) : Int) ∧ Hid (SAt wr gs (Sha.stN X c).get ∧ w9.grownBy wr (some gs))) (fun i _ => 64 * M - (intOf i).toNat)
   case atStart => exact ⟨0, by omega, rfl, hA0⟩
   case round =>
    obtain ⟨c, hc, rfl, hd⟩ := hrel
    clear hA0
    obtain ⟨wl, rfl⟩ : ∃ wl : World, wl = wr := ⟨_, rfl⟩
    by_cases hlt : c < M
    ·obtain ⟨at0, hat⟩ : ∃ a, 64 * c = a := ⟨_, rfl⟩
     have hatL : (at0 : Int) < (L : Int) := by have := HLM.out; omega
     have hL64 : at0 + 64 ≤ L := by have := HLM.out; omega
     have hLb : L ≤ 128000000 := by have := HLM.out; have := HM9.out; omega
     have HAT := Lib.hid hat
     have HSl := Lib.hid hd.out.1
     have HGl := Lib.hid hd.out.2
     have hzl : w9.heap.size ≤ wl.heap.size := hd.out.2.size
     have HOl := Lib.hid (HO9.out.kept hd.out.2 (.inr (fun e => by have h1 : some g9 = some gs := e; injection h1 with h1; have := HG9.out; have := HGT.out; omega)))
     have HKl : Hid (wl.heap[gk]? = some (.cells ck 135 (0, 0))) := Lib.hid ((hd.out.2.block gk (Array.getElem?_eq_some_iff.1 HK9.out).1 (fun e => by injection e with e; have := HGT.out; omega)).trans HK9.out)
     have HX64 : Hid (64 * c + 64 ≤ X.length) := Lib.hid (by rw [HX.out]; omega)
     have hWA : Hid (WAt (wl.alloc (.cells Z 135)) wl.heap.size 0 (schW (Sha.chunk X c)) ∧ Below wl.heap.size wl (wl.alloc (.cells Z 135))) := Lib.hid ⟨⟨Z, heap_alloc_new _ _, blkZ_size HZ.out, fun i hi => absurd hi (Nat.not_lt_zero _)⟩, (Below.refl _ _).alloc (Nat.le_refl _) _⟩
     rw [hat]
     clear hd hat
     go_wp2_with fail
     go_loopw [53] (fun i wr => ∃ k : Nat, k ≤ 64 ∧ i = .int .i64 k ∧ Hid (WAt wr wl.heap.size k (schW (Sha.chunk X c)) ∧ Below wl.heap.size wl wr)) (fun i _ => 64 - (intOf i).toNat)
     case atStart => exact ⟨0, by omega, rfl, hWA⟩
     case round =>
      obtain ⟨k, hk, rfl, hd⟩ := hrel
      clear hWA
      by_cases hlt2 : k < 64
      ·by_cases h16 : k < 16
       ·obtain ⟨o4, ho4⟩ : ∃ o, at0 + 4 * k = o := ⟨_, rfl⟩
        have hoL : o4 + 4 ≤ L := by omega
        have hoc : o4 + 4 ≤ c9 := by omega
        have e4 : ((at0 : Int) + 4 * (k : Int)) = (o4 : Int) := by omega
        have HE4 := Lib.hid e4
        have HRS : Hid (Row wr wr.heap.size (some ⟨g9, o4, none⟩) 4 (bv ((X.drop o4).take 4))) := Lib.hid (by
         have h1 := (Row.of_own (own_below HOl.out hd.out.2)).sub (k := o4) (m := 4) (A' := some ⟨g9, o4, none⟩) hoL (fun b o e _ => by
          injection e with e
          injection e with e1 e2
          rw [← e1, ← e2, Nat.zero_add])
         rw [bv_drop, bv_take] at h1
         exact h1)
        have HNU := Lib.hid (number_any wr.heap.size (c9 - o4) (some ⟨g9, o4, none⟩) ((X.drop o4).take 4) wr HRS.out)
        have hnx := f4_word X c k h16 HX64.out
        rw [HAT.out, ho4] at hnx
        have hfr := hd.out.1.frozen k
        obtain ⟨v0, hcv⟩ := hd.out.1.some_ (i := k) hlt2
        have k64 : (k : Int) < 64 := by omega
        have k16 : (k : Int) < 16 := by omega
        have hD : Hid (WAt (wr.setCell ⟨wl.heap.size, k, none⟩ (.int .u32 (f4 ((X.drop o4).take 4) : Int))) wl.heap.size (k + 1) (schW (Sha.chunk X c)) ∧ Below wl.heap.size wl (wr.setCell ⟨wl.heap.size, k, none⟩ (.int .u32 (f4 ((X.drop o4).take 4) : Int)))) := Lib.hid ⟨hd.out.1.store hlt2 fun i hi => by
         by_cases e : i = k
         ·subst e; exact .inl ⟨rfl, hnx.symm⟩
         ·exact .inr ⟨e, by omega, rfl⟩, hd.out.2.setCell (Nat.le_refl _) _⟩
        clear hd hnx HRS ho4
        go_wp2_with fail
        refine HNU.out.mono ?_
        rintro e w' ⟨rfl, rfl⟩
        generalize f4 ((X.drop o4).take 4) = y4 at *
        go_wp2_with fail
        go_roundw
        case rel => exact ⟨k + 1, by omega, by go_num, hD⟩
        case measure => simp [intOf]; omega
       ·obtain ⟨a, ha⟩ : ∃ a, k - 15 = a := ⟨_, rfl⟩
        obtain ⟨b, hb⟩ : ∃ b, k - 2 = b := ⟨_, rfl⟩
        obtain ⟨cc, hcc⟩ : ∃ c, k - 7 = c := ⟨_, rfl⟩
        obtain ⟨d, hdd⟩ : ∃ d, k - 16 = d := ⟨_, rfl⟩
        have hnx := schW_next (Sha.chunk X c) k (by omega) hlt2
        rw [ha, hb, hcc, hdd] at hnx
        have XA := Lib.hid (schW_lt (Sha.chunk X c) a)
        have XB := Lib.hid (schW_lt (Sha.chunk X c) b)
        have WA := Lib.hid (show IntKind.i64.wrap ((k : Int) - 15) = (a : Int) by rw [IntWalk.i64_in _ (by omega)]; omega)
        have WB := Lib.hid (show IntKind.i64.wrap ((k : Int) - 2) = (b : Int) by rw [IntWalk.i64_in _ (by omega)]; omega)
        have WC := Lib.hid (show IntKind.i64.wrap ((k : Int) - 7) = (cc : Int) by rw [IntWalk.i64_in _ (by omega)]; omega)
        have WD := Lib.hid (show IntKind.i64.wrap ((k : Int) - 16) = (d : Int) by rw [IntWalk.i64_in _ (by omega)]; omega)
        have a64 : (a : Int) < 64 := by omega
        have b64 : (b : Int) < 64 := by omega
        have c64 : (cc : Int) < 64 := by omega
        have d64 : (d : Int) < 64 := by omega
        have k64 : (k : Int) < 64 := by omega
        have k16 : ¬ (k : Int) < 16 := by omega
        have ca := hd.out.1.at_ (i := a) (by omega)
        have cb := hd.out.1.at_ (i := b) (by omega)
        have HC3 := Lib.hid (hd.out.1.at_ (i := cc) (by omega))
        have HC4 := Lib.hid (hd.out.1.at_ (i := d) (by omega))
        have HFR := Lib.hid (hd.out.1.frozen k)
        obtain ⟨v0, hcv⟩ := hd.out.1.some_ (i := k) hlt2
        have HCV := Lib.hid hcv
        have hst := hd.out.1.store (n' := k + 1) (f' := schW (Sha.chunk X c)) (x := Sha.add (Sha.add (Sha.add (Sha.small1 (schW (Sha.chunk X c) b)) (schW (Sha.chunk X c) cc)) (Sha.small0 (schW (Sha.chunk X c) a))) (schW (Sha.chunk X c) d)) hlt2 fun i hi => by
         by_cases e : i = k
         ·subst e; exact .inl ⟨rfl, hnx⟩
         ·exact .inr ⟨e, by omega, rfl⟩
        have HST := Lib.hid (And.intro hst (hd.out.2.setCell (p := ⟨wl.heap.size, k, none⟩) (Nat.le_refl _) (.int .u32 ((Sha.add (Sha.add (Sha.add (Sha.small1 (schW (Sha.chunk X c) b)) (schW (Sha.chunk X c) cc)) (Sha.small0 (schW (Sha.chunk X c) a))) (schW (Sha.chunk X c) d) : Nat) : Int))))
        have hadd : ∀ p q r s : Nat, ((s : Int) + (r : Int) + (q : Int) + (p : Int)) % 4294967296 = ((Sha.add (Sha.add (Sha.add p q) r) s : Nat) : Int) := fun p q r s => by unfold Sha.add; omega
        have HADD := Lib.hid (hadd (Sha.small1 (schW (Sha.chunk X c) b)) (schW (Sha.chunk X c) cc) (Sha.small0 (schW (Sha.chunk X c) a)) (schW (Sha.chunk X c) d))
        generalize schW (Sha.chunk X c) a = xa at *
        generalize schW (Sha.chunk X c) b = xb at *
        generalize schW (Sha.chunk X c) cc = xc at *
        generalize schW (Sha.chunk X c) d = xd at *
        clear hd ha hb hcc hdd hnx hcv hst hadd
        have wa := WA.out
        have wb := WB.out
        go_wp2_with fail
        go_quiet (fail)
        clear ca cb wa wb
        have c3 : (wr.drewN nq).cell? ⟨wl.heap.size, cc, none⟩ = some (.int .u32 (xc : Int)) := HC3.out
        have c4 : (wr.drewN nq).cell? ⟨wl.heap.size, d, none⟩ = some (.int .u32 (xd : Int)) := HC4.out
        have HFR2 : Hid ((wr.drewN nq).drew.frozen? ⟨wl.heap.size, k, none⟩ = false) := HFR
        have HCV2 : Hid ((wr.drewN nq).drew.cell? ⟨wl.heap.size, k, none⟩ = some v0) := HCV
        have HST2 : Hid (WAt ((wr.drewN nq).drew.setCell ⟨wl.heap.size, k, none⟩ (.int .u32 ((Sha.add (Sha.add (Sha.add (Sha.small1 xb) xc) (Sha.small0 xa)) xd : Nat) : Int))) wl.heap.size (k + 1) (schW (Sha.chunk X c)) ∧ Below wl.heap.size wl ((wr.drewN nq).drew.setCell ⟨wl.heap.size, k, none⟩ (.int .u32 ((Sha.add (Sha.add (Sha.add (Sha.small1 xb) xc) (Sha.small0 xa)) xd : Nat) : Int)))) := Lib.hid ⟨HST.out.1.keep rfl, HST.out.2.trans ⟨rfl, rfl, rfl, by simp, fun _ _ => rfl⟩⟩
        generalize wr.drewN nq = w2 at *
        have K7 := Lib.hid (same_of (turn_7 xa w2.drew XA))
        have K18 := Lib.hid (same_of (turn_18 xa w2.drew XA))
        have K17 := Lib.hid (same_of (turn_17 xb w2.drew XB))
        have K19 := Lib.hid (same_of (turn_19 xb w2.drew XB))
        have wc := WC.out
        have wd := WD.out
        clear HST HC3 HC4 HFR HCV
        go_wp2_with fail
        refine wp_region_still_tail 29 (by kernel_rfl) (by kernel_rfl) ?_
        simp only [List.take_succ_cons, List.take_zero, List.drop_succ_cons, List.drop_zero]
        repeat still_step
        still_call K7.out
        repeat still_step
        still_call K18.out
        repeat still_step
        still_call K17.out
        repeat still_step
        still_call K19.out
        repeat still_step
        refine wpStill_nil ?_
        change wpList _ _ _ _ _ w2.drew
        have hfr := HFR2.out
        have hcv := HCV2.out
        clear c3 c4 wc wd K7 K18 K17 K19
        rw [small0_bits _ XA.out, small1_bits _ XB.out]
        generalize w2.drew = w2d at *
        generalize Sha.small0 xa = sa at *
        generalize Sha.small1 xb = sb at *
        go_wp2_with (rw [HADD.out])
        go_roundw
        case rel => exact ⟨k + 1, by omega, by go_num, by first | exact HST2 | (rw [HADD.out]; exact HST2)⟩
        case measure => simp [intOf]; omega
      ·obtain rfl : 64 = k := by omega
       clear hlt2
       obtain ⟨wx, rfl⟩ : ∃ wx : World, wx = wr := ⟨_, rfl⟩
       have HWX := Lib.hid hd.out.1
       have HBX := Lib.hid hd.out.2
       have hzx : wl.heap.size ≤ wx.heap.size := hd.out.2.size
       have hgsl : gs < wl.heap.size := by have h1 := HGT.out; have h2 := HG9.out; omega
       have HSX : Hid (SAt wx gs (Sha.stN X c).get) := Lib.hid (HSl.out.keep (hd.out.2.block gs hgsl))
       have HKX : Hid (wx.heap[gk]? = some (.cells ck 135 (0, 0))) := Lib.hid ((hd.out.2.block gk (Array.getElem?_eq_some_iff.1 HKl.out).1).trans HKl.out)
       have HSL : Hid ((Sha.stN X c).lt) := Lib.hid (by cases c with | zero => exact Sha.start_ok.1 | succ c => exact Sha.mix_ok _ _)
       have HSN : Hid (Sha.stN X (c + 1) = Sha.plus (Sha.stN X c) (Sha.rounds (Sha.wordsOf (Sha.chunk X c)) (Sha.stN X c) 64)) := Lib.hid rfl
       have HROW := Lib.hid (SAt.row HSX.out)
       have hgwx : wl.heap.size < wx.heap.size := HWX.out.elim fun cs h => (Array.getElem?_eq_some_iff.1 h.1).1
       have HGW := Lib.hid hgwx
       have B3 := Lib.hid (heap_alloc_new wx (.cells #[.int .u32 0, .int .u32 0, .int .u32 0, .int .u32 0, .int .u32 0, .int .u32 0, .int .u32 0, .int .u32 0] 134))
       obtain ⟨S, hS⟩ : ∃ S, Sha.stN X c = S := ⟨_, rfl⟩
       rw [hS] at HROW HSX HSL HSN
       have HSS := Lib.hid hS
       clear hd hS HSl hgwx
       go_upto_region 21 with (first
        | (refine wpList_load_row rfl _ (.tmp 3) rfl gs rfl _ _ _ _ HROW.out Tryz.underlying134 rfl (by kernel_rfl) ?_)
        | (refine wpList_store_row rfl _ (.tmp 12) (.tmp 110) rfl wx.heap.size (s8v S) rfl rfl _ _ B3.out (by kernel_rfl) rfl (all_one (n := 8) (f := S.get) rfl (s8v_get S)) ?_; rw [World.setRow_alloc_new]))
       have hA4 : Hid (MixA wx.heap.size (Sha.wordsOf (Sha.chunk X c)) S 0 wx (wx.alloc (.cells (s8v S) 134))) := Lib.hid ⟨heap_alloc_new _ _, (Below.refl _ _).alloc (Nat.le_refl _) _⟩
       generalize (wx.alloc (.cells (s8v S) 134)) = wv at *
       obtain ⟨gv, hgv⟩ : ∃ gv, wx.heap.size = gv := ⟨_, rfl⟩
       obtain ⟨gw, hgw⟩ : ∃ gw, wl.heap.size = gw := ⟨_, rfl⟩
       have HGV := Lib.hid hgv
       have HGWW := Lib.hid hgw
       rw [hgv] at hA4
       rw [hgv, hgw]
       clear hgv hgw B3
       go_wp2_with fail
       go_loopw [111] (fun i wr => ∃ k : Nat, k ≤ 64 ∧ i = .int .i64 k ∧ Hid (MixA gv (Sha.wordsOf (Sha.chunk X c)) S k wx wr)) (fun i _ => 64 - (intOf i).toNat)
       case atStart => exact ⟨0, by omega, rfl, hA4⟩
       case round =>
        obtain ⟨k, hk, rfl, hd⟩ := hrel
        clear hA4
        by_cases hlt2 : k < 64
        ·have hsl : Hid (Sha.rounds (Sha.wordsOf (Sha.chunk X c)) S k).lt := Lib.hid (Sha.rounds_ok _ _ HSL.out k)
         have hrow := hd.out.1
         have HBD := Lib.hid hd.out.2
         have hkc : wr.cell? ⟨gk, k, none⟩ = some (.int .u32 (Sha.ks.getD k 0 : Nat)) := by
          rw [cell_of_row wr gk k ck _ (0, 0) ((hd.out.2.block gk (Array.getElem?_eq_some_iff.1 HKX.out).1).trans HKX.out)]
          exact HCC.out k hlt2
         have hwc : wr.cell? ⟨gw, k, none⟩ = some (.int .u32 (schW (Sha.chunk X c) k : Nat)) := by
          rw [← HGWW.out]
          exact (HWX.out.keep (hd.out.2.block _ HGW.out)).at_ hlt2
         have hnext : Hid (Sha.rounds (Sha.wordsOf (Sha.chunk X c)) S (k + 1) = Sha.round (Sha.rounds (Sha.wordsOf (Sha.chunk X c)) S k) (Sha.add (Sha.ks.getD k 0) (schW (Sha.chunk X c) k))) := Lib.hid rfl
         have k64 : (k : Int) < 64 := by omega
         generalize Sha.ks.getD k 0 = kk at *
         generalize schW (Sha.chunk X c) k = xx at *
         generalize Sha.rounds (Sha.wordsOf (Sha.chunk X c)) S k = R at *
         obtain ⟨a, b, cc, d, e, f, g, h⟩ := R
         obtain ⟨⟨c0, c1, c2, c3, c4, c5, c6, c7⟩, -⟩ := cells8 hrow
         obtain ⟨la, lb, lc, ld, le, lf, lg, lh⟩ := hsl.out
         have HLA := Lib.hid la
         have HLE := Lib.hid le
         have HLS := Lib.hid (And.intro la (And.intro lb (And.intro lc (And.intro le (And.intro lf lg)))))
         have HROW4 := Lib.hid hrow
         have h1 : ∀ p q r s t : Nat, (((p : Int) + (q : Int) + (r : Int) + (s : Int)) % 4294967296 + (t : Int)) % 4294967296 = ((Sha.add (Sha.add (Sha.add p q) r) (Sha.add s t) : Nat) : Int) := fun p q r s t => by unfold Sha.add; omega
         have HT1 := Lib.hid (h1 h (Sha.big1 e) (Sha.choice e f g) kk xx)
         clear hd hrow la lb lc ld le lf lg lh h1
         go_wp2_with fail
         go_quiet ((first | (go_at_call 83; with_reducible exact Calls.quiet_of_same (same_of (turn_6 _ _ HLE))) | (go_at_call 83; with_reducible exact Calls.quiet_of_same (same_of (turn_11 _ _ HLE))) | (go_at_call 83; with_reducible exact Calls.quiet_of_same (same_of (turn_25 _ _ HLE)))))
         rw [big1_bits _ HLE.out, show (if IntKind.u32.signed = true then (-1 : Int) else IntKind.u32.max) = IntKind.u32.max from rfl, choice_bits _ _ _ HLS.out.2.2.2.1 HLS.out.2.2.2.2.1 HLS.out.2.2.2.2.2, HT1.out]
         obtain ⟨one, hone⟩ : ∃ one, Sha.add (Sha.add (Sha.add h (Sha.big1 e)) (Sha.choice e f g)) (Sha.add kk xx) = one := ⟨_, rfl⟩
         rw [hone]
         have HONE := Lib.hid hone
         clear hone c0 c1 c2 c3 c4 c5 c6 c7 hkc hwc HT1
         have HROW5 : Hid ((wr.drewN nq).heap[gv]? = some (.cells (s8v ⟨a, b, cc, d, e, f, g, h⟩) 134 (0, 0))) := HROW4
         have HBD5 : Hid (Below wx.heap.size wx (wr.drewN nq)) := Lib.hid (below_drewN HBD.out _)
         clear HROW4 HBD
         generalize wr.drewN nq = w5 at *
         obtain ⟨⟨c0, c1, c2, c3, c4, c5, c6, c7⟩, -⟩ := cells8 HROW5.out
         have HT2 := Lib.hid (show ((Sha.big0 a : Nat) : Int) + ((Sha.major a b cc : Nat) : Int) = ((Sha.big0 a + Sha.major a b cc : Nat) : Int) by omega)
         go_wp2_with fail
         go_quiet ((first | (go_at_call 83; with_reducible exact Calls.quiet_of_same (same_of (turn_2 _ _ HLA))) | (go_at_call 83; with_reducible exact Calls.quiet_of_same (same_of (turn_13 _ _ HLA))) | (go_at_call 83; with_reducible exact Calls.quiet_of_same (same_of (turn_22 _ _ HLA)))))
         rw [big0_bits _ HLA.out, major_bits _ _ _ HLS.out.1 HLS.out.2.1 HLS.out.2.2.1, show (((Sha.big0 a : Nat) : Int) + ((Sha.major a b cc : Nat) : Int)) % 4294967296 = ((Sha.add (Sha.big0 a) (Sha.major a b cc) : Nat) : Int) by unfold Sha.add; omega]
         obtain ⟨two, htwo⟩ : ∃ two, Sha.add (Sha.big0 a) (Sha.major a b cc) = two := ⟨_, rfl⟩
         rw [htwo]
         have HROW6 : Hid ((w5.drewN nq).heap[gv]? = some (.cells (s8v ⟨a, b, cc, d, e, f, g, h⟩) 134 (0, 0))) := HROW5
         have HBD6 : Hid (Below wx.heap.size wx (w5.drewN nq)) := Lib.hid (below_drewN HBD5.out _)
         obtain ⟨y1, hy1⟩ : ∃ y, Sha.add one two = y := ⟨_, rfl⟩
         obtain ⟨y2, hy2⟩ : ∃ y, Sha.add d one = y := ⟨_, rfl⟩
         have he : Sha.rounds (Sha.wordsOf (Sha.chunk X c)) S (k + 1) = ⟨y1, a, b, cc, y2, e, f, g⟩ := hnext.out.trans (by
          show Sha.S8.mk (Sha.add (Sha.add (Sha.add (Sha.add h (Sha.big1 e)) (Sha.choice e f g)) (Sha.add kk xx)) (Sha.add (Sha.big0 a) (Sha.major a b cc))) a b cc (Sha.add d (Sha.add (Sha.add (Sha.add h (Sha.big1 e)) (Sha.choice e f g)) (Sha.add kk xx))) e f g = _
          rw [HONE.out, htwo, hy1, hy2])
         have HE := Lib.hid he
         have hs1 : ((one : Int) + (two : Int)) % 4294967296 = (y1 : Int) := by rw [← hy1]; unfold Sha.add; omega
         have hs2 : ((d : Int) + (one : Int)) % 4294967296 = (y2 : Int) := by rw [← hy2]; unfold Sha.add; omega
         have hs3 : IntKind.u32.wrap ((one : Int) + (two : Int)) = (y1 : Int) := by rw [IntKind.wrap_u32]; exact hs1
         have hs4 : IntKind.u32.wrap ((d : Int) + (one : Int)) = (y2 : Int) := by rw [IntKind.wrap_u32]; exact hs2
         clear HROW5 HBD5 c0 c1 c2 c3 c4 c5 c6 c7 he hy1 hy2 htwo hnext HONE
         generalize w5.drewN nq = w6 at *
         obtain ⟨⟨c0, c1, c2, c3, c4, c5, c6, c7⟩, ⟨f0, f1, f2, f3, f4, f5, f6, f7⟩⟩ := cells8 HROW6.out
         have hgq : wx.heap.size ≤ gv := by rw [HGV.out]; exact Nat.le_refl _
         have HD4 := MixA.next HBD6.out HROW6.out hgq HE.out
         go_wp2_with fail
         go_roundw
         case rel => exact ⟨k + 1, by omega, by go_num, HD4⟩
         case measure => simp [intOf]; omega
        ·obtain rfl : 64 = k := by omega
         clear hlt2
         obtain ⟨wo, rfl⟩ : ∃ wo : World, wo = wr := ⟨_, rfl⟩
         have HVR := Lib.hid hd.out.1
         have HGO : Hid (wl.grownBy wo (some gs)) := Lib.hid (by
          have hb := HBX.out.trans (hd.out.2.mono hzx)
          exact ⟨hb.os, hb.tape, hb.output, hb.size, fun j hj _ => hb.block j hj⟩)
         have hgsx : gs < wx.heap.size := by omega
         have hSo := HSX.out.keep (hd.out.2.block gs hgsx)
         generalize Sha.rounds (Sha.wordsOf (Sha.chunk X c)) S 64 = R at *
         have hA5 : Hid (SAt wo gs (partly S R 0) ∧ wo.grownBy wo (some gs)) := Lib.hid ⟨hSo.fun_ fun i _ => by unfold partly; rw [if_neg (by omega)], ⟨rfl, rfl, rfl, Nat.le_refl _, fun _ _ _ => rfl⟩⟩
         have hgvs : gv ≠ gs := by have := HGV.out; omega
         have HNE := Lib.hid hgvs
         have HGVL : Hid (gv < wo.heap.size) := Lib.hid (Array.getElem?_eq_some_iff.1 HVR.out).1
         clear hd hSo hgvs HWX HKX HSX HROW
         go_wp2_with fail
         go_loopw [199] (fun i wr => ∃ k : Nat, k ≤ 8 ∧ i = .int .i64 k ∧ Hid (SAt wr gs (partly S R k) ∧ wo.grownBy wr (some gs))) (fun i _ => 8 - (intOf i).toNat)
         case atStart => exact ⟨0, by omega, rfl, hA5⟩
         case round =>
          obtain ⟨k, hk, rfl, hd⟩ := hrel
          clear hA5
          by_cases hlt3 : k < 8
          ·have hcl := hd.out.1.at_ hlt3
           have e1 : partly S R k k = S.get k := by unfold partly; rw [if_neg (by omega)]
           rw [e1] at hcl
           have hfr := hd.out.1.frozen k
           have hcv : wr.cell? ⟨gv, k, none⟩ = some (.int .u32 (R.get k : Int)) := by
            rw [cell_of_row wr gv k (s8v R) _ (0, 0) ((hd.out.2.block gv HGVL.out (fun e => by injection e with e; exact HNE.out e)).trans HVR.out)]
            exact s8v_get R k hlt3
           have hD : Hid (SAt (wr.setCell ⟨gs, k, none⟩ (.int .u32 ((((S.get k : Nat) : Int) + ((R.get k : Nat) : Int)) % 4294967296))) gs (partly S R (k + 1)) ∧ wo.grownBy (wr.setCell ⟨gs, k, none⟩ (.int .u32 ((((S.get k : Nat) : Int) + ((R.get k : Nat) : Int)) % 4294967296))) (some gs)) := by
            rw [show (((S.get k : Nat) : Int) + ((R.get k : Nat) : Int)) % 4294967296 = ((Sha.add (S.get k) (R.get k) : Nat) : Int) by unfold Sha.add; omega]
            refine Lib.hid ⟨hd.out.1.store fun i hi => ?_, hd.out.2.trans (grown_set _ _ _ _)⟩
            by_cases e : i = k
            ·subst e; rw [if_pos rfl]; unfold partly; rw [if_pos (by omega)]
            ·rw [if_neg e]; unfold partly
             by_cases h9 : i < k
             ·rw [if_pos (by omega), if_pos h9]
             ·rw [if_neg (by omega), if_neg h9]
           have k8 : (k : Int) < 8 := by omega
           clear hd e1
           generalize S.get k = sk at *
           generalize R.get k = tk at *
           go_wp2_with fail
           go_region
           all_goals
            clear hcl
            go_wp2_with fail
            go_roundw
            case rel => exact ⟨k + 1, by omega, by go_num, Lib.hid ⟨hD.out.1.keep rfl, ⟨hD.out.2.os, hD.out.2.tape, hD.out.2.output, hD.out.2.size, hD.out.2.block⟩⟩⟩
            case measure => simp [intOf]; omega
          ·obtain rfl : 8 = k := by omega
           have hfin : Hid (SAt wr gs (Sha.stN X (c + 1)).get ∧ w9.grownBy wr (some gs)) := Lib.hid ⟨hd.out.1.fun_ fun i hi => by rw [HSN.out]; exact partly_all S R i hi, HGl.out.trans (HGO.out.trans hd.out.2)⟩
           clear hd hlt3
           go_wp2_with fail
           go_roundw
           case rel => exact ⟨c + 1, by omega, by have := HAT.out; show _ = Value.int .i64 _; congr 1; omega, hfin⟩
           case measure => have := HAT.out; have := HLM.out; simp [intOf]; omega
    ·obtain rfl : M = c := by omega
     clear hlt
     have hLe : 64 * M = L := HLM.out.symm
     rw [hLe]
     have HRW := Lib.hid (SAt.row hd.out.1)
     have HGW := Lib.hid hd.out.2
     have HSL : Hid ((Sha.stN X M).lt) := Lib.hid (by cases M with | zero => exact Sha.start_ok.1 | succ c => exact Sha.mix_ok _ _)
     generalize Sha.stN X M = s at *
     clear hd hLe
     go_wp2_with (refine wpList_load_row rfl _ (.tmp 3) rfl gs rfl _ _ _ _ HRW.out Tryz.underlying134 rfl (by kernel_rfl) ?_)
     have hC0 : Hid (wl.ownsRow wl.heap.size 5 1 (.slice none (4 * 0) 0) (4 * 0) (bv (bytesK s 0)) ∧ Below wl.heap.size wl wl) := Lib.hid ⟨World.ownsRow_nil _ _ _ _, Below.refl _ _⟩
     go_loopw [17, 212] (fun b i W => ∃ k : Nat, k ≤ 8 ∧ i = .int .i64 k ∧ ∃ A c, b = .slice A (4 * k) c ∧ Hid (W.ownsRow wl.heap.size 5 1 (.slice A (4 * k) c) (4 * k) (bv (bytesK s k)) ∧ Below wl.heap.size wl W)) (fun _ i _ => 8 - (intOf i).toNat)
     case atStart => exact ⟨0, by omega, rfl, _, _, rfl, hC0⟩
     case round =>
      obtain ⟨k, hk, rfl, A, c, rfl, hd⟩ := hrel
      clear hC0
      by_cases hlt : k < 8
      ·have hix := run_index_row (P := Tryz.prog) Tryz.underlying134 hj hy1 isAgg_u32 (s8v s) k _ hlt (s8v_get s k hlt)
       have HXL := Lib.hid (Sha.get_lt s HSL.out k)
       have HBK : Hid (bytesK s (k + 1) = bytesK s k ++ Sha.four (s.get k)) := Lib.hid rfl
       have HO := Lib.hid hd.out.1
       have HBL := Lib.hid hd.out.2
       have k8 : (k : Int) < 8 := by omega
       clear hd
       generalize s.get k = x at *
       go_wp2_with fail
       refine (four_any x HXL.out wr).mono ?_
       rintro e wf ⟨Af, nf, cf, rfl, hnf, hownf, hbf⟩
       have hnf' : nf = 4 := hnf.out
       subst hnf'
       have HRF := Lib.hid (Row.of_own hownf)
       have HOF := Lib.hid (own_below HO.out hbf)
       have hzr := HBL.out.size
       have HZF : Hid (wl.heap.size ≤ wf.heap.size) := Lib.hid (by have := hbf.size; omega)
       have HBF := Lib.hid (HBL.out.trans (hbf.mono hzr))
       clear hnf hownf hbf hix
       go_wp2_with (at_builtin; refine wpList_app rfl (.tmp 215) (.tmp 217) 22 rfl wl.heap.size 5 i0 (.int .u8 0) 1 Tryz.underlying22 hi hz0 hz1 hz2 rfl _ (4 * k) _ rfl HOF.out _ Af 4 cf _ rfl HRF.out (bv_one _) (by unfold maxLen; omega) (by omega) HZF.out ?_; intro v2 w2 hown2 hg2 hat2)
       obtain ⟨A2, c2, rfl, _⟩ := own_slice hown2
       have hD : Hid (w2.ownsRow wl.heap.size 5 1 (.slice A2 (4 * (k + 1)) c2) (4 * (k + 1)) (bv (bytesK s (k + 1))) ∧ Below wl.heap.size wl w2) := by
        refine Lib.hid ⟨?_, below_app HBF.out HZF.out HOF.out (Nat.le_refl _) hg2⟩
        rw [HBK.out, bv_append]
        exact hown2
       clear hown2 hg2 hat2
       go_wp2_with fail
       go_roundw
       case rel => exact ⟨k + 1, by omega, by go_num, A2, c2, rfl, hD⟩
       case measure => simp [intOf]; omega
      ·obtain rfl : 8 = k := by omega
       have hBW : Below w.heap.size w wl := (HB3.out.trans (HB9.out.mono (by have := HGT.out; omega))).grown HGW.out (by have := HB9.out.size; have := HTT.out; have := HGT.out; omega) (by intro r hr; injection hr with hr; omega)
       have HFIN := Lib.hid (own_base hd.out.1 hBW.size)
       have HBE := Lib.hid (hBW.trans (hd.out.2.mono hBW.size))
       rw [bytesK_all, ← HD.out] at HFIN
       clear hd hBW hlt
       go_wp2_with fail
       go_ret
       exact ⟨A, c, rfl, HFIN, HBE⟩
end Go.Proofs.YtmncpgfdpcckpaaGreatDoor.Sh
