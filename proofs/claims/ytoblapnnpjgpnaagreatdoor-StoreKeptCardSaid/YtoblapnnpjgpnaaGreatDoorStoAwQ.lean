/- layer 23's small, awake: by contract. -/
import Derived.Laws.Rows
import Derived.Test.YtoblapnnpjgpnaaGreatDoorStoOpenQ
namespace Go.Proofs.YtoblapnnpjgpnaaGreatDoor.Sto
open Go.RowKit
open VecM RdM Vc Sp Pc El Cd Dc
set_option maxRecDepth 100000 in
theorem small_any (n c : Nat) (A : Option Addr) (w : World) : Calls Tryz.prog 8 #[.slice A n c] w fun e w' => e = .returned (manV 1 2 3 2 1 A n c) ∧ Hid (Below w.heap.size w w') := by
  have HB : Hid (Below w.heap.size w (w.alloc (.cells #[.int .u32 1, .int .u32 2, .int .i64 3, .int .i64 2, .int .i64 1, .slice A n c] 33))) := (Below.refl _ _).alloc (Nat.le_refl _) _
  have HX := Lib.hid (heap_alloc_new w (.cells #[.int .u32 1, .int .u32 2, .int .i64 3, .int .i64 2, .int .i64 1, .slice A n c] 33))
  go_enter Tryz.func8, Tryz.ntmps8
  go_wp2_with fail
  refine bodyPost_ret (results_cell_row rfl _ _ w.heap.size _ _ (0, 0) _ rfl HX.out Tryz.underlying33 rfl (by kernel_rfl)) rfl ?_
  exact ⟨rfl, HB⟩
theorem aw23_1 : (redM (matR 1 2 1 2 1) (spX 1 2 1 0) [] (2 + 1)).1 ≠ 0 := by decide +kernel
theorem aw23_2 : (addMx (2 + 1) (matR 1 2 1 2 1) (spX 1 2 1 0) [1, 2]).2 = true := by decide +kernel
theorem aw23_3 : (redM (addMx (2 + 1) (matR 1 2 1 2 1) (spX 1 2 1 0) [1, 2]).1 (spX 1 2 1 0) [] (2 + 1)).1 = 0 := by decide +kernel
theorem aw23_4 : rankM (addMx (2 + 1) (matR 1 2 1 2 1) (spX 1 2 1 0) [1, 2]).1 = 2 := by decide +kernel
theorem cnt32 : BlkM.count ((3 : Nat) : Int) ((2 : Nat) : Int) = 2 := by decide +kernel
/-- the first Put into a new store, and the second one -/
theorem aw23_put : ∃ q1 : StD, (openQ 1 1 2 1 2 3 ((flNew 10).fill 0 3584)).put 0 [1, 2] = (q1, 0) ∧ q1.put 0 [1, 2] = (q1, 8) ∧ q1.t = 1 ∧ q1.K = 2 ∧ q1.P = 1 ∧ rankM q1.M = 2 := by
  have hbl : opW ((flNew 10).fill 0 3584) 1 2 8 = ⟨1, 2, [], -1, 0⟩ := blank_new (by omega) fun i _ hi => by
    show (if 0 ≤ i ∧ i < 0 + 3584 then (255 : UInt8) else _) = 255
    rw [if_pos (by omega)]
  have hac := add_cases (f := (flNew 10).fill 0 3584) (gen := 1) (size := 2) (S := 0) (j := 0) (id := 0) (d := [1, 2]) (by omega) (by omega) (by simp) (by omega) (by omega) rfl (by rw [hbl]; decide) (by rw [hbl]; rfl) (by rw [hbl]; rfl)
  rw [hbl] at hac
  have hth : ((flNew 10).fill 0 3584).there = false := rfl
  have hsec : allFF (secB ((flNew 10).fill 0 3584) 0) = true := by
    refine allFF_of fun q hq => ?_
    rw [secB_length] at hq
    unfold secB
    rw [sub_get _ _ _ _ hq]
    show (if _ then (255 : UInt8) else _) = 255
    rw [if_pos (by omega)]
  have hQ : openQ 1 1 2 1 2 3 ((flNew 10).fill 0 3584) = ⟨1, 2, 1, 2, 3, ⟨1, 2, [], -1, 0⟩, (flNew 10).fill 0 3584, matR 1 2 1 2 1, 0⟩ := by
    unfold openQ
    rw [hbl]
    rfl
  rw [hQ]
  generalize (flNew 10).fill 0 3584 = f0 at *
  obtain ⟨f2, e2⟩ : ∃ f2, (⟨1, 2, [], -1, 0⟩ : Wh).add f0 0 [1, 2] = (opW f2 1 2 8, f2, 0) := by
    rcases hac with ⟨f2, a1, _⟩ | ⟨a0, _⟩ | ⟨_, _, _, a4⟩
    · exact ⟨f2, a1⟩
    · rw [hth] at a0; cases a0
    · rw [hsec] at a4; cases a4
  have h1 := aw23_1
  have h2 := aw23_2
  have h3 := aw23_3
  have h4 := aw23_4
  generalize opW f2 1 2 8 = x2 at *
  obtain ⟨R, hR⟩ : ∃ R, addMx (2 + 1) (matR 1 2 1 2 1) (spX 1 2 1 0) [1, 2] = R := ⟨_, rfl⟩
  rw [hR] at h2 h3 h4
  refine ⟨⟨1, 2, 1, 2, 3, x2, f2, R.1, 1⟩, ?_, ?_, rfl, rfl, rfl, h4⟩
  · unfold StD.put
    dsimp only
    rw [if_pos (show ([1, 2] : List UInt8).length = 2 from rfl), if_neg h1, e2, hR, h2]
    clear hR h1 h2 h3 h4
    generalize matR 1 2 1 2 1 = M0
    exact if_pos rfl
  · unfold StD.put
    dsimp only
    rw [if_pos (show ([1, 2] : List UInt8).length = 2 from rfl), if_pos h3]
theorem row12 (w : World) : Row (w.alloc (.cells #[.int .u8 1, .int .u8 2] 5)) (w.alloc (.cells #[.int .u8 1, .int .u8 2] 5)).heap.size (some ⟨w.heap.size, 0, none⟩) 2 (bv [1, 2]) := by
  have := row_new w #[.int .u8 1, .int .u8 2] 5 (0, 0)
  rw [show bv [1, 2] = [Value.int .u8 1, Value.int .u8 2] from rfl]
  simpa using this
set_option maxRecDepth 100000 in
set_option maxHeartbeats 3200000 in
theorem awake23_any (w : World) (ht : DTab w) : Calls Tryz.prog 12 #[] w fun e w' => e = .returned (.bool true) ∧ Hid (Below w.heap.size w w') := by
  obtain ⟨i0, hi, hz0, hz1, hz2⟩ := info_parts Tryz.info5
  have HT := Lib.hid ht
  clear ht
  go_enter Tryz.func12, Tryz.ntmps12
  go_wp2_with fail
  refine (new_any 10 w (by omega)).mono ?_
  rintro e w1 ⟨gf, rfl, hgf, hf, hb⟩
  have HOK := Lib.hid (new_ok 10 (by decide))
  have HD : Hid (((flNew 10).fill 0 3584).down = false) := rfl
  obtain ⟨q1, hp1, hp2, hq1, hq2, hq3, hq4⟩ := aw23_put
  have hok0 := openQ_ok 1 1 2 1 2 3 0 ((flNew 10).fill 0 3584) (by exact HOK.out) (by omega) (by omega) (by omega) (by omega) (by omega)
  generalize hQ0 : openQ 1 1 2 1 2 3 ((flNew 10).fill 0 3584) = Q0 at *
  have hok1 := hok0.put (by omega) 0 [1, 2]
  rw [hp1] at hok1
  have HB1 := Lib.hid hb.out
  have HF1 := Lib.hid hf.out
  have HK0 := Lib.hid hok0
  have HK1 := Lib.hid hok1
  have HP1 := Lib.hid hp1
  have HP2 := Lib.hid hp2
  have HQ1 := Lib.hid (show q1.t = 1 ∧ q1.K = 2 ∧ q1.P = 1 ∧ rankM q1.M = 2 from ⟨hq1, hq2, hq3, hq4⟩)
  have HQ0 := Lib.hid hQ0
  clear hp1 hp2 hq1 hq2 hq3 hq4 hok0 hok1 hb hf HOK hQ0
  generalize (flNew 10).fill 0 3584 = f0 at *
  go_wp2_with (at_make; refine wpList_make_full w1 rfl _ _ 23 rfl w1.heap.size 5 i0 (.int .u8 0) 1 Tryz.underlying23 hi hz0 hz1 .i64 .i64 _ _ 32 rfl rfl rfl rfl (by rw [hz2]; omega) (by unfold maxLen; omega) (Nat.le_refl _) ?_; intro w2 hown2 hg2)
  have hb2 : Below w1.heap.size w1 w2 := (Below.refl _ _).grown hg2 (Nat.le_refl _) (by intro g h; cases h)
  have HB2 := Lib.hid (HB1.out.trans (hb2.mono HB1.out.size))
  have HF2 := Lib.hid (HF1.out.below hb2)
  have HGF : Hid (w.heap.size ≤ gf) := Lib.hid hgf
  clear hown2 hg2 hb2 HB1 HF1 hgf
  refine (small_any _ _ _ w2).mono ?_
  rintro e w3 ⟨rfl, hb3⟩
  have HB3 := Lib.hid (HB2.out.trans (hb3.out.mono HB2.out.size))
  have HF3 := Lib.hid (HF2.out.below hb3.out)
  clear hb3 HB2 HF2
  have HOP := Lib.hid (fun n c A => opens_any gf 1 1 2 3 2 1 2 n c A f0 w3 HF3.out HD.out (by omega) (by omega) cnt32 (by omega) (by omega) (by omega) (HT.out.grow HB3.out))
  rw [HQ0.out] at HOP
  go_wp2_with fail
  refine (HOP.out _ _ _).mono ?_
  rintro e w4 ⟨gs, rfl, hs4, hb4⟩
  have HS4 := Lib.hid hs4.out
  have HB4 := Lib.hid (HB3.out.trans (hb4.out.mono HB3.out.size))
  obtain ⟨F4, hF4⟩ : ∃ F : Nat → Prop, F = (fun b => b = gf ∨ (w3.heap.size ≤ b ∧ b < w4.heap.size)) := ⟨_, rfl⟩
  rw [← hF4] at HS4
  have HG4 : Hid (∀ b, F4 b → w.heap.size ≤ b ∧ b < w4.heap.size) := Lib.hid (fun b hb => by
    have hb : b = gf ∨ (w3.heap.size ≤ b ∧ b < w4.heap.size) := by rw [hF4] at hb; exact hb
    have h1 := HGF.out
    have h2 := HB3.out.size
    have h3 := hb4.out.size
    have h4 := HF3.out.lt
    rcases hb with rfl | hb <;> omega)
  clear hs4 hb4 HOP HF3 HQ0 hF4
  have hal4 : Below w4.heap.size w4 (w4.alloc (.cells #[.int .u8 1, .int .u8 2] 5)) := (Below.refl _ _).alloc (Nat.le_refl _) _
  have HR4 := Lib.hid (row12 w4)
  have HA4 : Hid (w4.heap.size < (w4.alloc (.cells #[.int .u8 1, .int .u8 2] 5)).heap.size) := Lib.hid (by simp)
  have HS4' := Lib.hid (HS4.out.keep (fun b _ hl => hal4.block b hl) hal4.size)
  have HB4' := Lib.hid (HB4.out.trans (hal4.mono HB4.out.size))
  clear hal4 HS4
  go_wp2_with fail
  generalize (w4.alloc (.cells #[.int .u8 1, .int .u8 2] 5)) = w5 at *
  have HPU := Lib.hid (put_any gf gs Q0 F4 0 (by omega) 0 2 2 (some ⟨w4.heap.size, 0, none⟩) [1, 2] w5 HS4'.out HK0.out (fun W hW => HT.out.grow (HB4'.out.trans (hW.below (fun b hb => (HG4.out b hb).1) HB4'.out.size))) HR4.out (fun b o e _ hF => by
    injection e with e
    injection e with e
    have := HG4.out b hF
    omega) (by omega))
  rw [HP1.out] at HPU
  refine HPU.out.mono ?_
  rintro e w6 ⟨rfl, hs6, hf6⟩
  have HB6 : Hid (Below w.heap.size w w6) := Lib.hid (HB4'.out.trans (hf6.out.below (fun b hb => (HG4.out b hb).1) HB4'.out.size))
  have HS6 := Lib.hid hs6.out
  obtain ⟨F6, hF6⟩ : ∃ F : Nat → Prop, F = (fun b => F4 b ∨ (w5.heap.size ≤ b ∧ b < w6.heap.size)) := ⟨_, rfl⟩
  rw [← hF6] at HS6
  have HG6 : Hid (∀ b, F6 b → w.heap.size ≤ b ∧ b < w6.heap.size) := Lib.hid (fun b hb => by
    have hb : F4 b ∨ (w5.heap.size ≤ b ∧ b < w6.heap.size) := by rw [hF6] at hb; exact hb
    have h1 := HA4.out
    have h2 := HB4.out.size
    have h3 := hf6.out.size
    rcases hb with hb | hb
    · have := HG4.out b hb; omega
    · omega)
  clear hs6 hf6 HPU HS4' HR4 HA4 HB4 HB4' HG4 hF6
  have hal6 : Below w6.heap.size w6 (w6.alloc (.cells #[.int .u8 1, .int .u8 2] 5)) := (Below.refl _ _).alloc (Nat.le_refl _) _
  have HR6 := Lib.hid (row12 w6)
  have HA6 : Hid (w6.heap.size < (w6.alloc (.cells #[.int .u8 1, .int .u8 2] 5)).heap.size) := Lib.hid (by simp)
  have HS6' := Lib.hid (HS6.out.keep (fun b _ hl => hal6.block b hl) hal6.size)
  have HB6' := Lib.hid (HB6.out.trans (hal6.mono HB6.out.size))
  clear hal6 HS6
  go_wp2_with fail
  generalize (w6.alloc (.cells #[.int .u8 1, .int .u8 2] 5)) = w7 at *
  have HPU := Lib.hid (put_any gf gs q1 F6 1 (by omega) 0 2 2 (some ⟨w6.heap.size, 0, none⟩) [1, 2] w7 HS6'.out HK1.out (fun W hW => HT.out.grow (HB6'.out.trans (hW.below (fun b hb => (HG6.out b hb).1) HB6'.out.size))) HR6.out (fun b o e _ hF => by
    injection e with e
    injection e with e
    have := HG6.out b hF
    omega) (by omega))
  rw [HP2.out] at HPU
  refine HPU.out.mono ?_
  rintro e w8 ⟨rfl, hs8, hf8⟩
  have HB8 : Hid (Below w.heap.size w w8) := Lib.hid (HB6'.out.trans (hf8.out.below (fun b hb => (HG6.out b hb).1) HB6'.out.size))
  have HKE := Lib.hid (kept_any gf gs q1 _ w8 hs8.out)
  have HNE := Lib.hid (sneeds_any gf gs q1 1 _ w8 hs8.out HK1.out)
  rw [HQ1.out.1] at HKE
  rw [HQ1.out.2.1, HQ1.out.2.2.1, HQ1.out.2.2.2] at HNE
  clear hs8 hf8 HPU HS6' HR6 HA6 HB6 HB6' HG6
  go_wp2_with fail
  refine HKE.out.mono ?_
  rintro e w9 ⟨rfl, rfl⟩
  go_wp2_with fail
  refine HNE.out.mono ?_
  rintro e w9 ⟨rfl, hb9⟩
  go_wp2_with fail
  go_ret
  exact ⟨rfl, Lib.hid (HB8.out.trans (hb9.out.mono HB8.out.size))⟩
end Go.Proofs.YtoblapnnpjgpnaaGreatDoor.Sto
