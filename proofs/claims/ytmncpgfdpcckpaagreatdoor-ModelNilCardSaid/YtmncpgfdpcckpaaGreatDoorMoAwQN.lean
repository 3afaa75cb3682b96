/- Law 25's awake. -/
import Derived.Test.YtmncpgfdpcckpaaGreatDoorMoAwMQN
import Derived.Test.YtmncpgfdpcckpaaGreatDoorZMHQN
import Derived.Test.YtmncpgfdpcckpaaGreatDoorZZJQN
import Derived.Test.YtmncpgfdpcckpaaGreatDoorL24QN
import Derived.Test.YtmncpgfdpcckpaaGreatDoorCarWrQN
set_option maxRecDepth 100000
namespace Go.Proofs.YtmncpgfdpcckpaaGreatDoor.Mo
open Go.RowKit
open FrM (frame)
open VecM RdM Vc Sp Pc El Cd Dc
theorem unm_frame (k : UInt8) (m : List UInt8) (h : m.length ≤ 291) : UnM (frame k m) k.toNat m 0 := by
 have hl := FrM.frame_length k m
 have h1 := UnM.ok (l := frame k m) (by omega) (by omega) (frame_head k m h) (FrM.frame_right k m)
 rwa [FrM.frame_2, FrM.frame_load] at h1
theorem keyR (w : World) : Row (w.alloc (.cells #[.int .u8 107, .int .u8 101, .int .u8 121] 5 (3, 4))) (w.alloc (.cells #[.int .u8 107, .int .u8 101, .int .u8 121] 5 (3, 4))).heap.size (some ⟨w.heap.size, 0, none⟩) 3 (bv [107, 101, 121]) := (row_new w #[.int .u8 107, .int .u8 101, .int .u8 121] 5 (3, 4)).more (by simp)
theorem oldR (w : World) : Row (w.alloc (.cells #[.int .u8 111, .int .u8 108, .int .u8 100] 5 (3, 4))) (w.alloc (.cells #[.int .u8 111, .int .u8 108, .int .u8 100] 5 (3, 4))).heap.size (some ⟨w.heap.size, 0, none⟩) 3 (bv [111, 108, 100]) := (row_new w #[.int .u8 111, .int .u8 108, .int .u8 100] 5 (3, 4)).more (by simp)
theorem imgR (w : World) : Row (w.alloc (.cells #[.int .u8 110, .int .u8 101, .int .u8 119, .int .u8 33] 5 (4, 5))) (w.heap.size + 1) (some ⟨w.heap.size, 0, none⟩) 4 (bv [110, 101, 119, 33]) := row_new w #[.int .u8 110, .int .u8 101, .int .u8 119, .int .u8 33] 5 (4, 5)
theorem aw25_m : manB ((4 : Nat) : Int) ((2 : Nat) : Int) ((1 : Nat) : Int) 32 = true := by decide +kernel
set_option maxHeartbeats 6400000 in
theorem awake25_any (w : World) (ht : Sh.Tab w) (hd : DTab w) : Calls Tryz.prog 14 #[] w fun e w' => e = .returned (.bool true) ∧ Below w.heap.size w w' := by
 have kc := fun (w : World) (C : Array Value) (n c : Nat) => Lib.run_convert_bytes_const (P := Tryz.prog) w 22 5 C n c Tryz.underlying22 Tryz.underlying5
 have hba : Below w.heap.size w (w.alloc (.cells #[.int .u8 107, .int .u8 101, .int .u8 121] 5 (3, 4))) := (Below.refl _ _).alloc (Nat.le_refl _) _
 have hbb : Below (w.alloc (.cells #[.int .u8 107, .int .u8 101, .int .u8 121] 5 (3, 4))).heap.size (w.alloc (.cells #[.int .u8 107, .int .u8 101, .int .u8 121] 5 (3, 4))) ((w.alloc (.cells #[.int .u8 107, .int .u8 101, .int .u8 121] 5 (3, 4))).alloc (.cells #[.int .u8 111, .int .u8 108, .int .u8 100] 5 (3, 4))) := (Below.refl _ _).alloc (Nat.le_refl _) _
 have hb2 : Below w.heap.size w ((w.alloc (.cells #[.int .u8 107, .int .u8 101, .int .u8 121] 5 (3, 4))).alloc (.cells #[.int .u8 111, .int .u8 108, .int .u8 100] 5 (3, 4))) := hba.trans (hbb.mono hba.size)
 have HB2 := Lib.hid hb2
 have hza : (w.alloc (.cells #[.int .u8 107, .int .u8 101, .int .u8 121] 5 (3, 4))).heap.size = w.heap.size + 1 := by simp
 have hcv : (convert 22 22 (.slice (some ⟨w.heap.size + 1, 0, none⟩) 3 3)).run Tryz.prog ((w.alloc (.cells #[.int .u8 107, .int .u8 101, .int .u8 121] 5 (3, 4))).alloc (.cells #[.int .u8 111, .int .u8 108, .int .u8 100] 5)) = .ok (.slice (some ⟨w.heap.size + 1, 0, none⟩) 3 3) ((w.alloc (.cells #[.int .u8 107, .int .u8 101, .int .u8 121] 5 (3, 4))).alloc (.cells #[.int .u8 111, .int .u8 108, .int .u8 100] 5 (3, 4))) := by
  have h := kc (w.alloc (.cells #[.int .u8 107, .int .u8 101, .int .u8 121] 5 (3, 4))) #[.int .u8 111, .int .u8 108, .int .u8 100] 3 3
  rw [hza] at h
  exact h
 obtain ⟨h0, hh0⟩ : ∃ h0, Sha.D [111, 108, 100] = h0 := ⟨_, rfl⟩
 have H0 : Hid (h0.length = 32) := Lib.hid (by rw [← hh0]; exact Sha.D_length _)
 have HNW : Hid (Calls Tryz.prog 16 #[.slice (some ⟨w.heap.size, 0, none⟩) 3 3, .int .u32 1, .slice (some ⟨w.heap.size + 1, 0, none⟩) 3 3] ((w.alloc (.cells #[.int .u8 107, .int .u8 101, .int .u8 121] 5 (3, 4))).alloc (.cells #[.int .u8 111, .int .u8 108, .int .u8 100] 5 (3, 4))) (NewMOk (aw0 h0) ((w.alloc (.cells #[.int .u8 107, .int .u8 101, .int .u8 121] 5 (3, 4))).alloc (.cells #[.int .u8 111, .int .u8 108, .int .u8 100] 5 (3, 4))))) := Lib.hid (by
  have h := newM_any (v := 1) (ck := 3) (ci := 3) (Ak := some ⟨w.heap.size, 0, none⟩) (Ai := some ⟨w.heap.size + 1, 0, none⟩) (key := [107, 101, 121]) (img := [111, 108, 100]) (w := ((w.alloc (.cells #[.int .u8 107, .int .u8 101, .int .u8 121] 5 (3, 4))).alloc (.cells #[.int .u8 111, .int .u8 108, .int .u8 100] 5 (3, 4)))) (ht.below hb2 ht.1) (((keyR w).below hbb).more hbb.size) (by decide) (by have := oldR (w.alloc (.cells #[.int .u8 107, .int .u8 101, .int .u8 121] 5 (3, 4))); rwa [hza] at this) (by decide) (by decide)
  rw [hh0] at h
  exact h)
 have HDT := Lib.hid hd
 have HTB := Lib.hid ht
 clear ht hd hba hbb hb2 hza hh0
 go_enter Tryz.func14, Tryz.ntmps14
 go_wp2_with fail
 generalize ((w.alloc (.cells #[.int .u8 107, .int .u8 101, .int .u8 121] 5 (3, 4))).alloc (.cells #[.int .u8 111, .int .u8 108, .int .u8 100] 5 (3, 4))) = w2 at *
 refine HNW.out.mono ?_
 rintro e w3 ⟨g, rfl, hm3, hb3⟩
 obtain ⟨F0, hF0⟩ : ∃ F0 : Nat → Prop, (fun b => w2.heap.size ≤ b ∧ b < w3.heap.size) = F0 := ⟨_, rfl⟩
 have HFD : Hid (∀ b, F0 b → w2.heap.size ≤ b ∧ b < w3.heap.size) := Lib.hid (by rw [← hF0]; exact fun b hb => hb)
 have hm3' := hm3.out
 rw [hF0] at hm3'
 have IM3 := Lib.hid hm3'
 have HB3 := Lib.hid hb3.out
 clear hm3 hm3' hb3 HNW hF0
 have HB34 : Hid (Below w3.heap.size w3 (w3.alloc (.cells #[.int .u8 110, .int .u8 101, .int .u8 119, .int .u8 33] 5 (4, 5)))) := Lib.hid ((Below.refl _ _).alloc (Nat.le_refl _) _)
 have HX4 := Lib.hid (imgR w3)
 have HL4 : Hid ((w3.alloc (.cells #[.int .u8 110, .int .u8 101, .int .u8 119, .int .u8 33] 5 (4, 5))).heap.size = w3.heap.size + 1) := Lib.hid (by simp)
 have HWR := Lib.hid (Car.wrapped_all 5 2 4 4 2 1 (some ⟨w3.heap.size, 0, none⟩) [110, 101, 119, 33] (w3.alloc (.cells #[.int .u8 110, .int .u8 101, .int .u8 119, .int .u8 33] 5 (4, 5))) (HX4.out.more (by rw [HL4.out]; exact Nat.le_refl _)) (by omega) (by decide) (by decide) aw25_m)
 go_wp2_with fail
 generalize w3.alloc (.cells #[.int .u8 110, .int .u8 101, .int .u8 119, .int .u8 33] 5 (4, 5)) = w4 at *
 refine HWR.out.mono ?_
 rintro e w5 ⟨A5, n5, c5, A1m, c1m, rfl, hn5, hr5, hb5, hc5⟩
 have HN5 : Hid ((frame 1 (awB (Sha.D [110, 101, 119, 33]))).length = n5) := Lib.hid hn5.out.symm
 have R5 : Hid (RowP w5 (fun b => w4.heap.size ≤ b) A5 n5 (bv (frame 1 (awB (Sha.D [110, 101, 119, 33]))))) := Lib.hid hr5.out
 have HB45 := Lib.hid hb5.out
 have HC5' := Lib.hid hc5.out
 clear HWR hn5 hr5 hb5 hc5
 go_upto_region 6 with fail
 have HX6 := Lib.hid (heap_alloc_new w5 (.cells #[.int .u32 5, .int .u32 2, .int .i64 4, .int .i64 2, .int .i64 1, .slice A1m 32 c1m] 37))
 have HB56 : Hid (Below w5.heap.size w5 (w5.alloc (.cells #[.int .u32 5, .int .u32 2, .int .i64 4, .int .i64 2, .int .i64 1, .slice A1m 32 c1m] 37))) := Lib.hid ((Below.refl _ _).alloc (Nat.le_refl _) _)
 have HL6 : Hid (w5.heap.size < (w5.alloc (.cells #[.int .u32 5, .int .u32 2, .int .i64 4, .int .i64 2, .int .i64 1, .slice A1m 32 c1m] 37)).heap.size) := Lib.hid (by simp)
 generalize w5.alloc (.cells #[.int .u32 5, .int .u32 2, .int .i64 4, .int .i64 2, .int .i64 1, .slice A1m 32 c1m] 37) = w6 at *
 have HB36 : Hid (Below w3.heap.size w3 w6) := Lib.hid (HB34.out.trans ((HB45.out.trans (HB56.out.mono HB45.out.size)).mono HB34.out.size))
 have HB6 : Hid (Below w.heap.size w w6) := Lib.hid (HB2.out.trans ((HB3.out.trans (HB36.out.mono HB3.out.size)).mono HB2.out.size))
 have HZ : Hid (w.heap.size ≤ w2.heap.size ∧ w2.heap.size ≤ w3.heap.size ∧ w4.heap.size = w3.heap.size + 1 ∧ w4.heap.size ≤ w5.heap.size ∧ w5.heap.size < w6.heap.size) := Lib.hid ⟨HB2.out.size, HB3.out.size, HL4.out, HB45.out.size, HL6.out⟩
 have HBA : Hid (∀ W, FrP w6 F0 W → Below w.heap.size w W) := Lib.hid fun W hW => HB6.out.trans (Fr.below hW (fun b hb => by have := HFD.out b hb; have := HZ.out; omega) HB6.out.size)
 have HT : Hid (∀ W, Fr w6 W F0 → Sh.Tab W ∧ DTab W) := Lib.hid fun W hW => ⟨HTB.out.below (HBA.out W hW) HTB.out.1, HDT.out.grow (HBA.out W hW)⟩
 have HMX : Hid (∀ W, FrP w6 F0 W → W.heap[w5.heap.size]? = some (.cells #[.int .u32 5, .int .u32 2, .int .i64 4, .int .i64 2, .int .i64 1, .slice A1m 32 c1m] 37 (0, 0))) := Lib.hid fun W hW => (Fr.block hW w5.heap.size HL6.out (fun hb => by have := HFD.out _ hb; have := HZ.out; omega)).trans HX6.out
 have HIR : Hid (∀ W, FrP w6 F0 W → Row W W.heap.size (some ⟨w3.heap.size, 0, none⟩) 4 (bv [110, 101, 119, 33])) := Lib.hid fun W hW => by
  refine ⟨rfl, fun _ => ⟨w3.heap.size, 0, rfl, by have := HZ.out; have := Fr.size hW; omega, fun j v hv => ?_⟩⟩
  have h4 : Below w4.heap.size w4 w6 := HB45.out.trans (HB56.out.mono HB45.out.size)
  obtain ⟨b, o, e, hl, hcell⟩ := HX4.out.2 (by omega)
  injection e with e
  injection e with e1 e2
  subst e1 e2
  rw [World.cell?_of_block (w := w6) (a := ⟨w3.heap.size, 0 + j, none⟩) (Fr.block hW w3.heap.size (by have := HZ.out; omega) (fun hb => by have := HFD.out _ hb; omega)), World.cell?_of_block (w := w4) (a := ⟨w3.heap.size, 0 + j, none⟩) (h4.block w3.heap.size (by have := HZ.out; omega))]
  exact hcell j v hv
 have HL5 : Hid ((awB (Sha.D [110, 101, 119, 33])).length ≤ 291) := Lib.hid (by
  have hm := (awM_may (Sha.D_length [110, 101, 119, 33])).1
  unfold awB
  rw [List.length_append, bytes_len, Sh.tagOf_length]
  show 12 + (Sha.D [110, 101, 119, 33]).length + 32 ≤ 291
  rw [Sha.D_length]; omega)
 have HR5 : Hid (Row w6.drew w6.drew.heap.size A5 (frame 1 (awB (Sha.D [110, 101, 119, 33]))).length (bv (frame 1 (awB (Sha.D [110, 101, 119, 33]))))) := Lib.hid (by rw [HN5.out]; exact (R5.out.below HB56.out).row)
 have HC5 : Hid ((frame 1 (awB (Sha.D [110, 101, 119, 33]))).length ≤ c5 ∧ c5 ≤ 9223372036854775807) := Lib.hid (by rw [HN5.out]; exact HC5'.out)
 have HI6 : Hid (IsMo g (aw0 h0) w6.drew F0) := Lib.hid ((IM3.out.below HB36.out).below (Below.refl _ _).drew)
 have HF0 : Hid (∀ b, b < w6.heap.size → F0 b → F0 b) := Lib.hid fun _ _ h => h
 clear HB2 HB3 HB34 HB45 HB56 HX4 HX6 HL4 HL6 IM3 R5 HC5' HB36 HDT HTB hcv kc
 refine wp_region_noPanic ?_
 refine wp_region_held_drew (S := (fun W => FrP w6 F0 W)) (by kernel_rfl) (Fr.of_below (Below.refl _ _).drew) (fun hH0 => ?_)
 have hH0 : FrP w6 F0 w6.drew := hH0
 generalize w6.drew = wd3000 at *
 refine zqt (i := 0) (d := some 30) rfl (s := hH0) (h := ?_)
 try simp only [Act.put, zqa, zqb, zqc]
 refine zqt (i := 1) (d := some 31) rfl (s := hH0) (h := ?_)
 try simp only [Act.put, zqa, zqb, zqc]
 refine zqt (i := 3) (d := some 33) rfl (s := hH0) (h := ?_)
 try simp only [Act.put, zqa, zqb, zqc]
 refine wpAnyH_take (i := 4) (oi := _) (v := .agg #[.int .u32 5, .int .u32 2, .int .i64 4, .int .i64 2, .int .i64 1, .slice A1m 32 c1m]) rfl (by kernel_rfl) (by kernel_rfl) (by kernel_rfl) (fun _ _ _ h => h) (yields_row (by rfl) _ (.tmp 5) rfl w5.heap.size rfl _ _ _ _ (fun W hW => HMX.out W hW) Tryz.underlying37 rfl (by kernel_rfl)) hH0 ?tkr3004
 try simp only [Act.put, zqa, zqb, zqc]
 refine zqt (i := 5) (d := some 35) rfl (s := hH0) (h := ?_)
 try simp only [Act.put, zqa, zqb, zqc]
 refine zqt (i := 8) (d := some 38) rfl (s := hH0) (h := ?_)
 try simp only [Act.put, zqa, zqb, zqc]
 refine wpAnyH_take (i := 9) (oi := _) (v := .agg #[.int .u32 5, .int .u32 2, .int .i64 4, .int .i64 2, .int .i64 1, .slice A1m 32 c1m]) rfl (by kernel_rfl) (by kernel_rfl) (by kernel_rfl) (fun _ _ _ h => h) (yields_row (by rfl) _ (.tmp 5) rfl w5.heap.size rfl _ _ _ _ (fun W hW => HMX.out W hW) Tryz.underlying37 rfl (by kernel_rfl)) hH0 ?tkr3007
 try simp only [Act.put, zqa, zqb, zqc]
 refine zqt (i := 10) (d := some 40) rfl (s := hH0) (h := ?_)
 try simp only [Act.put, zqa, zqb, zqc]
 refine wpAnyH_ready (rs := [2]) (by kernel_rfl) (by simp) ?_
 refine AllReadyH.cons (o := _) rfl (fun K hK => ?_) AllReadyH.nil
 go_simp
 have hpk3009 := pk_any (c := c5) HI6.out (aw0_ok H0.out) (by omega) (fun W hW => HT.out W (Fr.trans (hH0) hW HF0.out)) HR5.out HC5.out.1 HC5.out.2 (unm_frame 1 (awB (Sha.D [110, 101, 119, 33])) HL5.out)
 rw [show (1 : UInt8).toNat = 1 from rfl, aw_man H0.out (Sha.D_length _)] at hpk3009
 rw [HN5.out] at hpk3009
 refine hpk3009.mono ?_
 clear hpk3009
 rintro e' wn3009 ⟨rfl, him3009, hf3009⟩
 have IM3009 := Lib.hid him3009.out
 have HF3009 : Hid (∀ b, b < w6.heap.size → (F0 b ∨ (wd3000.heap.size ≤ b ∧ b < wn3009.heap.size)) → F0 b) := Lib.hid fun b hl hb => by
  rcases hb with hb | hb
  ·exact HF0.out b hl hb
  ·have := Fr.size (hH0); omega
 have hfr3009 := hf3009.out
 clear him3009 hf3009
 go_simp
 have hS3009 : FrP w6 F0 wn3009 := Fr.trans (hH0) hfr3009 HF0.out
 refine hK.out _ _ hS3009 (fun hH3009 => ?_)
 have hH3009 : FrP w6 F0 wn3009 := hH3009
 clear hK K hS3009
 try simp only [Act.put, zqa, zqb, zqc]
 refine wpAnyH_ready (rs := [6]) (by kernel_rfl) (by simp) ?_
 refine AllReadyH.cons (o := _) rfl (fun K hK => ?_) AllReadyH.nil
 go_simp
 refine (lpk_any 5 2 4 2 1 2 1 A1m (some ⟨w3.heap.size, 0, none⟩) 32 c1m 4 4 [110, 101, 119, 33] wn3009 (by decide) (by decide) (by omega) (by omega) (by omega) (HIR.out wn3009 (hH3009)) (by omega) (by omega) (by decide +kernel) rfl).mono ?_
 rintro e' wn3010 ⟨A3010, n3010, c3010, rfl, hn3010, ho3010, hbb3010⟩
 have hb3010 := hbb3010.out
 have HN3010 : Hid (n3010 = (FrM.frame 2 (awS 1)).length) := Lib.hid hn3010.out
 have HO3010 : Hid (wn3010.ownsRow wn3009.heap.size 5 1 (.slice A3010 n3010 c3010) n3010 (bv (FrM.frame 2 (awS 1)))) := Lib.hid ho3010.out
 have IM3010 := Lib.hid (IM3009.out.below hb3010)
 clear hn3010 ho3010 hbb3010
 go_simp
 have hS3010 : FrP w6 F0 wn3010 := Fr.trans (hH3009) (Fr.of_below (F := F0) hb3010) (fun _ _ h => h)
 refine hK.out _ _ hS3010 (fun hH3010 => ?_)
 have hH3010 : FrP w6 F0 wn3010 := hH3010
 clear hK K hS3010
 try simp only [Act.put, zqa, zqb, zqc]
 refine wpAnyH_ready (rs := [7]) (by kernel_rfl) (by simp) ?_
 refine AllReadyH.cons (o := _) rfl (fun K hK => ?_) AllReadyH.nil
 go_simp
 have hpk3011 := pk_any (c := c3010) IM3010.out (aw1_ok H0.out (Sha.D_length _)) (by omega) (fun W hW => HT.out W (Fr.trans (hH3010) hW HF3009.out)) (by rw [← HN3010.out]; exact Row.of_own HO3010.out) (by rw [← HN3010.out]; exact (own_cap HO3010.out).1) (own_cap HO3010.out).2 (unm_frame 2 (awS 1) (by rw [awS_1.1]; omega))
 rw [show (2 : UInt8).toNat = 2 from rfl, aw_s1] at hpk3011
 rw [← HN3010.out] at hpk3011
 refine hpk3011.mono ?_
 clear hpk3011
 rintro e' wn3011 ⟨rfl, him3011, hf3011⟩
 have IM3011 := Lib.hid him3011.out
 have HF3011 : Hid (∀ b, b < w6.heap.size → ((fun b => F0 b ∨ (wd3000.heap.size ≤ b ∧ b < wn3009.heap.size)) b ∨ (wn3010.heap.size ≤ b ∧ b < wn3011.heap.size)) → F0 b) := Lib.hid fun b hl hb => by
  rcases hb with hb | hb
  ·exact HF3009.out b hl hb
  ·have := Fr.size (hH3010); omega
 have hfr3011 := hf3011.out
 clear him3011 hf3011
 go_simp
 have hS3011 : FrP w6 F0 wn3011 := Fr.trans (hH3010) hfr3011 HF3009.out
 refine hK.out _ _ hS3011 (fun hH3011 => ?_)
 have hH3011 : FrP w6 F0 wn3011 := hH3011
 clear hK K hS3011
 try simp only [Act.put, zqa, zqb, zqc]
 refine wpAnyH_ready (rs := [11]) (by kernel_rfl) (by simp) ?_
 refine AllReadyH.cons (o := _) rfl (fun K hK => ?_) AllReadyH.nil
 go_simp
 refine (lpk_any 5 2 4 2 1 2 0 A1m (some ⟨w3.heap.size, 0, none⟩) 32 c1m 4 4 [110, 101, 119, 33] wn3011 (by decide) (by decide) (by omega) (by omega) (by omega) (HIR.out wn3011 (hH3011)) (by omega) (by omega) (by decide +kernel) rfl).mono ?_
 rintro e' wn3012 ⟨A3012, n3012, c3012, rfl, hn3012, ho3012, hbb3012⟩
 have hb3012 := hbb3012.out
 have HN3012 : Hid (n3012 = (FrM.frame 2 (awS 0)).length) := Lib.hid hn3012.out
 have HO3012 : Hid (wn3012.ownsRow wn3011.heap.size 5 1 (.slice A3012 n3012 c3012) n3012 (bv (FrM.frame 2 (awS 0)))) := Lib.hid ho3012.out
 have IM3012 := Lib.hid (IM3011.out.below hb3012)
 clear hn3012 ho3012 hbb3012
 go_simp
 have hS3012 : FrP w6 F0 wn3012 := Fr.trans (hH3011) (Fr.of_below (F := F0) hb3012) (fun _ _ h => h)
 refine hK.out _ _ hS3012 (fun hH3012 => ?_)
 have hH3012 : FrP w6 F0 wn3012 := hH3012
 clear hK K hS3012
 try simp only [Act.put, zqa, zqb, zqc]
 refine wpAnyH_ready (rs := [12]) (by kernel_rfl) (by simp) ?_
 refine AllReadyH.cons (o := _) rfl (fun K hK => ?_) AllReadyH.nil
 go_simp
 have hpk3013 := pk_any (c := c3012) IM3012.out (aw2_ok H0.out (Sha.D_length _)) (by omega) (fun W hW => HT.out W (Fr.trans (hH3012) hW HF3011.out)) (by rw [← HN3012.out]; exact Row.of_own HO3012.out) (by rw [← HN3012.out]; exact (own_cap HO3012.out).1) (own_cap HO3012.out).2 (unm_frame 2 (awS 0) (by rw [awS_0.1]; omega))
 rw [show (2 : UInt8).toNat = 2 from rfl, aw_s0] at hpk3013
 rw [← HN3012.out] at hpk3013
 refine hpk3013.mono ?_
 clear hpk3013
 rintro e' wn3013 ⟨rfl, him3013, hf3013⟩
 have IM3013 := Lib.hid him3013.out
 have HF3013 : Hid (∀ b, b < w6.heap.size → ((fun b => (fun b => F0 b ∨ (wd3000.heap.size ≤ b ∧ b < wn3009.heap.size)) b ∨ (wn3010.heap.size ≤ b ∧ b < wn3011.heap.size)) b ∨ (wn3012.heap.size ≤ b ∧ b < wn3013.heap.size)) → F0 b) := Lib.hid fun b hl hb => by
  rcases hb with hb | hb
  ·exact HF3011.out b hl hb
  ·have := Fr.size (hH3012); omega
 have hfr3013 := hf3013.out
 clear him3013 hf3013
 go_simp
 have hS3013 : FrP w6 F0 wn3013 := Fr.trans (hH3012) hfr3013 HF3011.out
 refine hK.out _ _ hS3013 (fun hH3013 => ?_)
 have hH3013 : FrP w6 F0 wn3013 := hH3013
 clear hK K hS3013
 try simp only [Act.put, zqa, zqb, zqc]
 refine zqt (i := 13) (d := some 6) rfl (s := hH3013) (h := ?_)
 try simp only [Act.put, zqa, zqb, zqc]
 refine zqt (i := 14) (d := some 7) rfl (s := hH3013) (h := ?_)
 try simp only [Act.put, zqa, zqb, zqc]
 refine zqt (i := 15) (d := some 8) rfl (s := hH3013) (h := ?_)
 try simp only [Act.put, zqa, zqb, zqc]
 refine wpAnyH_done (by kernel_rfl) ?_ _
 refine NoPanic.normal ?_
 have HB7 : Hid (Below w.heap.size w wn3013) := Lib.hid (HBA.out _ (hH3013))
 have IM7 : Hid (∃ F, IsMo g (aw3 h0 (Sha.D [110, 101, 119, 33])) wn3013 F) := Lib.hid ⟨_, IM3013.out⟩
 clear hH3013
 generalize wn3013 = w7 at *
 clear HT HMX HIR HL5 HN5 HFD HF0 HZ HBA
 obtain ⟨F7, hi7⟩ := IM7.out
 have HI7 := Lib.hid hi7
 obtain ⟨LL, hLL⟩ : ∃ LL, (aw3 h0 (Sha.D [110, 101, 119, 33])).L = LL := ⟨_, rfl⟩
 have htr : LL.trial = 3 := by rw [← hLL]; exact (aw3_run h0 (Sha.D [110, 101, 119, 33])).2
 obtain ⟨la, lt, lf, lg, lv0, ll0, lh0, lv1, ll1, lh1, lo, ⟨ls, lv, lll, lz, lp, lh⟩⟩ := LL
 dsimp only at htr
 subst htr
 have HLL := Lib.hid hLL
 clear hLL hi7 IM7
 have HRU := Lib.hid (run_any HI7.out (aw3_ok H0.out))
 rw [(aw3_run h0 (Sha.D [110, 101, 119, 33])).1] at HRU
 go_wp2_with fail
 refine HRU.out.mono ?_
 rintro e w8 ⟨A8, m8, c8, rfl, -, ho8, hb8⟩
 have hcv := conv_row c8 (Row.of_own ho8.out) (Nat.le_refl _) w8 (Below.refl _ _)
 have HB8 := Lib.hid hb8.out
 have HST := Lib.hid (state_any (HI7.out.below hb8.out) (aw3_ok H0.out))
 rw [HLL.out] at HST
 clear ho8 hb8 HRU HI7 HLL
 go_wp2_with fail
 refine HST.out.mono ?_
 rintro e w9 ⟨ds, rfl, hs9, hb9⟩
 obtain ⟨B0, d0, B1, d1, B, d, rfl, -, -, -⟩ := hs9.out
 have HB9 := Lib.hid hb9.out
 clear hs9 hb9 HST hcv
 dsimp only [LSt.cells]
 have hfd : ∀ W : World, (Instr.field 39 (.agg #[.int .i64 la, .int .i64 3, .int .u32 (lf : Int), .int .u32 (lg : Int), .int .u32 (lv0 : Int), .int .i64 ll0, .slice B0 lh0.length d0, .int .u32 (lv1 : Int), .int .i64 ll1, .slice B1 lh1.length d1, .bool lo, .int .u32 (ls : Int), .int .u32 (lv : Int), .int .i64 lll, .int .i64 lz, .int .i64 lp, .slice B lh.length d]) 1).run Tryz.prog W = .ok (.int .i64 3) W := fun _ => by kernel_rfl
 have HEND := Lib.hid (HB7.out.trans ((HB8.out.trans (HB9.out.mono HB8.out.size)).mono HB7.out.size))
 go_wp2_with fail
 go_ret
 exact ⟨rfl, HEND.out⟩
end Go.Proofs.YtmncpgfdpcckpaaGreatDoor.Mo
