/- decode.New: by contract. -/
import Derived.Test.YtmncpgfdpcckpaaGreatDoorDcBQN
import Derived.Test.YtmncpgfdpcckpaaGreatDoorZKQN
set_option maxRecDepth 100000
namespace Go.Proofs.YtmncpgfdpcckpaaGreatDoor.Dc
open Go.RowKit
open VecM RdM Vc Sp Pc El
def matR (s K P Z : Nat) : Nat → Mx
 | 0 => List.replicate (K + P) none
 | j + 1 => (addMx (K + P) (matR s K P Z j) (parJ s K j) (List.replicate Z 0)).1
theorem zero_row (Z : Nat) (hz : Z ≤ 1000) (w : World) : Row (w.alloc (.cells (Array.replicate Z (.int .u8 0)) 5)) (w.alloc (.cells (Array.replicate Z (.int .u8 0)) 5)).heap.size (some ⟨w.heap.size, 0, none⟩) (List.replicate Z (0 : UInt8)).length (bv (List.replicate Z 0)) := by
 have h := own_lit (w := w) (base := w.heap.size) (g := w.heap.size) (n := Z) (e := 5) (Array.replicate Z (.int .u8 0)) rfl (Nat.le_refl _) (by simp) (by unfold maxLen; omega)
 have h2 := Row.of_own h
 rw [List.length_replicate]
 simpa [bv] using h2
structure DFr (F : Nat → Prop) (w W : World) : Prop where
 f : Fr w W F
theorem DFr.refl (F : Nat → Prop) (w : World) : DFr F w w := ⟨Fr.refl _ _⟩
theorem DFr.size {F : Nat → Prop} {w W : World} (h : DFr F w W) : w.heap.size ≤ W.heap.size := h.f.size
theorem DFr.below {F : Nat → Prop} {w W W' : World} (h : DFr F w W) (hb : Below W.heap.size W W') : DFr F w W' := ⟨h.f.trans (Fr.of_below (F := F) hb) (fun _ _ h => h)⟩
theorem DFr.fr {F : Nat → Prop} {w W W' : World} (h : DFr F w W) (hf : Fr W W' F) : DFr F w W' := ⟨h.f.trans hf (fun _ _ h => h)⟩
structure NS (w w3 : World) (lo gd gm s K P Z k : Nat) (wr : World) : Prop where
 sz : w3.heap.size ≤ wr.heap.size
 inv : Inv (K + P) Z (matR s K P Z k)
 mat : IsMat wr (fun b => (lo ≤ b ∧ b < gd) ∨ (w3.heap.size ≤ b ∧ b < wr.heap.size)) gm (K + P) Z (matR s K P Z k)
 keep : ∀ b, b < lo ∨ gd ≤ b → b < w3.heap.size → wr.heap[b]? = w3.heap[b]?
 b : Below w.heap.size w wr
def NewDOk (s K P Z : Nat) (w : World) (e : Ending) (w' : World) : Prop :=
 ∃ gd, e = .returned (.pointer (some ⟨gd, 0, none⟩)) ∧ Hid (IsDec w' (fun b => w.heap.size ≤ b ∧ b < w'.heap.size) gd s K P Z (matR s K P Z P) 0) ∧ Hid (Inv (K + P) Z (matR s K P Z P)) ∧ Hid (Below w.heap.size w w')
set_option maxHeartbeats 6400000 in
theorem newD (s kk P Z : Nat) (w : World) (hs : s < 4294967296) (hK : 1 ≤ kk ∧ kk ≤ 64) (hP : P ≤ 16) (hZ : 1 ≤ Z ∧ Z ≤ 16) (ht : DTab w) :
  Calls Tryz.prog 43 #[parV s kk P Z] w (NewDOk s kk P Z w) := by
 have HX0 := Lib.hid (heap_alloc_new w (.cells #[.int .u32 (s : Int), .int .i64 (kk : Int), .int .i64 (P : Int), .int .i64 (Z : Int)] 76))
 have HB0 : Hid (Below w.heap.size w (w.alloc (.cells #[.int .u32 (s : Int), .int .i64 (kk : Int), .int .i64 (P : Int), .int .i64 (Z : Int)] 76))) := (Below.refl _ _).alloc (Nat.le_refl _) _
 have hz : (w.alloc (.cells #[.int .u32 (s : Int), .int .i64 (kk : Int), .int .i64 (P : Int), .int .i64 (Z : Int)] 76)).heap.size = w.heap.size + 1 := by simp
 generalize hw0 : (w.alloc (.cells #[.int .u32 (s : Int), .int .i64 (kk : Int), .int .i64 (P : Int), .int .i64 (Z : Int)] 76)) = w0 at *
 have HW0 := Lib.hid hw0
 have HZ0 := Lib.hid hz
 have HM := Lib.hid (fun W => may_any s (kk : Int) (P : Int) (Z : Int) W)
 have hmay : mayB (kk : Int) (P : Int) (Z : Int) = true := (mayB_iff _ _ _).2 ⟨by omega, by omega, by omega⟩
 rw [hmay] at HM
 have HMAY : Hid ((if mayB (kk : Int) (P : Int) (Z : Int) then (kk : Int) + (P : Int) else 0) = ((kk + P : Nat) : Int)) := Lib.hid (by rw [if_pos hmay]; omega)
 have HS := Lib.hid hs
 have HK := Lib.hid hK
 have HP := Lib.hid hP
 have HZ := Lib.hid hZ
 have HT := Lib.hid ht
 unfold parV at HM ⊢
 clear hz hw0 hmay hs hK hP hZ ht
 go_enter Tryz.func43, Tryz.ntmps43
 go_upto_region 1 with fail
 rw [HW0.out]
 obtain ⟨c0, c1, c2, c3⟩ := box4 HX0.out
 go_wp2_with fail
 refine (HM.out _).mono ?_
 rintro e w1 ⟨rfl, hb1⟩
 clear c0 c1 c2 c3
 have HB1 := Lib.hid (HB0.out.trans (hb1.out.mono HB0.out.size))
 have HX1 := Lib.hid ((hb1.out.block w.heap.size (by have := HZ0.out; omega)).trans HX0.out)
 have HZ1 : Hid (w.heap.size < w1.heap.size) := Lib.hid (by have := hb1.out.size; have := HZ0.out; omega)
 have HFX : Hid (∀ W, Below w1.heap.size w1 W → (W.cell? ⟨w.heap.size, 0, none⟩ = some (.int .u32 (s : Int)) ∧ W.cell? ⟨w.heap.size, 1, none⟩ = some (.int .i64 (kk : Int)) ∧ W.cell? ⟨w.heap.size, 2, none⟩ = some (.int .i64 (P : Int)) ∧ W.cell? ⟨w.heap.size, 3, none⟩ = some (.int .i64 (Z : Int)))) := Lib.hid fun W hW => box4 ((hW.block w.heap.size HZ1.out).trans HX1.out)
 clear hb1 HX0 HB0 HW0 HZ0 HM
 go_upto_region 3 with fail
 refine wp_region_noPanic ?_
 refine wp_region_held_drew (S := (fun W => Below (w1.heap.size) w1 W)) (by kernel_rfl) (Below.refl _ _).drew (fun hH0 => ?_)
 have hH0 : Below (w1.heap.size) w1 w1.drew := hH0
 generalize w1.drew = wd3000 at *
 refine wpAnyH_take (i := 0) (oi := _) (v := ?tkv3001) rfl (by kernel_rfl) (by kernel_rfl) (by kernel_rfl) (fun _ _ _ h => h) (Or.inl ⟨by rfl, ?tky3001⟩) hH0 ?tkr3001
 case tky3001 => (intro w' hSw; have z0 := HFX.out _ hSw; clear hSw; go_simp; try with_reducible rfl)
 try simp only [Act.put, zqa, zqb, zqc]
 refine wpAnyH_take (i := 1) (oi := _) (v := ?tkv3002) rfl (by kernel_rfl) (by kernel_rfl) (by kernel_rfl) (fun _ _ _ h => h) (Or.inl ⟨by rfl, ?tky3002⟩) hH0 ?tkr3002
 case tky3002 => (intro w' hSw; have z0 := HFX.out _ hSw; clear hSw; go_simp; try with_reducible rfl)
 try simp only [Act.put, zqa, zqb, zqc]
 refine wpAnyH_take (i := 3) (oi := _) (v := ?tkv3003) rfl (by kernel_rfl) (by kernel_rfl) (by kernel_rfl) (fun _ _ _ h => h) (Or.inl ⟨by rfl, ?tky3003⟩) hH0 ?tkr3003
 case tky3003 => (intro w' hSw; clear hSw; go_simp; try with_reducible rfl)
 try simp only [Act.put, zqa, zqb, zqc]
 refine wpAnyH_take (i := 4) (oi := _) (v := ?tkv3004) rfl (by kernel_rfl) (by kernel_rfl) (by kernel_rfl) (fun _ _ _ h => h) (Or.inl ⟨by rfl, ?tky3004⟩) hH0 ?tkr3004
 case tky3004 => (intro w' hSw; have z0 := HFX.out _ hSw; clear hSw; go_simp; try with_reducible rfl)
 try simp only [Act.put, zqa, zqb, zqc]
 refine wpAnyH_ready (rs := [2]) (by kernel_rfl) (by simp) ?_
 refine AllReadyH.cons (o := _) rfl (fun K hK => ?_) AllReadyH.nil
 go_simp
 refine (pieces_any s (kk : Int) (P : Int) (Z : Int) wd3000 (by have := HK.out; omega) (by have := HP.out; omega)).mono ?_
 rw [HMAY.out]
 rintro e' wn3005 ⟨rfl, hb3005'⟩
 have hb3005 := hb3005'.out
 clear hb3005'
 go_simp
 have hS3005 : Below (w1.heap.size) w1 wn3005 := (hH0).trans (hb3005.mono (hH0).size)
 refine hK.out _ _ hS3005 (fun hH3005 => ?_)
 have hH3005 : Below (w1.heap.size) w1 wn3005 := hH3005
 clear hK K hS3005
 try simp only [Act.put, zqa, zqb, zqc]
 refine wpAnyH_ready (rs := [5]) (by kernel_rfl) (by simp) ?_
 refine AllReadyH.cons (o := _) rfl (fun K hK => ?_) AllReadyH.nil
 go_simp
 refine (newI (kk + P) Z wn3005 (by have := HK.out; have := HP.out; omega) HZ.out).mono ?_
 rintro e' wn3006 ⟨gm, rfl, hm3006, hb3006'⟩
 have hb3006 := hb3006'.out
 have HA3006 : Hid (w1.heap.size ≤ wn3005.heap.size) := Lib.hid (hH3005).size
 have HAC : Hid (wn3005.heap.size ≤ wn3006.heap.size) := Lib.hid hb3006.size
 clear hb3006'
 go_simp
 have hS3006 : Below (w1.heap.size) w1 wn3006 := (hH3005).trans (hb3006.mono (hH3005).size)
 refine hK.out _ _ hS3006 (fun hH3006 => ?_)
 have hH3006 : Below (w1.heap.size) w1 wn3006 := hH3006
 clear hK K hS3006
 try simp only [Act.put, zqa, zqb, zqc]
 refine wpAnyH_take (i := 6) (oi := _) (v := ?tkv3007) rfl (by kernel_rfl) (by kernel_rfl) (by kernel_rfl) (fun _ _ _ h => h) (Or.inl ⟨by rfl, ?tky3007⟩) hH3006 ?tkr3007
 case tky3007 => (intro w' hSw; clear hSw; go_simp; try with_reducible rfl)
 try simp only [Act.put, zqa, zqb, zqc]
 refine wpAnyH_ready (rs := [7]) (by kernel_rfl) (by simp) ?_
 refine AllReadyH.cons (o := _) rfl (fun K hK => ?_) AllReadyH.nil
 go_simp
 have hb3008 : Below wn3006.heap.size wn3006 (wn3006.alloc (.cells #[.int .u32 (s : Int), .int .i64 (kk : Int), .int .i64 (P : Int), .int .i64 (Z : Int), .pointer (some ⟨gm, 0, none⟩), .int .i64 0, .int .u32 0, .int .i32 0, .int .u32 0, .slice none 0 0] 104)) := (Below.refl _ _).alloc (Nat.le_refl _) _
 have hS3008 : Below (w1.heap.size) w1 (wn3006.alloc (.cells #[.int .u32 (s : Int), .int .i64 (kk : Int), .int .i64 (P : Int), .int .i64 (Z : Int), .pointer (some ⟨gm, 0, none⟩), .int .i64 0, .int .u32 0, .int .i32 0, .int .u32 0, .slice none 0 0] 104)) := (hH3006).trans (hb3008.mono (hH3006).size)
 refine hK.out _ _ hS3008 (fun hH3008 => ?_)
 have hH3008 : Below (w1.heap.size) w1 (wn3006.alloc (.cells #[.int .u32 (s : Int), .int .i64 (kk : Int), .int .i64 (P : Int), .int .i64 (Z : Int), .pointer (some ⟨gm, 0, none⟩), .int .i64 0, .int .u32 0, .int .i32 0, .int .u32 0, .slice none 0 0] 104)) := hH3008
 clear hK K hS3008
 try simp only [Act.put, zqa, zqb, zqc]
 refine wpAnyH_take (i := 8) (oi := _) (v := ?tkv3009) rfl (by kernel_rfl) (by kernel_rfl) (by kernel_rfl) (fun _ _ _ h => h) (Or.inl ⟨by rfl, ?tky3009⟩) hH3008 ?tkr3009
 case tky3009 => (intro w' hSw; clear hSw; go_simp; try with_reducible rfl)
 try simp only [Act.put, zqa, zqb, zqc]
 refine wpAnyH_done (by kernel_rfl) ?_ _
 refine NoPanic.normal ?_
 obtain ⟨wa, rfl⟩ : ∃ x : World, x = wn3005 := ⟨_, rfl⟩
 obtain ⟨wc, rfl⟩ : ∃ x : World, x = wn3006 := ⟨_, rfl⟩
 have HMC := hm3006
 have HA := HA3006
 have HC1 : Hid (Below w1.heap.size w1 wc) := Lib.hid (hH3006)
 have hbx : Below wc.heap.size wc (wc.alloc (.cells #[.int .u32 (s : Int), .int .i64 (kk : Int), .int .i64 (P : Int), .int .i64 (Z : Int), .pointer (some ⟨gm, 0, none⟩), .int .i64 0, .int .u32 0, .int .i32 0, .int .u32 0, .slice none 0 0] 104)) := (Below.refl _ _).alloc (Nat.le_refl _) _
 have hxd : (wc.alloc (.cells #[.int .u32 (s : Int), .int .i64 (kk : Int), .int .i64 (P : Int), .int .i64 (Z : Int), .pointer (some ⟨gm, 0, none⟩), .int .i64 0, .int .u32 0, .int .i32 0, .int .u32 0, .slice none 0 0] 104)).heap[wc.heap.size]? = some (.cells (decC s kk P Z gm 0 0 (.slice none 0 0)) 104 (0, 0)) := heap_alloc_new wc _
 have hz2 : (wc.alloc (.cells #[.int .u32 (s : Int), .int .i64 (kk : Int), .int .i64 (P : Int), .int .i64 (Z : Int), .pointer (some ⟨gm, 0, none⟩), .int .i64 0, .int .u32 0, .int .i32 0, .int .u32 0, .slice none 0 0] 104)).heap.size = wc.heap.size + 1 := by simp
 have HXD := Lib.hid hxd
 have HM2 := Lib.hid (HMC.out.below hbx)
 have HB2 : Hid (Below w1.heap.size w1 (wc.alloc (.cells #[.int .u32 (s : Int), .int .i64 (kk : Int), .int .i64 (P : Int), .int .i64 (Z : Int), .pointer (some ⟨gm, 0, none⟩), .int .i64 0, .int .u32 0, .int .i32 0, .int .u32 0, .slice none 0 0] 104))) := Lib.hid (HC1.out.trans (hbx.mono HC1.out.size))
 have HZ2 := Lib.hid hz2
 clear hbx hxd hz2 HMC
 generalize (wc.alloc (.cells #[.int .u32 (s : Int), .int .i64 (kk : Int), .int .i64 (P : Int), .int .i64 (Z : Int), .pointer (some ⟨gm, 0, none⟩), .int .i64 0, .int .u32 0, .int .i32 0, .int .u32 0, .slice none 0 0] 104)) = w2 at *
 have HGD : Hid (wc.heap.size = wc.heap.size) := Lib.hid rfl
 obtain ⟨gd, hgd⟩ : ∃ x, wc.heap.size = x := ⟨_, rfl⟩
 rw [hgd] at HXD HM2 HZ2 ⊢
 have HSG : Hid (w.heap.size < wa.heap.size ∧ wa.heap.size ≤ gd) := Lib.hid ⟨by have := HA.out; have := HZ1.out; omega, by rw [← hgd]; exact HAC.out⟩
 clear HGD hgd HC1 HAC
 obtain ⟨lo, hlo⟩ : ∃ x, wa.heap.size = x := ⟨_, rfl⟩
 rw [hlo] at HM2 HSG
 clear hlo HA
 have HBW : Hid (Below w.heap.size w w2) := Lib.hid (HB1.out.trans (HB2.out.mono HB1.out.size))
 have HPX2 : Hid (w2.heap[w.heap.size]? = some (.cells #[.int .u32 (s : Int), .int .i64 (kk : Int), .int .i64 (P : Int), .int .i64 (Z : Int)] 76 (0, 0))) := Lib.hid ((HB2.out.block w.heap.size (by have := HZ1.out; omega)).trans HX1.out)
 obtain ⟨x0, x1, x2, x3⟩ := box4 HPX2.out
 go_wp2_with fail
 refine (rows_any s kk P Z w2 HS.out HK.out HP.out HZ.out).mono ?_
 rintro e w3 ⟨gA, gs, hs, rfl, hvr, hown, hb3⟩
 have HBW3 : Hid (Below w.heap.size w w3) := Lib.hid (HBW.out.trans (hb3.out.mono HBW.out.size))
 have HXD3 := Lib.hid ((hb3.out.block gd (by have := HZ2.out; omega)).trans HXD.out)
 have HPX3 := Lib.hid ((hb3.out.block w.heap.size (by have := HZ2.out; have := HSG.out; omega)).trans HPX2.out)
 have HVR := Lib.hid hvr.out.2
 have HGA : Hid (gd < gA ∧ gA < w3.heap.size) := Lib.hid ⟨by have := hvr.out.1; have := HZ2.out; omega, (hown.out.lt gA rfl).2⟩
 have HOW := Lib.hid hown.out
 have HZ3 : Hid (gd < w3.heap.size) := Lib.hid (by have := hb3.out.size; have := HZ2.out; omega)
 have HST : Hid (NS w w3 lo gd gm s kk P Z 0 w3) := Lib.hid ⟨Nat.le_refl _, Inv.start _ _, (HM2.out.below hb3.out).more fun b hb => .inl hb, fun _ _ _ => rfl, HBW3.out⟩
 clear x0 x1 x2 x3 hvr hown hb3 HM2 HBW HPX2 HXD HB2 HZ2
 have hpi : (P : Int) ≤ 16 := by have := HP.out; omega
 go_wp2_with fail
 go_loopw [20] (fun i wr => ∃ k : Nat, k ≤ P ∧ i = .int .i64 k ∧ Hid (NS w w3 lo gd gm s kk P Z k wr)) (fun i _ => P - (intOf i).toNat)
 case atStart => exact ⟨0, by omega, rfl, HST⟩
 case round =>
  obtain ⟨k, hk, rfl, hns⟩ := hrel
  clear HST
  by_cases hlt : k < P
  ·have hcell : wr.cell? ⟨gA, k, none⟩ = some (.pointer (some ⟨gs k, 0, none⟩)) := by
    have h1 := (HOW.out.cellAt k (by omega)).trans (pvk_get gs P P k hlt)
    rw [if_pos hlt] at h1
    rw [← h1]
    exact World.cell?_of_block (w := w3) (hns.out.keep gA (.inr (Nat.le_of_lt HGA.out.1)) HGA.out.2)
   obtain ⟨va, vb, vc⟩ := HVR.out k hlt
   have hvk : VecAt wr (gs k) (hs k) (kk + P) (parJ s kk k) := vc.keep (hns.out.keep _ (.inr (by have := HGA.out; omega)) vc.lt.1) (hns.out.keep _ (.inr (by have := HGA.out; omega)) vc.lt.2)
   have HI := Lib.hid hns.out.inv
   obtain ⟨FK, hFK⟩ : ∃ FK : Nat → Prop, (fun b => (lo ≤ b ∧ b < gd) ∨ (w3.heap.size ≤ b ∧ b < wr.heap.size)) = FK := ⟨_, rfl⟩
   have hmat := hns.out.mat
   rw [hFK] at hmat
   have hnf : ¬ FK gd := by rw [← hFK]; have := HZ3.out; rintro (h | h) <;> omega
   have hnp : ¬ FK w.heap.size := by rw [← hFK]; have := HSG.out; have := HZ3.out; rintro (h | h) <;> omega
   have hgdl : gd < wr.heap.size := Nat.lt_of_lt_of_le HZ3.out hns.out.sz
   have hpl : w.heap.size < wr.heap.size := by have := HSG.out; have := HZ3.out; omega
   have HMW : Hid (∀ W, Below wr.heap.size wr W → IsMat W FK gm (kk + P) Z (matR s kk P Z k)) := Lib.hid fun W hW => hmat.below hW
   have HVK : Hid (∀ W, Below wr.heap.size wr W → VecAt W (gs k) (hs k) (kk + P) (parJ s kk k)) := Lib.hid fun W hW => hvk.below hW
   have HDT : Hid (∀ W, Below wr.heap.size wr W → DTab W) := Lib.hid fun W hW => HT.out.grow (hns.out.b.trans (hW.mono hns.out.b.size))
   have HLZ : Hid ((List.replicate Z (0 : UInt8)).length = Z) := Lib.hid (by simp)
   have HFX7 : Hid (∀ W, DFr FK wr W → W.cell? ⟨gd, 4, none⟩ = some (.pointer (some ⟨gm, 0, none⟩)) ∧ W.cell? ⟨w.heap.size, 3, none⟩ = some (.int .i64 (Z : Int))) := Lib.hid fun W hW => ⟨dcell_at (((hW.f.block gd hgdl hnf).trans (hns.out.keep gd (.inr (Nat.le_refl _)) HZ3.out)).trans HXD3.out) rfl, dcell_at (((hW.f.block w.heap.size hpl hnp).trans (hns.out.keep w.heap.size (.inl HSG.out.1) (by have := HSG.out; have := HZ3.out; omega))).trans HPX3.out) rfl⟩
   have HSTEP : Hid (∀ wp wf : World, wr.heap.size ≤ wp.heap.size → IsMat wf (fun b => FK b ∨ (wp.heap.size ≤ b ∧ b < wf.heap.size)) gm (kk + P) Z (addMx (kk + P) (matR s kk P Z k) (parJ s kk k) (List.replicate Z 0)).1 → DFr FK wr wf → NS w w3 lo gd gm s kk P Z (k + 1) wf) := Lib.hid fun wp wf h1 h2 h3 => by
    have hsz := hns.out.sz
    have hfs := h3.f.size
    refine ⟨Nat.le_trans hsz hfs, addMx_inv hns.out.inv hvk.1 hvk.2.1 (by simp), h2.more fun b hb => ?_, fun b hb hl => ?_, ?_⟩
    ·rw [← hFK] at hb
     rcases hb with (hb | hb) | hb
     ·exact .inl hb
     ·exact .inr ⟨hb.1, by omega⟩
     ·exact .inr ⟨by omega, hb.2⟩
    ·refine (h3.f.block b (Nat.lt_of_lt_of_le hl hsz) ?_).trans (hns.out.keep b hb hl)
     rw [← hFK]
     rintro (h | h) <;> rcases hb with hb | hb <;> omega
    ·refine hns.out.b.trans (h3.f.below (fun b hb => ?_) hns.out.b.size)
     rw [← hFK] at hb
     have := HSG.out
     have := HBW3.out.size
     rcases hb with h | h <;> omega
   have HBD : Hid (Below wr.heap.size wr wr.drew) := Lib.hid ((Below.refl _ _).drew)
   have hki : (k : Int) < (P : Int) := by omega
   clear va vb vc hvk hns hmat hnf hnp hgdl hpl hFK
   go_upto_region 7 with fail
   refine wp_region_noPanic ?_
   refine wp_region_held_drew (S := (fun W => DFr FK wr W)) (by kernel_rfl) ((DFr.refl FK wr).below (Below.refl _ _).drew) (fun hH0 => ?_)
   have hH0 : DFr FK wr wr.drew := hH0
   generalize wr.drew = wd7000 at *
   refine wpAnyH_take (i := 0) (oi := _) (v := ?tkv7001) rfl (by kernel_rfl) (by kernel_rfl) (by kernel_rfl) (fun _ _ _ h => h) (Or.inl ⟨by rfl, ?tky7001⟩) hH0 ?tkr7001
   case tky7001 => (intro w' hSw; clear hSw; go_simp; try with_reducible rfl)
   try simp only [Act.put, zqa, zqb, zqc]
   refine wpAnyH_take (i := 1) (oi := _) (v := ?tkv7002) rfl (by kernel_rfl) (by kernel_rfl) (by kernel_rfl) (fun _ _ _ h => h) (Or.inl ⟨by rfl, ?tky7002⟩) hH0 ?tkr7002
   case tky7002 => (intro w' hSw; clear hSw; go_simp; try with_reducible rfl)
   try simp only [Act.put, zqa, zqb, zqc]
   refine wpAnyH_take (i := 2) (oi := _) (v := ?tkv7003) rfl (by kernel_rfl) (by kernel_rfl) (by kernel_rfl) (fun _ _ _ h => h) (Or.inl ⟨by rfl, ?tky7003⟩) hH0 ?tkr7003
   case tky7003 => (intro w' hSw; clear hSw; go_simp; try with_reducible rfl)
   try simp only [Act.put, zqa, zqb, zqc]
   refine wpAnyH_take (i := 3) (oi := _) (v := ?tkv7004) rfl (by kernel_rfl) (by kernel_rfl) (by kernel_rfl) (fun _ _ _ h => h) (Or.inl ⟨by rfl, ?tky7004⟩) hH0 ?tkr7004
   case tky7004 => (intro w' hSw; have z0 := HFX7.out _ hSw; clear hSw; go_simp; try with_reducible rfl)
   try simp only [Act.put, zqa, zqb, zqc]
   refine wpAnyH_take (i := 4) (oi := _) (v := ?tkv7005) rfl (by kernel_rfl) (by kernel_rfl) (by kernel_rfl) (fun _ _ _ h => h) (Or.inl ⟨by rfl, ?tky7005⟩) hH0 ?tkr7005
   case tky7005 => (intro w' hSw; clear hSw; go_simp; try with_reducible rfl)
   try simp only [Act.put, zqa, zqb, zqc]
   refine wpAnyH_take (i := 5) (oi := _) (v := ?tkv7006) rfl (by kernel_rfl) (by kernel_rfl) (by kernel_rfl) (fun _ _ _ h => h) (Or.inl ⟨by rfl, ?tky7006⟩) hH0 ?tkr7006
   case tky7006 => (intro w' hSw; clear hSw; go_simp; try with_reducible rfl)
   try simp only [Act.put, zqa, zqb, zqc]
   refine wpAnyH_take (i := 6) (oi := _) (v := ?tkv7007) rfl (by kernel_rfl) (by kernel_rfl) (by kernel_rfl) (fun _ _ _ h => h) (Or.inl ⟨by rfl, ?tky7007⟩) hH0 ?tkr7007
   case tky7007 => (intro w' hSw; have z0 := HFX7.out _ hSw; clear hSw; go_simp; try with_reducible rfl)
   try simp only [Act.put, zqa, zqb, zqc]
   refine wpAnyH_ready (rs := [7]) (by kernel_rfl) (by simp) ?_
   refine AllReadyH.cons (o := _) rfl (fun K hK => ?_) AllReadyH.nil
   have hmk7008 := mk_bytes Z (by have := HZ.out; omega) wd7000
   go_simp
   clear hmk7008
   have hb7008 : Below wd7000.heap.size wd7000 (wd7000.alloc (.cells (Array.replicate Z (.int .u8 0)) 5)) := (Below.refl _ _).alloc (Nat.le_refl _) _
   have HR7008 : Hid (Row (wd7000.alloc (.cells (Array.replicate Z (.int .u8 0)) 5)) (wd7000.alloc (.cells (Array.replicate Z (.int .u8 0)) 5)).heap.size (some ⟨wd7000.heap.size, 0, none⟩) (List.replicate Z (0 : UInt8)).length (bv (List.replicate Z 0))) := Lib.hid (zero_row Z (by have := HZ.out; omega) wd7000)
   have HBW7008 : Hid (Below wr.heap.size wr (wd7000.alloc (.cells (Array.replicate Z (.int .u8 0)) 5))) := Lib.hid (HBD.out.trans (hb7008.mono HBD.out.size))
   generalize hE7008 : (wd7000.alloc (.cells (Array.replicate Z (.int .u8 0)) 5)) = wn7008 at *
   clear hE7008
   have hS7008 : DFr FK wr wn7008 := (hH0).below hb7008
   refine hK.out _ _ hS7008 (fun hH7008 => ?_)
   have hH7008 : DFr FK wr wn7008 := hH7008
   clear hK K hS7008
   try simp only [Act.put, zqa, zqb, zqc]
   refine wpAnyH_ready (rs := [8]) (by kernel_rfl) (by simp) ?_
   refine AllReadyH.cons (o := _) rfl (fun K hK => ?_) AllReadyH.nil
   go_simp
   refine (addI (HMW.out wn7008 HBW7008.out) HI.out (HVK.out wn7008 HBW7008.out) HR7008.out HLZ.out (HDT.out wn7008 HBW7008.out)).mono ?_
   rintro e' wn7009 ⟨rfl, hm7009, hr7009'⟩
   have hr7009 := hr7009'.out
   have HM7009 := Lib.hid hm7009.out
   clear hm7009 hr7009'
   go_simp
   have hS7009 : DFr FK wr wn7009 := (hH7008).fr hr7009
   refine hK.out _ _ hS7009 (fun hH7009 => ?_)
   have hH7009 : DFr FK wr wn7009 := hH7009
   clear hK K hS7009
   try simp only [Act.put, zqa, zqb, zqc]
   refine wpAnyH_done (by kernel_rfl) ?_ _
   refine NoPanic.normal ?_
   have HNX := Lib.hid (HSTEP.out wn7008 wn7009 (hH7008).size HM7009.out (hH7009))
   go_wp2_with fail
   go_roundw
   case rel => exact ⟨k + 1, by omega, by go_num, HNX⟩
   case measure => simp [intOf]; omega
  ·obtain rfl : P = k := by omega
   clear hlt
   have hl := (Array.getElem?_eq_some_iff.1 HXD3.out).1
   have hcf := (hns.out.keep gd (.inr (Nat.le_refl _)) HZ3.out).trans HXD3.out
   have HFIN : Hid (IsDec wr (fun b => w.heap.size ≤ b ∧ b < wr.heap.size) gd s kk P Z (matR s kk P Z P) 0) := Lib.hid (by
    have h1 := HSG.out
    have h2 := hns.out.sz
    have h3 := HZ3.out
    exact ⟨⟨by omega, by omega⟩, gm, _, fun b hb => by rcases hb with h | h <;> exact ⟨⟨by omega, by omega⟩, by omega⟩, hns.out.mat, .inl hcf⟩)
   have HINV := Lib.hid hns.out.inv
   have HBE := Lib.hid hns.out.b
   clear hns hl hcf
   go_wp2_with fail
   go_ret
   exact ⟨gd, rfl, HFIN, HINV, HBE⟩
end Go.Proofs.YtmncpgfdpcckpaaGreatDoor.Dc
