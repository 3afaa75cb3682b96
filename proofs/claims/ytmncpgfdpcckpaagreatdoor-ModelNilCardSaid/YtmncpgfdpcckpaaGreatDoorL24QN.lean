/- law 24's Packet: a symbol of an image as a packet: by contract. -/
import Derived.Test.YtmncpgfdpcckpaaGreatDoorZZQN
import Derived.Test.YtmncpgfdpcckpaaGreatDoorZZFQN
import Derived.Test.YtmncpgfdpcckpaaGreatDoorZMJQN
import Derived.Test.YtmncpgfdpcckpaaGreatDoorZZHQN
import Derived.Test.YtmncpgfdpcckpaaGreatDoorZSQN
set_option maxRecDepth 100000
namespace Go.Proofs.YtmncpgfdpcckpaaGreatDoor.Mo
open Go.RowKit
open FrM (frame)
open Car
open VecM RdM Vc Sp Pc El Cd Dc
def LpOk (l : List UInt8) (w : World) (e : Ending) (w' : World) : Prop :=
 ∃ A n c, e = .returned (.slice A n c) ∧ Hid (n = l.length) ∧ Hid (w'.ownsRow w.heap.size 5 1 (.slice A n c) n (bv l)) ∧ Hid (Below w.heap.size w w')
set_option maxHeartbeats 6400000 in
theorem lpk_any (s v L z p kk id : Nat) (Ah Ai : Option Addr) (nh ch ni ci : Nat) (img : List UInt8) (w : World) (hs : s < 4294967296) (hid : id < 4294967296) (hK : 1 ≤ kk ∧ kk ≤ 64) (hp : p ≤ 16) (hz : 1 ≤ z ∧ z ≤ 16) (hi : Row w w.heap.size Ai ni (bv img)) (hnc : ni ≤ ci) (hcm : ci ≤ 9223372036854775807) (hcn : BlkM.count (ni : Int) (z : Int) = kk) (hL : L = ni) :
  Calls Tryz.prog 31 #[.agg #[.int .u32 (s : Int), .int .u32 (v : Int), .int .i64 (L : Int), .int .i64 (z : Int), .int .i64 (p : Int), .slice Ah nh ch], .slice Ai ni ci, .int .u32 (id : Int)] w (LpOk (frame 2 (symB s id (symX s kk p z img id))) w) := by
 have hof : ofB (L : Int) (z : Int) (p : Int) = true := by
  unfold ofB mayB
  rw [hL, hcn]
  simp
  omega
 have HOB := Lib.hid hof
 have HX0 := Lib.hid (heap_alloc_new w (.cells #[.int .u32 (s : Int), .int .u32 (v : Int), .int .i64 (L : Int), .int .i64 (z : Int), .int .i64 (p : Int), .slice Ah nh ch] 37))
 have HB0 : Hid (Below w.heap.size w (w.alloc (.cells #[.int .u32 (s : Int), .int .u32 (v : Int), .int .i64 (L : Int), .int .i64 (z : Int), .int .i64 (p : Int), .slice Ah nh ch] 37))) := Lib.hid ((Below.refl _ _).alloc (Nat.le_refl _) _)
 have HL0 : Hid (w.heap.size < (w.alloc (.cells #[.int .u32 (s : Int), .int .u32 (v : Int), .int .i64 (L : Int), .int .i64 (z : Int), .int .i64 (p : Int), .slice Ah nh ch] 37)).heap.size) := Lib.hid (by simp)
 have HPA := Lib.hid (rpar_all s v (L : Int) (z : Int) (p : Int) Ah nh ch (w.alloc (.cells #[.int .u32 (s : Int), .int .u32 (v : Int), .int .i64 (L : Int), .int .i64 (z : Int), .int .i64 (p : Int), .slice Ah nh ch] 37)))
 have HCN : Hid (BlkM.count (L : Int) (z : Int) = kk) := Lib.hid (by rw [hL]; exact hcn)
 have HCN2 := Lib.hid hcn
 have HK := Lib.hid hK
 have HP := Lib.hid hp
 have HZ := Lib.hid hz
 have HS := Lib.hid hs
 have HID := Lib.hid hid
 have HI := Lib.hid hi
 have HNC : Hid (ni ≤ ci ∧ ci ≤ 9223372036854775807) := Lib.hid ⟨hnc, hcm⟩
 obtain ⟨ls, hls⟩ : ∃ l, symX s kk p z img id = l := ⟨_, rfl⟩
 have HLS := Lib.hid hls
 have HLL : Hid (ls.length = z) := Lib.hid (by rw [← hls]; exact symX_length hK.1 (by omega))
 rw [hls]
 obtain ⟨c0, c1, c2, c3, c4, c5⟩ := bx6 HX0.out
 clear hof hs hid hK hp hz hi hnc hcm hcn hL hls
 go_enter Tryz.func31, Tryz.ntmps31
 go_wp2_with fail
 refine HPA.out.mono ?_
 rintro e w1 ⟨s', K', P', Z', rfl, hb1, hv⟩
 obtain ⟨rfl, rfl, rfl, rfl⟩ := hv HOB.out
 rw [HOB.out, HCN.out]
 have HB1 := Lib.hid hb1
 clear hv hb1 HPA c0 c1 c2 c3 c4 c5
 go_upto_region 2 with fail
 have HX2 := Lib.hid (heap_alloc_new w1 (.cells #[.int .u32 (s : Int), .int .i64 (kk : Int), .int .i64 (p : Int), .int .i64 (z : Int)] 76))
 have HB02 : Hid (Below (w.alloc (.cells #[.int .u32 (s : Int), .int .u32 (v : Int), .int .i64 (L : Int), .int .i64 (z : Int), .int .i64 (p : Int), .slice Ah nh ch] 37)).heap.size (w.alloc (.cells #[.int .u32 (s : Int), .int .u32 (v : Int), .int .i64 (L : Int), .int .i64 (z : Int), .int .i64 (p : Int), .slice Ah nh ch] 37)) (w1.alloc (.cells #[.int .u32 (s : Int), .int .i64 (kk : Int), .int .i64 (p : Int), .int .i64 (z : Int)] 76))) := Lib.hid (HB1.out.alloc HB1.out.size _)
 have HL2 : Hid (w1.heap.size < (w1.alloc (.cells #[.int .u32 (s : Int), .int .i64 (kk : Int), .int .i64 (p : Int), .int .i64 (z : Int)] 76)).heap.size) := Lib.hid (by simp)
 generalize w1.alloc (.cells #[.int .u32 (s : Int), .int .i64 (kk : Int), .int .i64 (p : Int), .int .i64 (z : Int)] 76) = w2 at *
 generalize w.alloc (.cells #[.int .u32 (s : Int), .int .u32 (v : Int), .int .i64 (L : Int), .int .i64 (z : Int), .int .i64 (p : Int), .slice Ah nh ch] 37) = w0 at *
 have HB2 : Hid (Below w.heap.size w w2) := Lib.hid (HB0.out.trans (HB02.out.mono HB0.out.size))
 obtain ⟨gP, hgP⟩ : ∃ g, w1.heap.size = g := ⟨_, rfl⟩
 rw [hgP] at HX2 HL2 ⊢
 have HPX : Hid (∀ W, Below w2.heap.size w2 W → W.heap[gP]? = some (.cells #[.int .u32 (s : Int), .int .i64 (kk : Int), .int .i64 (p : Int), .int .i64 (z : Int)] 76 (0, 0))) := Lib.hid fun W hW => (hW.block _ HL2.out).trans HX2.out
 have HFX : Hid (∀ W, Below w2.heap.size w2 W → W.cell? ⟨w.heap.size, 0, none⟩ = some (.int .u32 (s : Int))) := Lib.hid fun W hW => by
  have hbb := HB02.out.trans (hW.mono HB02.out.size)
  exact (bx6 ((hbb.block _ HL0.out).trans HX0.out)).1
 have HSY : Hid (∀ W, Below w2.heap.size w2 W → Calls Tryz.prog 57 #[.agg #[.int .u32 (s : Int), .int .i64 (kk : Int), .int .i64 (p : Int), .int .i64 (z : Int)], .slice Ai ni ci, .int .u32 (id : Int)] W fun e w' => ∃ g c', e = .returned (.slice (some ⟨g, 0, none⟩) z c') ∧ Hid (w'.ownsRow W.heap.size 5 1 (.slice (some ⟨g, 0, none⟩) z c') z (bv ls)) ∧ Hid (Below W.heap.size W w')) := Lib.hid fun W hW => by
  have hbb := HB2.out.trans (hW.mono HB2.out.size)
  rw [← HLS.out]
  exact rsymbol_any s kk p z id ni ci Ai img W HS.out HID.out HK.out HP.out HZ.out ((HI.out.below hbb).more hbb.size) HNC.out.1 HNC.out.2 HCN2.out
 clear HX0 HX2 HB0 HB02 HL0 HB1 hgP HCN HOB w1
 refine wp_region_noPanic ?_
 refine wp_region_held_drew (S := (fun W => Below (w2.heap.size) w2 W)) (by kernel_rfl) (Below.refl _ _).drew (fun hH0 => ?_)
 have hH0 : Below (w2.heap.size) w2 w2.drew := hH0
 generalize w2.drew = wd3000 at *
 refine zqt (i := 0) (d := some 19) rfl (s := hH0) (h := ?_)
 try simp only [Act.put, zqa, zqb, zqc]
 refine zqt (i := 1) (d := some 20) rfl (y := by intro w' hSw; have z0 := HFX.out _ hSw; clear hSw; go_simp; try with_reducible rfl) (s := hH0) (h := ?_)
 try simp only [Act.put, zqa, zqb, zqc]
 refine zqt (i := 2) (d := some 21) rfl (s := hH0) (h := ?_)
 try simp only [Act.put, zqa, zqb, zqc]
 refine wpAnyH_take (i := 3) (oi := _) (v := .agg #[.int .u32 (s : Int), .int .i64 (kk : Int), .int .i64 (p : Int), .int .i64 (z : Int)]) rfl (by kernel_rfl) (by kernel_rfl) (by kernel_rfl) (fun _ _ _ h => h) (yields_row (by rfl) _ (.tmp 7) rfl gP rfl _ _ _ _ (fun W hW => HPX.out W hW) Tryz.underlying76 rfl (by kernel_rfl)) hH0 ?tkr3004
 try simp only [Act.put, zqa, zqb, zqc]
 refine zqt (i := 4) (d := some 23) rfl (s := hH0) (h := ?_)
 try simp only [Act.put, zqa, zqb, zqc]
 refine zqt (i := 5) (d := some 24) rfl (s := hH0) (h := ?_)
 try simp only [Act.put, zqa, zqb, zqc]
 refine wpAnyH_ready (rs := [6]) (by kernel_rfl) (by simp) ?_
 refine AllReadyH.cons (o := _) rfl (fun K hK => ?_) AllReadyH.nil
 go_simp
 refine (HSY.out wd3000 (hH0)).mono ?_
 rintro e' wn3007 ⟨gs3007, cs3007, rfl, ho3007, hbb3007⟩
 have hb3007 := hbb3007.out
 have RS3007 : Hid (Row wn3007 wn3007.heap.size (some ⟨gs3007, 0, none⟩) z (bv ls)) := Lib.hid (Row.of_own ho3007.out)
 clear ho3007 hbb3007
 go_simp
 have hS3007 : Below (w2.heap.size) w2 wn3007 := (hH0).trans (hb3007.mono (hH0).size)
 refine hK.out _ _ hS3007 (fun hH3007 => ?_)
 have hH3007 : Below (w2.heap.size) w2 wn3007 := hH3007
 clear hK K hS3007
 try simp only [Act.put, zqa, zqb, zqc]
 refine zqt (i := 7) (d := some 26) rfl (s := hH3007) (h := ?_)
 try simp only [Act.put, zqa, zqb, zqc]
 refine wpAnyH_ready (rs := [8]) (by kernel_rfl) (by simp) ?_
 refine AllReadyH.cons (o := _) rfl (fun K hK => ?_) AllReadyH.nil
 go_simp
 refine (r7bytes_ok s id wn3007.heap.size z cs3007 (some ⟨gs3007, 0, none⟩) ls wn3007 HS.out HID.out RS3007.out HZ.out.1 HZ.out.2 (Nat.le_refl _)).mono ?_
 rintro e' wn3009 ⟨AB, nB, cB, rfl, ho3009, hb3009⟩
 have RB : Hid (Row wn3009 wn3009.heap.size AB nB (bv (symB s id ls))) := Lib.hid (Row.of_own ho3009)
 have NB : Hid (nB = (symB s id ls).length) := Lib.hid (RB.out.blen).symm
 clear ho3009
 go_simp
 have hS3009 : Below (w2.heap.size) w2 wn3009 := (hH3007).trans (hb3009.mono (hH3007).size)
 refine hK.out _ _ hS3009 (fun hH3009 => ?_)
 have hH3009 : Below (w2.heap.size) w2 wn3009 := hH3009
 clear hK K hS3009
 try simp only [Act.put, zqa, zqb, zqc]
 refine zqt (i := 9) (d := some 18) rfl (s := hH3009) (h := ?_)
 try simp only [Act.put, zqa, zqb, zqc]
 refine zqt (i := 10) (d := some 28) rfl (s := hH3009) (h := ?_)
 try simp only [Act.put, zqa, zqb, zqc]
 refine zqt (i := 11) (d := some 29) rfl (s := hH3009) (h := ?_)
 try simp only [Act.put, zqa, zqb, zqc]
 refine zqt (i := 12) (d := some 9) rfl (s := hH3009) (h := ?_)
 try simp only [Act.put, zqa, zqb, zqc]
 refine zqt (i := 13) (d := some 10) rfl (s := hH3009) (h := ?_)
 try simp only [Act.put, zqa, zqb, zqc]
 refine wpAnyH_done (by kernel_rfl) ?_ _
 refine NoPanic.normal ?_
 have HB3 := Lib.hid (show Below w2.heap.size w2 wn3009 from hH3009)
 clear hH3009
 generalize wn3009 = w3 at *
 have HWR := Lib.hid (r7wrap_ok 2 w3.heap.size nB cB AB (symB s id ls) w3 RB.out (by
  have h := NB.out
  rw [h]
  unfold symB
  rw [List.length_append, List.length_append, HLL.out]
  have := HZ.out.2
  have e4 : ∀ x, (CrcM.four x).length = 4 := fun x => rfl
  rw [e4, e4]; omega) (Nat.le_refl _))
 clear HSY HFX HPX
 go_wp2_with fail
 refine HWR.out.mono ?_
 rintro e w4 ⟨A4, n4, c4, rfl, hn4, ho4, hb4⟩
 have HB4 : Hid (Below w.heap.size w w4) := Lib.hid (HB2.out.trans ((HB3.out.trans (hb4.mono HB3.out.size)).mono HB2.out.size))
 have HO4 := Lib.hid ho4
 have HN4 := Lib.hid hn4.out
 have HZZ : Hid (w.heap.size ≤ w3.heap.size) := Lib.hid (Nat.le_trans HB2.out.size HB3.out.size)
 clear hn4 ho4 hb4 HWR
 go_wp2_with fail
 go_ret
 exact ⟨A4, n4, c4, rfl, HN4, Lib.hid (own_base HO4.out HZZ.out), HB4⟩
end Go.Proofs.YtmncpgfdpcckpaaGreatDoor.Mo
