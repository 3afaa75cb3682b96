/- awake of layer 26. -/
import Derived.Test.YtidcnoejihjgjaaGreatDoorCarWrQF
namespace Go.Proofs.YtidcnoejihjgjaaGreatDoor.Car
open Go.RowKit
open VecM RdM Vc Sp Pc El Cd Dc
theorem all_two (w : World) (a b : Nat) : allO (some ⟨w.heap.size, 0, none⟩) (Dc.uv [a, b]) (w.alloc (.cells #[.int .u32 (a : Int), .int .u32 (b : Int)] 23)) (fun q => w.heap.size ≤ q ∧ q < (w.alloc (.cells #[.int .u32 (a : Int), .int .u32 (b : Int)] 23)).heap.size) := fun j u hu => by
  have hz : (w.alloc (.cells #[.int .u32 (a : Int), .int .u32 (b : Int)] 23)).heap.size = w.heap.size + 1 := by simp
  obtain ⟨q, o, e, hl, hc⟩ := (row_new w #[.int .u32 (a : Int), .int .u32 (b : Int)] 23 (0, 0)).2 (by show 0 < 2; omega)
  injection e with e
  injection e with e1 e2
  subst e1 e2
  exact ⟨w.heap.size, 0, rfl, ⟨Nat.le_refl _, by omega⟩, by omega, hc j u hu⟩
theorem two_lt {a b : Nat} (ha : a < 4294967296) (hb : b < 4294967296) (i : Nat) (hi : i < 2) : [a, b].getD i 0 < 4294967296 := by
  rcases (by omega : i = 0 ∨ i = 1) with rfl | rfl
  · exact ha
  · exact hb
theorem all_rowP {w : World} {P : Nat → Prop} {A : Option Addr} {n : Nat} {xs : List Value} (h : RowP w P A n xs) : allO A xs w (fun b => P b ∧ b < w.heap.size) := fun j u hu => by
  have hl : j < xs.length := (List.getElem?_eq_some_iff.1 hu).1
  have hn := h.1
  obtain ⟨b, o, e, hb, hp, hc⟩ := h.2 (by omega)
  exact ⟨b, o, e, ⟨hp, hb⟩, hb, hc j u hu⟩
theorem conv_all {W : World} {F : Nat → Prop} {A : Option Addr} {l : List UInt8} {n : Nat} (c : Nat) (hn : n = l.length) (h : allO A (bv l) W F) : (convert 22 9 (.slice A n c)).run Tryz.prog W = .ok (.string ⟨l.toArray⟩) W := by
  have hr : Row W W.heap.size A n (bv l) := by
    refine ⟨by rw [hn, bv_length], fun h0 => ?_⟩
    have h00 : 0 < (bv l).length := by rw [bv_length, ← hn]; exact h0
    obtain ⟨g, o, e, _, hl, _⟩ := h 0 _ (List.getElem?_eq_getElem h00)
    refine ⟨g, o, e, hl, fun j v hv => ?_⟩
    obtain ⟨g2, o2, e2, _, _, hc⟩ := h j v hv
    rw [e] at e2
    injection e2 with e2
    injection e2 with e3 e4
    rw [e3, e4]
    exact hc
  exact conv_row c hr (Nat.le_refl _) W (Below.refl _ _)
theorem sep_cv {X Y C : Dc.Obj} {w2 W : World} {A5 : Option Addr} {l : List UInt8} {n5 c5 : Nat} (h5 : n5 = l.length) (S : Sep3 X Y (pairO C (allO A5 (bv l))) w2 W) : Below w2.heap.size w2 W ∧ (convert 22 9 (.slice A5 n5 c5)).run Tryz.prog W = .ok (.string ⟨l.toArray⟩) W := by
  have hb := S.b
  obtain ⟨F, h⟩ := S.look4
  exact ⟨hb, conv_all c5 h5 h⟩
theorem sep_cv2 {X Y C : Dc.Obj} {w2 W : World} {A5 A1 : Option Addr} {l : List UInt8} {n5 c5 n1 c1 : Nat} (h5 : n5 = l.length) (h1 : n1 = l.length) (S : Sep3 X Y (pairO (pairO C (allO A5 (bv l))) (allO A1 (bv l))) w2 W) : (Below w2.heap.size w2 W ∧ (convert 22 9 (.slice A5 n5 c5)).run Tryz.prog W = .ok (.string ⟨l.toArray⟩) W) ∧ (convert 22 9 (.slice A1 n1 c1)).run Tryz.prog W = .ok (.string ⟨l.toArray⟩) W := by
  obtain ⟨F, h⟩ := S.look4
  exact ⟨sep_cv h5 S.drop, conv_all c1 h1 h⟩
theorem sep_cv3 {X Y C I : Dc.Obj} {w2 W : World} {A5 A1 : Option Addr} {l : List UInt8} {n5 c5 n1 c1 : Nat} (h5 : n5 = l.length) (h1 : n1 = l.length) (S : Sep3 X Y (pairO (pairO (pairO C (allO A5 (bv l))) (allO A1 (bv l))) I) w2 W) : (Below w2.heap.size w2 W ∧ (convert 22 9 (.slice A5 n5 c5)).run Tryz.prog W = .ok (.string ⟨l.toArray⟩) W) ∧ (convert 22 9 (.slice A1 n1 c1)).run Tryz.prog W = .ok (.string ⟨l.toArray⟩) W :=
  sep_cv2 h5 h1 S.drop
theorem car_cells {W : World} {F : Nat → Prop} {g s v K gc nk ck ch : Nat} {L : Int} {Z P : Nat} {Ak Ah : Option Addr} {key hash : List UInt8} (h : carO g (carC Ak nk ck s v L (Z : Int) (P : Int) Ah ch K gc) Ak key Ah hash W F) :
    W.cell? ⟨g, 7, none⟩ = some (.int .u32 (s : Int)) ∧ W.cell? ⟨g, 8, none⟩ = some (.int .i64 (K : Int)) ∧ W.cell? ⟨g, 9, none⟩ = some (.int .i64 (P : Int)) ∧ W.cell? ⟨g, 10, none⟩ = some (.int .i64 (Z : Int)) ∧ W.cell? ⟨g, 11, none⟩ = some (.pointer (some ⟨gc, 0, none⟩)) := by
  have h2 := bx7 h.1
  exact ⟨h2 7 _ rfl, h2 8 _ rfl, h2 9 _ rfl, h2 10 _ rfl, h2 11 _ rfl⟩
theorem look_all {B : Dc.Obj} {w0 : World} {g s v K gc nk ck ch n : Nat} {L : Int} {Z P : Nat} {Ak Ah U : Option Addr} {key hash : List UInt8} {us : List Nat} (hB : ∀ W F, B W F → (∃ G, carO g (carC Ak nk ck s v L (Z : Int) (P : Int) Ah ch K gc) Ak key Ah hash W G) ∧ ∃ G, allO U (Dc.uv us) W G) (hn : n ≤ us.length) : Look B w0 g s K P Z gc n U us := by
  intro W F h _
  obtain ⟨⟨G, h1⟩, G2, h2⟩ := hB W F h
  refine ⟨car_cells h1, fun i hi => ?_⟩
  obtain ⟨b, o, e, _, _, hc⟩ := h2 i _ (Dc.uv_get (show i < us.length by omega))
  exact ⟨b, o, e, hc⟩
theorem look_arg {w0 : World} {g s v K gc nk ck ch n : Nat} {L : Int} {Z P : Nat} {Ak Ah U : Option Addr} {key hash : List UInt8} {us : List Nat} (hr : Row w0 w0.heap.size U n (Dc.uv us)) : Look (carO g (carC Ak nk ck s v L (Z : Int) (P : Int) Ah ch K gc) Ak key Ah hash) w0 g s K P Z gc n U us := by
  intro W F h hb
  refine ⟨car_cells h, fun i hi => ?_⟩
  have hl : us.length = n := by have := hr.1; rwa [Dc.uv_length] at this
  obtain ⟨b, o, e, hlt, hc⟩ := hr.2 (by omega)
  exact ⟨b, o, e, (hb.cell (p := ⟨b, o + i, none⟩) hlt).trans (hc i _ (Dc.uv_get (show i < us.length by omega)))⟩
theorem look_three {w0 : World} {g s v K gc nk ck ch : Nat} {L : Int} {Z P : Nat} {Ak Ah U A5 A1 : Option Addr} {key hash l : List UInt8} {a b : Nat} : Look (pairO (pairO (pairO (carO g (carC Ak nk ck s v L (Z : Int) (P : Int) Ah ch K gc) Ak key Ah hash) (allO A5 (bv l))) (allO A1 (bv l))) (allO U (Dc.uv [a, b]))) w0 g s K P Z gc 2 U [a, b] :=
  look_all (fun _ _ ⟨_, H, ⟨_, _, ⟨G, _, hg, _⟩, _⟩, hh, _⟩ => ⟨⟨G, hg⟩, H, hh⟩) (Nat.le_refl 2)
theorem aw26_m : manB ((4 : Nat) : Int) ((2 : Nat) : Int) ((1 : Nat) : Int) 32 = true := by decide +kernel
theorem aw26_c : BlkM.count ((4 : Nat) : Int) ((2 : Nat) : Int) = 2 := by decide +kernel
theorem imgRow (w : World) : Row (w.alloc (.cells #[.int .u8 110, .int .u8 101, .int .u8 119, .int .u8 33] 5 (4, 5))) (w.alloc (.cells #[.int .u8 110, .int .u8 101, .int .u8 119, .int .u8 33] 5 (4, 5))).heap.size (some ⟨w.heap.size, 0, none⟩) 4 (bv [110, 101, 119, 33]) :=
  (row_new w #[.int .u8 110, .int .u8 101, .int .u8 119, .int .u8 33] 5 (4, 5)).more (by simp)
set_option maxRecDepth 100000 in
set_option maxHeartbeats 6400000 in
theorem awake26_any (w : World) (ht : Sh.Tab w) (hd : DTab w) :
    Calls Tryz.prog 5 #[] w fun e w' => e = .returned (.bool true) ∧ Below w.heap.size w w' := by
  have kc := fun (w : World) (C : Array Value) (n c : Nat) => Lib.run_convert_bytes_const (P := Tryz.prog) w 22 5 C n c Tryz.underlying22 Tryz.underlying5
  have hba : Below w.heap.size w (w.alloc (.cells #[.int .u8 107, .int .u8 101, .int .u8 121] 5 (3, 4))) := (Below.refl _ _).alloc (Nat.le_refl _) _
  have hbb : Below (w.alloc (.cells #[.int .u8 107, .int .u8 101, .int .u8 121] 5 (3, 4))).heap.size (w.alloc (.cells #[.int .u8 107, .int .u8 101, .int .u8 121] 5 (3, 4))) ((w.alloc (.cells #[.int .u8 107, .int .u8 101, .int .u8 121] 5 (3, 4))).alloc (.cells #[.int .u8 110, .int .u8 101, .int .u8 119, .int .u8 33] 5 (4, 5))) := (Below.refl _ _).alloc (Nat.le_refl _) _
  have hb2 : Below w.heap.size w ((w.alloc (.cells #[.int .u8 107, .int .u8 101, .int .u8 121] 5 (3, 4))).alloc (.cells #[.int .u8 110, .int .u8 101, .int .u8 119, .int .u8 33] 5 (4, 5))) := hba.trans (hbb.mono hba.size)
  have HB2 := Lib.hid hb2
  have hza : (w.alloc (.cells #[.int .u8 107, .int .u8 101, .int .u8 121] 5 (3, 4))).heap.size = w.heap.size + 1 := by simp
  have hcv : (convert 22 22 (.slice (some ⟨w.heap.size + 1, 0, none⟩) 4 4)).run Tryz.prog ((w.alloc (.cells #[.int .u8 107, .int .u8 101, .int .u8 121] 5 (3, 4))).alloc (.cells #[.int .u8 110, .int .u8 101, .int .u8 119, .int .u8 33] 5)) = .ok (.slice (some ⟨w.heap.size + 1, 0, none⟩) 4 4) ((w.alloc (.cells #[.int .u8 107, .int .u8 101, .int .u8 121] 5 (3, 4))).alloc (.cells #[.int .u8 110, .int .u8 101, .int .u8 119, .int .u8 33] 5 (4, 5))) := by
    have h := kc (w.alloc (.cells #[.int .u8 107, .int .u8 101, .int .u8 121] 5 (3, 4))) #[.int .u8 110, .int .u8 101, .int .u8 119, .int .u8 33] 4 4
    rw [hza] at h
    exact h
  have HNW := Lib.hid (cnew_any (some ⟨w.heap.size, 0, none⟩) 3 3 [107, 101, 121] 5 2 (some ⟨w.heap.size + 1, 0, none⟩) 4 4 [110, 101, 119, 33] 2 1 2 ((w.alloc (.cells #[.int .u8 107, .int .u8 101, .int .u8 121] 5 (3, 4))).alloc (.cells #[.int .u8 110, .int .u8 101, .int .u8 119, .int .u8 33] 5 (4, 5))) (ht.below hb2 ht.1) (((keyRow w).below hbb).more hbb.size) (by omega) (by rw [← hza]; exact imgRow (w.alloc (.cells #[.int .u8 107, .int .u8 101, .int .u8 121] 5 (3, 4)))) (by omega) (by decide) aw26_c (by omega) (by omega) (by omega))
  have HTB : Hid (∀ W, Below ((w.alloc (.cells #[.int .u8 107, .int .u8 101, .int .u8 121] 5 (3, 4))).alloc (.cells #[.int .u8 110, .int .u8 101, .int .u8 119, .int .u8 33] 5 (4, 5))).heap.size ((w.alloc (.cells #[.int .u8 107, .int .u8 101, .int .u8 121] 5 (3, 4))).alloc (.cells #[.int .u8 110, .int .u8 101, .int .u8 119, .int .u8 33] 5 (4, 5))) W → Sh.Tab W) := Lib.hid (fun W hW => (ht.below hb2 ht.1).below hW (Nat.le_trans ht.1 hb2.size))
  have HDT : Hid (DTab ((w.alloc (.cells #[.int .u8 107, .int .u8 101, .int .u8 121] 5 (3, 4))).alloc (.cells #[.int .u8 110, .int .u8 101, .int .u8 119, .int .u8 33] 5 (4, 5)))) := Lib.hid (hd.grow hb2)
  have HMB := Lib.hid aw26_m
  have HCT : Hid (BlkM.count (([110, 101, 119, 33] : List UInt8).length : Int) ((2 : Nat) : Int) = 2) := Lib.hid aw26_c
  clear ht hd hba hbb hb2 hza
  go_enter Tryz.func5, Tryz.ntmps5
  go_wp2_with fail
  generalize ((w.alloc (.cells #[.int .u8 107, .int .u8 101, .int .u8 121] 5 (3, 4))).alloc (.cells #[.int .u8 110, .int .u8 101, .int .u8 119, .int .u8 33] 5 (4, 5))) = w2 at *
  refine HNW.out.mono ?_
  rintro e w3 ⟨g, gc, Ak, ck, Ah, ch, rfl, hs3⟩
  have S3 : Hid (Sep3 noObj (headO 5 2 1 2 [110, 101, 119, 33] gc) (carO g (carC Ak 3 ck 5 2 ((4 : Nat) : Int) ((2 : Nat) : Int) ((1 : Nat) : Int) Ah ch 2 gc) Ak [107, 101, 121] Ah (Sha.D [110, 101, 119, 33])) w2 w3) := Lib.hid hs3.out
  clear hs3 HNW
  have HX4 : Hid (Row (w3.alloc (.cells #[.int .u8 110, .int .u8 101, .int .u8 119, .int .u8 33] 5 (4, 5))) (w3.alloc (.cells #[.int .u8 110, .int .u8 101, .int .u8 119, .int .u8 33] 5 (4, 5))).heap.size (some ⟨w3.heap.size, 0, none⟩) 4 (bv [110, 101, 119, 33])) := Lib.hid (imgRow w3)
  have HB34 : Hid (Below w3.heap.size w3 (w3.alloc (.cells #[.int .u8 110, .int .u8 101, .int .u8 119, .int .u8 33] 5 (4, 5)))) := Lib.hid ((Below.refl _ _).alloc (Nat.le_refl _) _)
  have HWR := Lib.hid (wrapped_any 5 2 4 4 2 1 (some ⟨w3.heap.size, 0, none⟩) [110, 101, 119, 33] (w3.alloc (.cells #[.int .u8 110, .int .u8 101, .int .u8 119, .int .u8 33] 5 (4, 5))) HX4.out (by omega) (by decide) (by decide) HMB.out)
  clear HX4
  go_wp2_with fail
  generalize w3.alloc (.cells #[.int .u8 110, .int .u8 101, .int .u8 119, .int .u8 33] 5 (4, 5)) = w4 at *
  refine HWR.out.mono ?_
  rintro e w5 ⟨A5, n5, c5, A1m, c1m, rfl, hn5, hr5, hb5⟩
  obtain ⟨FLL, hFLL⟩ : ∃ l, firstL [107, 101, 121] 5 2 4 2 1 [110, 101, 119, 33] = l := ⟨_, rfl⟩
  rw [hFLL] at hn5 hr5
  have HFLL := Lib.hid hFLL
  have HN5 := Lib.hid hn5.out
  have S5 : Hid (Sep3 noObj (headO 5 2 1 2 [110, 101, 119, 33] gc) (pairO (carO g (carC Ak 3 ck 5 2 ((4 : Nat) : Int) ((2 : Nat) : Int) ((1 : Nat) : Int) Ah ch 2 gc) Ak [107, 101, 121] Ah (Sha.D [110, 101, 119, 33])) (allO A5 (bv FLL))) w2 w5) := Lib.hid ((S3.out.below keeps_no (keeps_head _ _ _ _ _ _) (keeps_car _ _ _ _ _ _) HB34.out).create4 keeps_no (keeps_head _ _ _ _ _ _) (keeps_car _ _ _ _ _ _) hb5.out (all_rowP hr5.out))
  clear HWR hn5 hr5 hb5 hFLL S3 HB34
  have HB56 : Hid (Below w5.heap.size w5 (w5.alloc (.cells #[.int .u32 5, .int .u32 2, .int .i64 4, .int .i64 2, .int .i64 1, .slice A1m 32 c1m] 32))) := Lib.hid ((Below.refl _ _).alloc (Nat.le_refl _) _)
  have S6 := Lib.hid (S5.out.below keeps_no (keeps_head _ _ _ _ _ _) (keeps_pair (keeps_car _ _ _ _ _ _) (keeps_all _ _)) HB56.out)
  go_upto_region 5 with fail
  generalize w5.alloc (.cells #[.int .u32 5, .int .u32 2, .int .i64 4, .int .i64 2, .int .i64 1, .slice A1m 32 c1m] 32) = w6 at *
  clear HB56 S5
  have SD : Hid (Sep3 noObj (headO 5 2 1 2 [110, 101, 119, 33] gc) (pairO (carO g (carC Ak 3 ck 5 2 ((4 : Nat) : Int) ((2 : Nat) : Int) ((1 : Nat) : Int) Ah ch 2 gc) Ak [107, 101, 121] Ah (Sha.D [110, 101, 119, 33])) (allO A5 (bv FLL))) w2 w6.drew) := Lib.hid (S6.out.below keeps_no (keeps_head _ _ _ _ _ _) (keeps_pair (keeps_car _ _ _ _ _ _) (keeps_all _ _)) (Below.refl _ _).drew)
  refine wp_region_noPanic ?_
  refine wp_region_held_drew (S := (fun W => Below w2.heap.size w2 W ∧ (convert 22 9 (.slice A5 n5 c5)).run Tryz.prog W = .ok (.string ⟨FLL.toArray⟩) W)) (by kernel_rfl) (sep_cv HN5.out SD.out) (fun hH0 => ?_)
  generalize w6.drew = wd at *
  refine wpAnyH_take (i := 0) (oi := _) (v := ?tkv8001) rfl (by kernel_rfl) (by kernel_rfl) (by kernel_rfl) (fun _ _ _ h => h) (Or.inl ⟨by rfl, ?tky8001⟩) hH0 ?tkr8001
  case tky8001 => (intro w' hSw; clear hSw; go_simp; try with_reducible rfl)
  try simp only [Act.put, List.setIfInBounds_toArray, List.set_cons_zero, List.set_cons_succ]
  refine wpAnyH_take (i := 3) (oi := _) (v := ?tkv8002) rfl (by kernel_rfl) (by kernel_rfl) (by kernel_rfl) (fun _ _ _ h => h) (Or.inl ⟨by rfl, ?tky8002⟩) hH0 ?tkr8002
  case tky8002 => (intro w' hSw; clear hSw; go_simp; try with_reducible rfl)
  try simp only [Act.put, List.setIfInBounds_toArray, List.set_cons_zero, List.set_cons_succ]
  refine wpAnyH_take (i := 4) (oi := _) (v := ?tkv8003) rfl (by kernel_rfl) (by kernel_rfl) (by kernel_rfl) (fun _ _ _ h => h) (Or.inl ⟨by rfl, ?tky8003⟩) hH0 ?tkr8003
  case tky8003 => (intro w' hSw; have z0 := hSw.2; clear hSw; go_simp; try with_reducible rfl)
  try simp only [Act.put, List.setIfInBounds_toArray, List.set_cons_zero, List.set_cons_succ]
  refine wpAnyH_ready (rs := [1]) (by kernel_rfl) (by simp) ?_
  refine AllReadyH.cons (o := _) rfl (fun K hK => ?_) AllReadyH.nil
  go_simp
  obtain ⟨_, _, GC, _, _, hpr, _⟩ := SD.out
  obtain ⟨G1, _, hcar, _⟩ := hpr
  have hfc := first_car (nk := 3) (HTB.out wd SD.out.b) hcar.1 hcar.2.2.2.1.row hcar.2.2.2.2.row (by omega) (by decide) (by decide) HMB.out
  rw [HFLL.out] at hfc
  refine hfc.mono ?_
  clear hfc hcar
  rintro e' wf ⟨A1, n1, c1, rfl, hn1, ho1, hb1⟩
  have HN1 := Lib.hid hn1.out
  have SF : Hid (Sep3 noObj (headO 5 2 1 2 [110, 101, 119, 33] gc) (pairO (pairO (carO g (carC Ak 3 ck 5 2 ((4 : Nat) : Int) ((2 : Nat) : Int) ((1 : Nat) : Int) Ah ch 2 gc) Ak [107, 101, 121] Ah (Sha.D [110, 101, 119, 33])) (allO A5 (bv FLL))) (allO A1 (bv FLL))) w2 wf) := Lib.hid (SD.out.create4 keeps_no (keeps_head _ _ _ _ _ _) (keeps_pair (keeps_car _ _ _ _ _ _) (keeps_all _ _)) hb1 (all_own ho1))
  clear ho1 hn1 hb1
  go_simp
  refine hK.out _ _ (sep_cv2 (c1 := c1) HN5.out HN1.out SF.out).1 (fun hH1 => ?_)
  clear hK K
  try simp only [Act.put, List.setIfInBounds_toArray, List.set_cons_zero, List.set_cons_succ]
  have hG1 : (fun W => (Below w2.heap.size w2 W ∧ (convert 22 9 (.slice A5 n5 c5)).run Tryz.prog W = .ok (.string ⟨FLL.toArray⟩) W) ∧ (convert 22 9 (.slice A1 n1 c1)).run Tryz.prog W = .ok (.string ⟨FLL.toArray⟩) W) wf := sep_cv2 HN5.out HN1.out SF.out
  refine wpAnyH_grow (S' := (fun W => (Below w2.heap.size w2 W ∧ (convert 22 9 (.slice A5 n5 c5)).run Tryz.prog W = .ok (.string ⟨FLL.toArray⟩) W) ∧ (convert 22 9 (.slice A1 n1 c1)).run Tryz.prog W = .ok (.string ⟨FLL.toArray⟩) W)) (fun _ h => h.1) _ _ _ _ ?_
  refine wpAnyH_take (i := 2) (oi := _) (v := ?tkv8004) rfl (by kernel_rfl) (by kernel_rfl) (by kernel_rfl) (fun _ _ _ h => h) (Or.inl ⟨by rfl, ?tky8004⟩) hG1 ?tkr8004
  case tky8004 => (intro w' hSw; have z0 := hSw.2; clear hSw; go_simp; try with_reducible rfl)
  try simp only [Act.put, List.setIfInBounds_toArray, List.set_cons_zero, List.set_cons_succ]
  refine wpAnyH_take (i := 5) (oi := _) (v := ?tkv8005) rfl (by kernel_rfl) (by kernel_rfl) (by kernel_rfl) (fun _ _ _ h => h) (Or.inl ⟨by rfl, ?tky8005⟩) hG1 ?tkr8005
  case tky8005 => (intro w' hSw; clear hSw; go_simp; try with_reducible rfl)
  try simp only [Act.put, List.setIfInBounds_toArray, List.set_cons_zero, List.set_cons_succ]
  refine wpAnyH_take (i := 6) (oi := _) (v := ?tkv8006) rfl (by kernel_rfl) (by kernel_rfl) (by kernel_rfl) (fun _ _ _ h => h) (Or.inl ⟨by rfl, ?tky8006⟩) hG1 ?tkr8006
  case tky8006 => (intro w' hSw; clear hSw; go_simp; try with_reducible rfl)
  try simp only [Act.put, List.setIfInBounds_toArray, List.set_cons_zero, List.set_cons_succ]
  refine wpAnyH_take (i := 7) (oi := _) (v := ?tkv8007) rfl (by kernel_rfl) (by kernel_rfl) (by kernel_rfl) (fun _ _ _ h => h) (Or.inl ⟨by rfl, ?tky8007⟩) hG1 ?tkr8007
  case tky8007 => (intro w' hSw; clear hSw; go_simp; try with_reducible rfl)
  try simp only [Act.put, List.setIfInBounds_toArray, List.set_cons_zero, List.set_cons_succ]
  refine wpAnyH_ready (rs := [8]) (by kernel_rfl) (by simp) ?_
  refine AllReadyH.cons (o := _) rfl (fun K hK => ?_) AllReadyH.nil
  go_simp
  have SB : Hid (Sep3 noObj (headO 5 2 1 2 [110, 101, 119, 33] gc) (pairO (pairO (pairO (carO g (carC Ak 3 ck 5 2 ((4 : Nat) : Int) ((2 : Nat) : Int) ((1 : Nat) : Int) Ah ch 2 gc) Ak [107, 101, 121] Ah (Sha.D [110, 101, 119, 33])) (allO A5 (bv FLL))) (allO A1 (bv FLL))) (allO (some ⟨wf.heap.size, 0, none⟩) (Dc.uv [1, 0]))) w2 (wf.alloc (.cells #[.int .u32 1, .int .u32 0] 23))) := Lib.hid (SF.out.create4 keeps_no (keeps_head _ _ _ _ _ _) (keeps_pair (keeps_pair (keeps_car _ _ _ _ _ _) (keeps_all _ _)) (keeps_all _ _)) ((Below.refl _ _).alloc (Nat.le_refl _) _) (all_two wf 1 0))
  refine hK.out _ _ (sep_cv3 HN5.out HN1.out SB.out) (fun hH2 => ?_)
  clear hK K
  try simp only [Act.put, List.setIfInBounds_toArray, List.set_cons_zero, List.set_cons_succ]
  refine wpAnyH_ready (rs := [9]) (by kernel_rfl) (by simp) ?_
  refine AllReadyH.cons (o := _) rfl (fun K hK => ?_) AllReadyH.nil
  go_simp
  have he9 := enough_any (n := 2) (c := 2) (us := [1, 0]) SB.out (keeps_pair (keeps_pair (keeps_pair (keeps_car _ _ _ _ _ _) (keeps_all _ _)) (keeps_all _ _)) (keeps_all _ _)) look_three (by decide) (by omega) (by omega) (by omega) HCT.out HDT.out rfl (two_lt (by decide) (by decide)) (by omega) (by omega) (fun h => by cases h) (by omega)
  rw [aw_yes] at he9
  refine he9.mono ?_
  clear he9
  rintro e' we ⟨rfl, hs9⟩
  have SE := Lib.hid hs9.out.drop
  clear hs9
  go_simp
  refine hK.out _ _ (sep_cv2 HN5.out HN1.out SE.out) (fun hH3 => ?_)
  clear hK K
  try simp only [Act.put, List.setIfInBounds_toArray, List.set_cons_zero, List.set_cons_succ]
  refine wpAnyH_take (i := 10) (oi := _) (v := ?tkv8008) rfl (by kernel_rfl) (by kernel_rfl) (by kernel_rfl) (fun _ _ _ h => h) (Or.inl ⟨by rfl, ?tky8008⟩) hH3 ?tkr8008
  case tky8008 => (intro w' hSw; clear hSw; go_simp; try with_reducible rfl)
  try simp only [Act.put, List.setIfInBounds_toArray, List.set_cons_zero, List.set_cons_succ]
  refine wpAnyH_take (i := 11) (oi := _) (v := ?tkv8009) rfl (by kernel_rfl) (by kernel_rfl) (by kernel_rfl) (fun _ _ _ h => h) (Or.inl ⟨by rfl, ?tky8009⟩) hH3 ?tkr8009
  case tky8009 => (intro w' hSw; clear hSw; go_simp; try with_reducible rfl)
  try simp only [Act.put, List.setIfInBounds_toArray, List.set_cons_zero, List.set_cons_succ]
  refine wpAnyH_take (i := 12) (oi := _) (v := ?tkv8010) rfl (by kernel_rfl) (by kernel_rfl) (by kernel_rfl) (fun _ _ _ h => h) (Or.inl ⟨by rfl, ?tky8010⟩) hH3 ?tkr8010
  case tky8010 => (intro w' hSw; clear hSw; go_simp; try with_reducible rfl)
  try simp only [Act.put, List.setIfInBounds_toArray, List.set_cons_zero, List.set_cons_succ]
  refine wpAnyH_ready (rs := [13]) (by kernel_rfl) (by simp) ?_
  refine AllReadyH.cons (o := _) rfl (fun K hK => ?_) AllReadyH.nil
  go_simp
  have SB2 : Hid (Sep3 noObj (headO 5 2 1 2 [110, 101, 119, 33] gc) (pairO (pairO (pairO (carO g (carC Ak 3 ck 5 2 ((4 : Nat) : Int) ((2 : Nat) : Int) ((1 : Nat) : Int) Ah ch 2 gc) Ak [107, 101, 121] Ah (Sha.D [110, 101, 119, 33])) (allO A5 (bv FLL))) (allO A1 (bv FLL))) (allO (some ⟨we.heap.size, 0, none⟩) (Dc.uv [0, 0]))) w2 (we.alloc (.cells #[.int .u32 0, .int .u32 0] 23))) := Lib.hid (SE.out.create4 keeps_no (keeps_head _ _ _ _ _ _) (keeps_pair (keeps_pair (keeps_car _ _ _ _ _ _) (keeps_all _ _)) (keeps_all _ _)) ((Below.refl _ _).alloc (Nat.le_refl _) _) (all_two we 0 0))
  refine hK.out _ _ (sep_cv3 HN5.out HN1.out SB2.out) (fun hH4 => ?_)
  clear hK K
  try simp only [Act.put, List.setIfInBounds_toArray, List.set_cons_zero, List.set_cons_succ]
  refine wpAnyH_ready (rs := [14]) (by kernel_rfl) (by simp) ?_
  refine AllReadyH.cons (o := _) rfl (fun K hK => ?_) AllReadyH.nil
  go_simp
  have he14 := enough_any (n := 2) (c := 2) (us := [0, 0]) SB2.out (keeps_pair (keeps_pair (keeps_pair (keeps_car _ _ _ _ _ _) (keeps_all _ _)) (keeps_all _ _)) (keeps_all _ _)) look_three (by decide) (by omega) (by omega) (by omega) HCT.out HDT.out rfl (two_lt (by decide) (by decide)) (by omega) (by omega) (fun h => by cases h) (by omega)
  rw [aw_no] at he14
  refine he14.mono ?_
  clear he14
  rintro e' wg ⟨rfl, hs14⟩
  have SG := Lib.hid hs14.out.drop
  clear hs14
  go_simp
  refine hK.out _ _ (sep_cv2 HN5.out HN1.out SG.out) (fun hH5 => ?_)
  clear hK K
  try simp only [Act.put, List.setIfInBounds_toArray, List.set_cons_zero, List.set_cons_succ]
  refine wpAnyH_take (i := 15) (oi := _) (v := ?tkv8011) rfl (by kernel_rfl) (by kernel_rfl) (by kernel_rfl) (fun _ _ _ h => h) (Or.inl ⟨by rfl, ?tky8011⟩) hH5 ?tkr8011
  case tky8011 => (intro w' hSw; clear hSw; go_simp; try with_reducible rfl)
  try simp only [Act.put, List.setIfInBounds_toArray, List.set_cons_zero, List.set_cons_succ]
  refine wpAnyH_take (i := 16) (oi := _) (v := ?tkv8012) rfl (by kernel_rfl) (by kernel_rfl) (by kernel_rfl) (fun _ _ _ h => h) (Or.inl ⟨by rfl, ?tky8012⟩) hH5 ?tkr8012
  case tky8012 => (intro w' hSw; clear hSw; go_simp; try with_reducible rfl)
  try simp only [Act.put, List.setIfInBounds_toArray, List.set_cons_zero, List.set_cons_succ]
  refine wpAnyH_take (i := 17) (oi := _) (v := ?tkv8013) rfl (by kernel_rfl) (by kernel_rfl) (by kernel_rfl) (fun _ _ _ h => h) (Or.inl ⟨by rfl, ?tky8013⟩) hH5 ?tkr8013
  case tky8013 => (intro w' hSw; clear hSw; go_simp; try with_reducible rfl)
  try simp only [Act.put, List.setIfInBounds_toArray, List.set_cons_zero, List.set_cons_succ]
  refine wpAnyH_done (by kernel_rfl) ?_ _
  refine NoPanic.normal ?_
  have HEND := Lib.hid (HB2.out.trans (SG.out.b.mono HB2.out.size))
  go_wp2_with fail
  go_ret
  exact ⟨rfl, HEND.out⟩
end Go.Proofs.YtidcnoejihjgjaaGreatDoor.Car
