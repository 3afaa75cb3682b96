/- CarouselForms' walk. -/
import Derived.Test.YtidcnoejihjgjaaGreatDoorCarEnWQF
import Derived.Test.YtidcnoejihjgjaaGreatDoorCarMaQF
import Derived.Test.YtidcnoejihjgjaaGreatDoorZZFQF
import Derived.Test.YtidcnoejihjgjaaGreatDoorZZBQF
import Derived.Test.YtidcnoejihjgjaaGreatDoorZZAQF
namespace Go.Proofs.YtidcnoejihjgjaaGreatDoor.Car
open Go.RowKit
open VecM RdM Vc Sp Pc El Cd Dc
open FrM (frame)
def boxC (g : Nat) (cs : Array Value) (t : TypeId) : Dc.Obj := fun W F => W.heap[g]? = some (.cells cs t (0, 0)) ∧ F g
theorem keeps_box1 (g : Nat) (cs : Array Value) (t : TypeId) : Dc.Keeps (boxC g cs t) := fun _ _ _ ⟨h1, h2⟩ hk _ => ⟨(hk g h2 (Array.getElem?_eq_some_iff.1 h1).1).trans h1, h2⟩
theorem all_row {W : World} {F : Nat → Prop} {A : Option Addr} {l : List UInt8} {n : Nat} (hn : n = l.length) (h : allO A (bv l) W F) : Row W W.heap.size A n (bv l) := by
  refine ⟨by rw [hn, bv_length], fun h0 => ?_⟩
  have h00 : 0 < (bv l).length := by rw [bv_length, ← hn]; exact h0
  obtain ⟨g, o, e, _, hl, _⟩ := h 0 _ (List.getElem?_eq_getElem h00)
  refine ⟨g, o, e, hl, fun j v hv => ?_⟩
  obtain ⟨g2, o2, e2, _, _, hc⟩ := h j v hv
  rw [e] at e2
  injection e2 with e2
  injection e2 with e3 e4
  rw [e3, e4]
  exact hc
section
variable {X Y R C : Dc.Obj} {w W : World} {A4 A9 A11 : Option Addr} {hd FL GL : List UInt8} {gx : Nat} {cx : Array Value} {tx : TypeId}
theorem fw_parts (S : Dc.Sep3 X Y (pairO R (pairO (pairO (pairO (pairO C (allO A4 (bv hd))) (boxC gx cx tx)) (allO A9 (bv FL))) (allO A11 (bv GL)))) w W) : (∃ F, R W F) ∧ (∃ F, C W F) ∧ (∃ F, allO A4 (bv hd) W F) ∧ W.heap[gx]? = some (.cells cx tx (0, 0)) ∧ (∃ F, allO A9 (bv FL) W F) ∧ ∃ F, allO A11 (bv GL) W F := by
  obtain ⟨_, _, _, _, _, ⟨_, _, hr, ⟨_, _, ⟨_, _, ⟨_, _, ⟨_, _, hc, h4, _⟩, hx, _⟩, h9, _⟩, h11, _⟩, _⟩, _⟩ := S
  exact ⟨⟨_, hr⟩, ⟨_, hc⟩, ⟨_, h4⟩, hx.1, ⟨_, h9⟩, _, h11⟩
theorem fw_box (S : Dc.Sep3 X Y (pairO R (pairO (pairO (pairO (pairO C (allO A4 (bv hd))) (boxC gx cx tx)) (allO A9 (bv FL))) (allO A11 (bv GL)))) w W) : W.heap[gx]? = some (.cells cx tx (0, 0)) := (fw_parts S).2.2.2.1
theorem fw_car (S : Dc.Sep3 X Y (pairO R (pairO (pairO (pairO (pairO C (allO A4 (bv hd))) (boxC gx cx tx)) (allO A9 (bv FL))) (allO A11 (bv GL)))) w W) : ∃ F, C W F := (fw_parts S).2.1
theorem fw_row4 {n : Nat} (S : Dc.Sep3 X Y (pairO R (pairO (pairO (pairO (pairO C (allO A4 (bv hd))) (boxC gx cx tx)) (allO A9 (bv FL))) (allO A11 (bv GL)))) w W) (hn : n = hd.length) : Row W W.heap.size A4 n (bv hd) := by
  obtain ⟨F, h⟩ := (fw_parts S).2.2.1
  exact all_row hn h
theorem fw_cv9 {n c : Nat} (hn : n = FL.length) (S : Dc.Sep3 X Y (pairO R (pairO (pairO (pairO (pairO C (allO A4 (bv hd))) (boxC gx cx tx)) (allO A9 (bv FL))) (allO A11 (bv GL)))) w W) : (convert 22 9 (.slice A9 n c)).run Tryz.prog W = .ok (.string ⟨FL.toArray⟩) W := by
  obtain ⟨F, h⟩ := (fw_parts S).2.2.2.2.1
  exact conv_all c hn h
theorem fw_cv11 {n c : Nat} (hn : n = GL.length) (S : Dc.Sep3 X Y (pairO R (pairO (pairO (pairO (pairO C (allO A4 (bv hd))) (boxC gx cx tx)) (allO A9 (bv FL))) (allO A11 (bv GL)))) w W) : (convert 22 9 (.slice A11 n c)).run Tryz.prog W = .ok (.string ⟨GL.toArray⟩) W := by
  obtain ⟨F, h⟩ := (fw_parts S).2.2.2.2.2
  exact conv_all c hn h
theorem fw_cvn {n c : Nat} (hn : n = FL.length) (S : Dc.Sep3 X Y (pairO R (allO A9 (bv FL))) w W) : (convert 22 9 (.slice A9 n c)).run Tryz.prog W = .ok (.string ⟨FL.toArray⟩) W := by
  obtain ⟨F, h⟩ := S.look4
  exact conv_all c hn h
theorem fw_rd {I J : Dc.Obj} (S : Dc.Sep3 X Y (pairO (pairO (pairO R (pairO (pairO (pairO (pairO C (allO A4 (bv hd))) (boxC gx cx tx)) (allO A9 (bv FL))) (allO A11 (bv GL)))) I) J) w W) : ∃ F, R W F := (fw_parts S.drop.drop).1
end
theorem fw_c5 {C I J K L : Dc.Obj} {W : World} {F : Nat → Prop} (h : pairO (pairO (pairO (pairO C I) J) K) L W F) : ∃ G, C W G := by
  obtain ⟨_, _, ⟨_, _, ⟨_, _, ⟨_, _, hc, _⟩, _⟩, _⟩, _⟩ := h
  exact ⟨_, hc⟩
theorem fw_car3 {R C I J K L M O : Dc.Obj} (W : World) (F : Nat → Prop) (h : pairO (pairO (pairO R (pairO (pairO (pairO (pairO C I) J) K) L)) M) O W F) : ∃ G, C W G := by
  obtain ⟨_, _, ⟨_, _, ⟨_, _, _, h5, _⟩, _⟩, _⟩ := h
  exact fw_c5 h5
theorem fw_look2 {g s v kk gc nk ck ch : Nat} {L : Int} {Z P : Nat} {Ak Ah : Option Addr} {key hash : List UInt8} {R I J K M O : Dc.Obj} : Look2 (pairO (pairO R (pairO (pairO (pairO (pairO (carO g (carC Ak nk ck s v L (Z : Int) (P : Int) Ah ch kk gc) Ak key Ah hash) I) J) K) M)) O) g s gc := by
  intro W F h
  obtain ⟨_, _, ⟨_, _, _, h5, _⟩, _⟩ := h
  obtain ⟨G, hc⟩ := fw_c5 h5
  have h2 := bx7 hc.1
  exact ⟨h2 1 _ rfl, h2 11 _ rfl⟩
theorem _root_.Go.Proofs.YtidcnoejihjgjaaGreatDoor.Dc.Sep3.pswap {A B C D : Dc.Obj} {w0 W : World} (h : Dc.Sep3 A B (pairO C D) w0 W) : Dc.Sep3 A B (pairO D C) w0 W := by
  obtain ⟨F, G, H, a, b, ⟨H1, H2, c, d, h0, h8⟩, r⟩ := h
  exact ⟨F, G, H, a, b, ⟨H2, H1, d, c, fun q x y => h0 q y x, fun q => (h8 q).trans Or.comm⟩, r⟩
set_option maxRecDepth 100000 in
set_option maxHeartbeats 12800000 in
theorem carforms_walk (Ak : Option Addr) (nk ck : Nat) (key : List UInt8) (s v : Nat) (A : Option Addr) (n c : Nat) (l : List UInt8) (Z0 P0 : Int) (id : Nat) (U : Option Addr) (m cu : Nat) (us : List Nat) (w : World) (ht : Sh.Tab w) (hd : DTab w) (hk : Row w w.heap.size Ak nk (bv key)) (hr : Row w w.heap.size A n (bv l)) (hnc : n ≤ c) (hcm : c ≤ 9223372036854775807) (hmc : m ≤ cu) (hcu : cu ≤ 9223372036854775807) (hs : s < 4294967296) (hv : v < 4294967296) (hid : id < 4294967296)
    (hu : ∀ i, i < m → ∃ b o, U = some ⟨b, o, none⟩ ∧ b < w.heap.size ∧ w.cell? ⟨b, o + i, none⟩ = some (.int .u32 ((us.getD i 0 : Nat) : Int)) ∧ us.getD i 0 < 4294967296) :
    Calls Tryz.prog 3 #[.slice Ak nk ck, .int .u32 (s : Int), .int .u32 (v : Int), .slice A n c, .int .i64 Z0, .int .i64 P0, .int .u32 (id : Int), .slice U m cu] w fun e w' => e = .returned (.bool true) ∧ Below w.heap.size w w' := by
  have HU := Lib.hid hu
  have HAW := Lib.hid (awake26_any w ht hd)
  have HT := Lib.hid ht
  have HD := Lib.hid hd
  have HK := Lib.hid hk
  have HR := Lib.hid hr
  have HAWW : Hid (∀ W, Below w.heap.size w W → Calls Tryz.prog 5 #[] W fun e w' => e = .returned (.bool true) ∧ Below W.heap.size W w') := Lib.hid (fun W hW => awake26_any W (ht.below hW ht.1) (hd.grow hW))
  clear hu ht hd hr hk
  by_cases h1 : 100 < nk
  · have h1i : (100 : Int) < (nk : Int) := by omega
    go_enter Tryz.func3, Tryz.ntmps3
    go_wp2_with fail
    refine HAW.out.mono ?_
    rintro e w1 ⟨rfl, hb⟩
    have HB := Lib.hid hb
    clear hb
    go_wp2_with fail
    go_ret
    exact ⟨rfl, HB.out⟩
  have h1i : ¬ (100 : Int) < (nk : Int) := by omega
  by_cases h2 : 700 < n
  · have h2i : (700 : Int) < (n : Int) := by omega
    go_enter Tryz.func3, Tryz.ntmps3
    go_wp2_with fail
    refine HAW.out.mono ?_
    rintro e w1 ⟨rfl, hb⟩
    have HB := Lib.hid hb
    clear hb
    go_wp2_with fail
    go_ret
    exact ⟨rfl, HB.out⟩
  have h2i : ¬ (700 : Int) < (n : Int) := by omega
  by_cases h3 : 200 < m
  · have h3i : (200 : Int) < (m : Int) := by omega
    go_enter Tryz.func3, Tryz.ntmps3
    go_wp2_with fail
    refine HAW.out.mono ?_
    rintro e w1 ⟨rfl, hb⟩
    have HB := Lib.hid hb
    clear hb
    go_wp2_with fail
    go_ret
    exact ⟨rfl, HB.out⟩
  have h3i : ¬ (200 : Int) < (m : Int) := by omega
  clear HAW
  by_cases h4 : 64 < nk
  · skip
    have HNW := Lib.hid (cnew_long Ak nk ck s v A n c l Z0 P0 w HT.out HR.out (by omega) h4)
    have hk64 : (64 : Int) < (nk : Int) := by omega
    skip
    skip
    go_enter Tryz.func3, Tryz.ntmps3
    go_wp2_with fail
    refine HNW.out.mono ?_
    rintro e w3 ⟨rfl, hb3⟩
    have HB3 := Lib.hid hb3.out
    have HDG := Lib.hid (Sh.rdig_any w3.heap.size n c A l w3 ((HR.out.below HB3.out).more HB3.out.size) (Nat.le_refl _) (by omega))
    clear HNW hb3
    go_wp2_with fail
    refine HDG.out.mono ?_
    rintro e w4 ⟨A4, c4, rfl, ho4, hb4⟩
    have HB4 := Lib.hid (HB3.out.trans (hb4.out.mono HB3.out.size))
    have HX5 := Lib.hid (heap_alloc_new w4 (.cells #[.int .u32 (s : Int), .int .u32 (v : Int), .int .i64 (n : Int), .int .i64 Z0, .int .i64 P0, .slice A4 32 c4] 32))
    have HB5 : Hid (Below w.heap.size w (w4.alloc (.cells #[.int .u32 (s : Int), .int .u32 (v : Int), .int .i64 (n : Int), .int .i64 Z0, .int .i64 P0, .slice A4 32 c4] 32))) := Lib.hid (HB4.out.trans (((Below.refl w4.heap.size w4).alloc (Nat.le_refl _) _).mono HB4.out.size))
    clear HDG ho4 hb4
    go_upto_region 5 with fail
    generalize (w4.alloc (.cells #[.int .u32 (s : Int), .int .u32 (v : Int), .int .i64 (n : Int), .int .i64 Z0, .int .i64 P0, .slice A4 32 c4] 32)) = w5 at *
    have HB6 := HB5
    go_wp2_with fail
    refine (HAWW.out _ HB6.out).mono ?_
    rintro e wz ⟨rfl, hbz⟩
    have HEND := Lib.hid (HB6.out.trans (hbz.mono HB6.out.size))
    clear hbz
    go_wp2_with fail
    go_ret
    exact ⟨rfl, HEND.out⟩
  cases hm : manB (n : Int) Z0 P0 32 with
  | false =>
    have HNW := Lib.hid (cnew_bad Ak nk ck s v A n c l Z0 P0 w HT.out HR.out (by omega) (by omega) hm)
    have hk64 : ¬ (64 : Int) < (nk : Int) := by omega
    have HMF := Lib.hid hm
    clear hm
    go_enter Tryz.func3, Tryz.ntmps3
    go_wp2_with fail
    refine HNW.out.mono ?_
    rintro e w3 ⟨rfl, hb3⟩
    have HB3 := Lib.hid hb3.out
    have HDG := Lib.hid (Sh.rdig_any w3.heap.size n c A l w3 ((HR.out.below HB3.out).more HB3.out.size) (Nat.le_refl _) (by omega))
    clear HNW hb3
    go_wp2_with fail
    refine HDG.out.mono ?_
    rintro e w4 ⟨A4, c4, rfl, ho4, hb4⟩
    have HB4 := Lib.hid (HB3.out.trans (hb4.out.mono HB3.out.size))
    have HX5 := Lib.hid (heap_alloc_new w4 (.cells #[.int .u32 (s : Int), .int .u32 (v : Int), .int .i64 (n : Int), .int .i64 Z0, .int .i64 P0, .slice A4 32 c4] 32))
    have HB5 : Hid (Below w.heap.size w (w4.alloc (.cells #[.int .u32 (s : Int), .int .u32 (v : Int), .int .i64 (n : Int), .int .i64 Z0, .int .i64 P0, .slice A4 32 c4] 32))) := Lib.hid (HB4.out.trans (((Below.refl w4.heap.size w4).alloc (Nat.le_refl _) _).mono HB4.out.size))
    clear HDG ho4 hb4
    go_upto_region 5 with fail
    generalize (w4.alloc (.cells #[.int .u32 (s : Int), .int .u32 (v : Int), .int .i64 (n : Int), .int .i64 Z0, .int .i64 P0, .slice A4 32 c4] 32)) = w5 at *
    obtain ⟨c0, c1', c2, d3, d4, d5⟩ := bx6 HX5.out
    have HMM := Lib.hid (rmanMay_any s v (n : Int) Z0 P0 A4 32 c4 w5)
    rw [HMF.out] at HMM
    go_wp2_with fail
    refine HMM.out.mono ?_
    rintro e w6 ⟨rfl, hb6⟩
    have HB6 := Lib.hid (HB5.out.trans (hb6.mono HB5.out.size))
    clear HMM hb6 c0 c1' c2 d3 d4 d5
    go_wp2_with fail
    refine (HAWW.out _ HB6.out).mono ?_
    rintro e wz ⟨rfl, hbz⟩
    have HEND := Lib.hid (HB6.out.trans (hbz.mono HB6.out.size))
    clear hbz
    go_wp2_with fail
    go_ret
    exact ⟨rfl, HEND.out⟩
  | true =>
    have hofb : ofB (n : Int) Z0 P0 = true ∧ True := by
      unfold manB at hm
      rw [Bool.and_eq_true] at hm
      exact ⟨hm.1, trivial⟩
    obtain ⟨L', zz, p, hL, rfl, rfl, hL1, hL2, hz1, hz2, hp16, _⟩ := man_bounds hm
    obtain rfl : n = L' := by omega
    clear hL
    obtain ⟨kk, hkk⟩ : ∃ K, BlkM.count (n : Int) (zz : Int) = K := ⟨_, rfl⟩
    have hK : 1 ≤ kk ∧ kk ≤ 64 := by
      have h := hofb.1
      unfold ofB mayB at h
      rw [hkk] at h
      simp at h
      omega
    have HKK := Lib.hid hK
    have HCN := Lib.hid hkk
    have HZZ : Hid (1 ≤ zz ∧ zz ≤ 16) := Lib.hid ⟨hz1, hz2⟩
    have HMB := Lib.hid hm
    have HOFB := Lib.hid hofb.1
    have HN80 : Hid (kk + p ≤ 80) := Lib.hid (by omega)
    have hil := HR.out.blen
    have HIL := Lib.hid hil
    have hkl := HK.out.blen
    have HKL := Lib.hid hkl
    have HNW := Lib.hid (cnew_any Ak nk ck key s v A n c l zz p kk w HT.out HK.out (by omega) HR.out (by omega) hs hkk hK hp16 ⟨hz1, hz2⟩)
    have hk64 : ¬ (64 : Int) < (nk : Int) := by omega
    clear hm hofb hkk hK hil hkl
    go_enter Tryz.func3, Tryz.ntmps3
    go_wp2_with fail
    refine HNW.out.mono ?_
    rintro e w3 ⟨g, gc, Aq, cq, Ah, ch, rfl, hs3⟩
    have S3 : Hid (Dc.Sep3 Dc.noObj (headO s kk p zz l gc) (carO g (carC Aq nk cq s v (n : Int) (zz : Int) (p : Int) Ah ch kk gc) Aq key Ah (Sha.D l)) w w3) := Lib.hid hs3.out
    clear hs3 HNW
    have HDG := Lib.hid (Sh.rdig_any w.heap.size n c A l w3 (HR.out.below S3.out.b) S3.out.b.size (by omega))
    go_wp2_with fail
    refine HDG.out.mono ?_
    rintro e w4 ⟨A4, c4, rfl, ho4, hb4⟩
    have S4 : Hid (Dc.Sep3 Dc.noObj (headO s kk p zz l gc) (pairO (carO g (carC Aq nk cq s v (n : Int) (zz : Int) (p : Int) Ah ch kk gc) Aq key Ah (Sha.D l)) (allO A4 (bv (Sha.D l)))) w w4) := Lib.hid (S3.out.create4 Dc.keeps_no (keeps_head _ _ _ _ _ _) (keeps_car _ _ _ _ _ _) hb4.out (all_own ho4.out))
    have R4 := Lib.hid (RowP.of_row (Row.of_own ho4.out))
    clear HDG ho4 hb4 S3
    have HX5 := Lib.hid (heap_alloc_new w4 (.cells #[.int .u32 (s : Int), .int .u32 (v : Int), .int .i64 (n : Int), .int .i64 (zz : Int), .int .i64 (p : Int), .slice A4 32 c4] 32))
    have hb45 : Below w4.heap.size w4 (w4.alloc (.cells #[.int .u32 (s : Int), .int .u32 (v : Int), .int .i64 (n : Int), .int .i64 (zz : Int), .int .i64 (p : Int), .slice A4 32 c4] 32)) := (Below.refl _ _).alloc (Nat.le_refl _) _
    have HL45 : Hid ((w4.alloc (.cells #[.int .u32 (s : Int), .int .u32 (v : Int), .int .i64 (n : Int), .int .i64 (zz : Int), .int .i64 (p : Int), .slice A4 32 c4] 32)).heap.size = w4.heap.size + 1) := Lib.hid (by simp)
    have S5 : Hid (Dc.Sep3 Dc.noObj (headO s kk p zz l gc) (pairO (pairO (carO g (carC Aq nk cq s v (n : Int) (zz : Int) (p : Int) Ah ch kk gc) Aq key Ah (Sha.D l)) (allO A4 (bv (Sha.D l)))) (boxC w4.heap.size #[.int .u32 (s : Int), .int .u32 (v : Int), .int .i64 (n : Int), .int .i64 (zz : Int), .int .i64 (p : Int), .slice A4 32 c4] 32)) w (w4.alloc (.cells #[.int .u32 (s : Int), .int .u32 (v : Int), .int .i64 (n : Int), .int .i64 (zz : Int), .int .i64 (p : Int), .slice A4 32 c4] 32))) := Lib.hid (S4.out.create4 Dc.keeps_no (keeps_head _ _ _ _ _ _) (keeps_pair (keeps_car _ _ _ _ _ _) (keeps_all _ _)) hb45 ⟨HX5.out, Nat.le_refl _, by have := HL45.out; omega⟩)
    have R5 := Lib.hid (R4.out.below hb45)
    clear hb45 S4 R4
    go_upto_region 5 with fail
    generalize (w4.alloc (.cells #[.int .u32 (s : Int), .int .u32 (v : Int), .int .i64 (n : Int), .int .i64 (zz : Int), .int .i64 (p : Int), .slice A4 32 c4] 32)) = w5 at *
    obtain ⟨c0, c1', c2, d3, d4, d5⟩ := bx6 HX5.out
    have HMM := Lib.hid (rmanMay_any s v (n : Int) (zz : Int) (p : Int) A4 32 c4 w5)
    rw [HMB.out] at HMM
    go_wp2_with fail
    refine HMM.out.mono ?_
    rintro e w6 ⟨rfl, hb6⟩
    have S6 : Hid (Dc.Sep3 Dc.noObj (headO s kk p zz l gc) (pairO (pairO (carO g (carC Aq nk cq s v (n : Int) (zz : Int) (p : Int) Ah ch kk gc) Aq key Ah (Sha.D l)) (allO A4 (bv (Sha.D l)))) (boxC w4.heap.size #[.int .u32 (s : Int), .int .u32 (v : Int), .int .i64 (n : Int), .int .i64 (zz : Int), .int .i64 (p : Int), .slice A4 32 c4] 32)) w w6) := Lib.hid (S5.out.below Dc.keeps_no (keeps_head _ _ _ _ _ _) (keeps_pair (keeps_pair (keeps_car _ _ _ _ _ _) (keeps_all _ _)) (keeps_box1 _ _ _)) hb6)
    have R6 := Lib.hid (R5.out.below hb6)
    have HX6 : Hid (w6.heap[w4.heap.size]? = some (.cells #[.int .u32 (s : Int), .int .u32 (v : Int), .int .i64 (n : Int), .int .i64 (zz : Int), .int .i64 (p : Int), .slice A4 32 c4] 32 (0, 0))) := Lib.hid ((hb6.block w4.heap.size (by have := HL45.out; omega)).trans HX5.out)
    have HL6 : Hid (w4.heap.size < w6.heap.size) := Lib.hid (by have := HL45.out; have := hb6.size; omega)
    clear HMM hb6 c0 c1' c2 d3 d4 d5 S5 R5 HX5 HL45
    obtain ⟨c0, c1', c2, d3, d4, d5⟩ := bx6 HX6.out
    have HPR := Lib.hid (rpar_all s v (n : Int) (zz : Int) (p : Int) A4 32 c4 w6)
    go_wp2_with fail
    refine HPR.out.mono ?_
    rintro e w7 ⟨sq, Kq, Pq, Zq, rfl, hb7, hval⟩
    obtain ⟨rfl, rfl, rfl, rfl⟩ := hval HOFB.out
    rw [HOFB.out, HCN.out]
    have S7 : Hid (Dc.Sep3 Dc.noObj (headO s kk p zz l gc) (pairO (pairO (carO g (carC Aq nk cq s v (n : Int) (zz : Int) (p : Int) Ah ch kk gc) Aq key Ah (Sha.D l)) (allO A4 (bv (Sha.D l)))) (boxC w4.heap.size #[.int .u32 (s : Int), .int .u32 (v : Int), .int .i64 (n : Int), .int .i64 (zz : Int), .int .i64 (p : Int), .slice A4 32 c4] 32)) w w7) := Lib.hid (S6.out.below Dc.keeps_no (keeps_head _ _ _ _ _ _) (keeps_pair (keeps_pair (keeps_car _ _ _ _ _ _) (keeps_all _ _)) (keeps_box1 _ _ _)) hb7)
    have R7 := Lib.hid (R6.out.below hb7)
    have HX7 : Hid (w7.heap[w4.heap.size]? = some (.cells #[.int .u32 (s : Int), .int .u32 (v : Int), .int .i64 (n : Int), .int .i64 (zz : Int), .int .i64 (p : Int), .slice A4 32 c4] 32 (0, 0))) := Lib.hid ((hb7.block w4.heap.size HL6.out).trans HX6.out)
    have HL7 : Hid (w4.heap.size < w7.heap.size) := Lib.hid (Nat.lt_of_lt_of_le HL6.out hb7.size)
    clear HPR hval hb7 c0 c1' c2 d3 d4 d5 S6 R6 HX6 HL6
    have HP8 := Lib.hid (heap_alloc_new w7 (.cells #[.int .u32 (s : Int), .int .i64 (kk : Int), .int .i64 (p : Int), .int .i64 (zz : Int)] 35))
    have hb78 : Below w7.heap.size w7 (w7.alloc (.cells #[.int .u32 (s : Int), .int .i64 (kk : Int), .int .i64 (p : Int), .int .i64 (zz : Int)] 35)) := (Below.refl _ _).alloc (Nat.le_refl _) _
    have HL8 : Hid (w7.heap.size < (w7.alloc (.cells #[.int .u32 (s : Int), .int .i64 (kk : Int), .int .i64 (p : Int), .int .i64 (zz : Int)] 35)).heap.size) := Lib.hid (by simp)
    have S8 : Hid (Dc.Sep3 Dc.noObj (headO s kk p zz l gc) (pairO (pairO (carO g (carC Aq nk cq s v (n : Int) (zz : Int) (p : Int) Ah ch kk gc) Aq key Ah (Sha.D l)) (allO A4 (bv (Sha.D l)))) (boxC w4.heap.size #[.int .u32 (s : Int), .int .u32 (v : Int), .int .i64 (n : Int), .int .i64 (zz : Int), .int .i64 (p : Int), .slice A4 32 c4] 32)) w (w7.alloc (.cells #[.int .u32 (s : Int), .int .i64 (kk : Int), .int .i64 (p : Int), .int .i64 (zz : Int)] 35))) := Lib.hid (S7.out.below Dc.keeps_no (keeps_head _ _ _ _ _ _) (keeps_pair (keeps_pair (keeps_car _ _ _ _ _ _) (keeps_all _ _)) (keeps_box1 _ _ _)) hb78)
    have R8 := Lib.hid (R7.out.below hb78)
    have HX8 : Hid ((w7.alloc (.cells #[.int .u32 (s : Int), .int .i64 (kk : Int), .int .i64 (p : Int), .int .i64 (zz : Int)] 35)).heap[w4.heap.size]? = some (.cells #[.int .u32 (s : Int), .int .u32 (v : Int), .int .i64 (n : Int), .int .i64 (zz : Int), .int .i64 (p : Int), .slice A4 32 c4] 32 (0, 0))) := Lib.hid ((hb78.block w4.heap.size HL7.out).trans HX7.out)
    clear hb78 S7 R7 HX7 HL7
    go_upto_region 8 with fail
    generalize (w7.alloc (.cells #[.int .u32 (s : Int), .int .i64 (kk : Int), .int .i64 (p : Int), .int .i64 (zz : Int)] 35)) = w8 at *
    obtain ⟨c0, c1', c2, d3, d4, d5⟩ := bx6 HX8.out
    have HIM : Hid (IsMan w8 (fun _ => True) #[.int .u32 (s : Int), .int .u32 (v : Int), .int .i64 (n : Int), .int .i64 (zz : Int), .int .i64 (p : Int), .slice A4 32 c4] ⟨s, v, n, zz, p, Sha.D l⟩) := Lib.hid (isMan_of (Ah := A4) (ch := c4) R8.out)
    have hmay : (⟨s, v, n, zz, p, Sha.D l⟩ : LMan).may = true := by
      show manB (n : Int) (zz : Int) (p : Int) (Sha.D l).length = true
      rw [Sha.D_length]; exact HMB.out
    have HMY := Lib.hid (rbytes_yes Ak nk ck key ((HK.out.below S8.out.b).more S8.out.b.size) (by omega) HIM.out hmay ⟨hs, hv⟩)
    have HLEN : Hid (((⟨s, v, n, zz, p, Sha.D l⟩ : LMan).bytes ++ Sh.tagOf key (⟨s, v, n, zz, p, Sha.D l⟩ : LMan).bytes).length = 76) := Lib.hid (by
      rw [List.length_append, bytes_len, Sh.tagOf_length, may_32 hmay])
    have HFL : Hid ((firstL key s v n zz p l) = frame 1 ((⟨s, v, n, zz, p, Sha.D l⟩ : LMan).bytes ++ Sh.tagOf key (⟨s, v, n, zz, p, Sha.D l⟩ : LMan).bytes)) := Lib.hid rfl
    obtain ⟨ML, hML⟩ : ∃ q, (⟨s, v, n, zz, p, Sha.D l⟩ : LMan).bytes ++ Sh.tagOf key (⟨s, v, n, zz, p, Sha.D l⟩ : LMan).bytes = q := ⟨_, rfl⟩
    rw [hML] at HMY HLEN HFL
    obtain ⟨FL, hFL⟩ : ∃ q, (firstL key s v n zz p l) = q := ⟨_, rfl⟩
    have HFLQ := Lib.hid hFL
    rw [hFL] at HFL
    clear hML hmay HIM hFL R8
    go_wp2_with fail
    refine HMY.out.mono ?_
    rintro e w9 ⟨A8, n8, c8, rfl, hn8, ho8, hb8⟩
    obtain rfl : n8 = 76 := hn8.out.trans HLEN.out
    have S9 : Hid (Dc.Sep3 Dc.noObj (headO s kk p zz l gc) (pairO (pairO (carO g (carC Aq nk cq s v (n : Int) (zz : Int) (p : Int) Ah ch kk gc) Aq key Ah (Sha.D l)) (allO A4 (bv (Sha.D l)))) (boxC w4.heap.size #[.int .u32 (s : Int), .int .u32 (v : Int), .int .i64 (n : Int), .int .i64 (zz : Int), .int .i64 (p : Int), .slice A4 32 c4] 32)) w w9) := Lib.hid (S8.out.below Dc.keeps_no (keeps_head _ _ _ _ _ _) (keeps_pair (keeps_pair (keeps_car _ _ _ _ _ _) (keeps_all _ _)) (keeps_box1 _ _ _)) hb8.out)
    have HP9 : Hid (w9.heap[w7.heap.size]? = some (.cells #[.int .u32 (s : Int), .int .i64 (kk : Int), .int .i64 (p : Int), .int .i64 (zz : Int)] 35 (0, 0))) := Lib.hid ((hb8.out.block w7.heap.size HL8.out).trans HP8.out)
    have HL9 : Hid (w7.heap.size < w9.heap.size) := Lib.hid (Nat.lt_of_lt_of_le HL8.out hb8.out.size)
    have HWR := Lib.hid (r7wrap_ok 1 w9.heap.size 76 c8 A8 ML w9 (Row.of_own ho8.out) (by omega) (Nat.le_refl _))
    clear HMY hn8 ho8 hb8 c0 c1' c2 d3 d4 d5 S8 HX8 HP8 HL8
    go_wp2_with fail
    refine HWR.out.mono ?_
    rintro e w10 ⟨A9, n9, c9, rfl, hn9, ho9, hb9⟩
    rw [← HFL.out] at ho9 hn9
    have HN9 := Lib.hid hn9.out
    have S10 : Hid (Dc.Sep3 Dc.noObj (headO s kk p zz l gc) (pairO (pairO (pairO (carO g (carC Aq nk cq s v (n : Int) (zz : Int) (p : Int) Ah ch kk gc) Aq key Ah (Sha.D l)) (allO A4 (bv (Sha.D l)))) (boxC w4.heap.size #[.int .u32 (s : Int), .int .u32 (v : Int), .int .i64 (n : Int), .int .i64 (zz : Int), .int .i64 (p : Int), .slice A4 32 c4] 32)) (allO A9 (bv FL))) w w10) := Lib.hid (S9.out.create4 Dc.keeps_no (keeps_head _ _ _ _ _ _) (keeps_pair (keeps_pair (keeps_car _ _ _ _ _ _) (keeps_all _ _)) (keeps_box1 _ _ _)) hb9 (all_own ho9))
    have HP10 : Hid (w10.heap[w7.heap.size]? = some (.cells #[.int .u32 (s : Int), .int .i64 (kk : Int), .int .i64 (p : Int), .int .i64 (zz : Int)] 35 (0, 0))) := Lib.hid ((hb9.block w7.heap.size HL9.out).trans HP9.out)
    have HL10 : Hid (w7.heap.size < w10.heap.size) := Lib.hid (Nat.lt_of_lt_of_le HL9.out hb9.size)
    clear HWR hn9 ho9 hb9 S9 HP9 HL9 HFL HLEN
    obtain ⟨y0, y1, y2, y3⟩ := box4 HP10.out
    have HSY := Lib.hid (rsymbol_any s kk p zz id n c A l w10 hs hid HKK.out hp16 HZZ.out ((HR.out.below S10.out.b).more S10.out.b.size) hnc hcm HCN.out)
    go_wp2_with fail
    refine HSY.out.mono ?_
    rintro e w11 ⟨gy, cy, rfl, hoy, hby⟩
    have S11 : Hid (Dc.Sep3 Dc.noObj (headO s kk p zz l gc) (pairO (pairO (pairO (carO g (carC Aq nk cq s v (n : Int) (zz : Int) (p : Int) Ah ch kk gc) Aq key Ah (Sha.D l)) (allO A4 (bv (Sha.D l)))) (boxC w4.heap.size #[.int .u32 (s : Int), .int .u32 (v : Int), .int .i64 (n : Int), .int .i64 (zz : Int), .int .i64 (p : Int), .slice A4 32 c4] 32)) (allO A9 (bv FL))) w w11) := Lib.hid (S10.out.below Dc.keeps_no (keeps_head _ _ _ _ _ _) (keeps_pair (keeps_pair (keeps_pair (keeps_car _ _ _ _ _ _) (keeps_all _ _)) (keeps_box1 _ _ _)) (keeps_all _ _)) hby.out)
    have HP11 : Hid (w11.heap[w7.heap.size]? = some (.cells #[.int .u32 (s : Int), .int .i64 (kk : Int), .int .i64 (p : Int), .int .i64 (zz : Int)] 35 (0, 0))) := Lib.hid ((hby.out.block w7.heap.size HL10.out).trans HP10.out)
    have HL11 : Hid (w7.heap.size < w11.heap.size) := Lib.hid (Nat.lt_of_lt_of_le HL10.out hby.out.size)
    have HSB := Lib.hid (r7bytes_ok s id w11.heap.size zz cy (some ⟨gy, 0, none⟩) (symX s kk p zz l id) w11 hs hid (Row.of_own hoy.out) HZZ.out.1 HZZ.out.2 (Nat.le_refl _))
    clear HSY hoy hby y0 y1 y2 y3 S10 HP10 HL10
    go_wp2_with fail
    refine HSB.out.mono ?_
    rintro e w12 ⟨Ab, nb, cb, rfl, hob, hbb⟩
    have hnb : nb = (symB s id (symX s kk p zz l id)).length := (Row.of_own hob).blen.symm
    have hnb2 : nb ≤ 291 := by
      rw [hnb]
      unfold symB
      rw [List.length_append, List.length_append, show (CrcM.four s).length = 4 from rfl, show (CrcM.four id).length = 4 from rfl, symX_length HKK.out.1 HN80.out]
      omega
    have S12 : Hid (Dc.Sep3 Dc.noObj (headO s kk p zz l gc) (pairO (pairO (pairO (carO g (carC Aq nk cq s v (n : Int) (zz : Int) (p : Int) Ah ch kk gc) Aq key Ah (Sha.D l)) (allO A4 (bv (Sha.D l)))) (boxC w4.heap.size #[.int .u32 (s : Int), .int .u32 (v : Int), .int .i64 (n : Int), .int .i64 (zz : Int), .int .i64 (p : Int), .slice A4 32 c4] 32)) (allO A9 (bv FL))) w w12) := Lib.hid (S11.out.below Dc.keeps_no (keeps_head _ _ _ _ _ _) (keeps_pair (keeps_pair (keeps_pair (keeps_car _ _ _ _ _ _) (keeps_all _ _)) (keeps_box1 _ _ _)) (keeps_all _ _)) hbb)
    have HP12 : Hid (w12.heap[w7.heap.size]? = some (.cells #[.int .u32 (s : Int), .int .i64 (kk : Int), .int .i64 (p : Int), .int .i64 (zz : Int)] 35 (0, 0))) := Lib.hid ((hbb.block w7.heap.size HL11.out).trans HP11.out)
    have HL12 : Hid (w7.heap.size < w12.heap.size) := Lib.hid (Nat.lt_of_lt_of_le HL11.out hbb.size)
    have HWG := Lib.hid (r7wrap_ok 2 w12.heap.size nb cb Ab (symB s id (symX s kk p zz l id)) w12 (Row.of_own hob) hnb2 (Nat.le_refl _))
    clear HSB hnb hnb2 hob hbb S11 HP11 HL11
    obtain ⟨GL, hGL⟩ : ∃ q, (frame 2 (symB s id (symX s kk p zz l id))) = q := ⟨_, rfl⟩
    have HGLQ := Lib.hid hGL
    rw [hGL] at HWG
    clear hGL
    go_wp2_with fail
    refine HWG.out.mono ?_
    rintro e w13 ⟨A11, n11, c11, rfl, hn11, ho11, hb11⟩
    have HN11 := Lib.hid hn11.out
    have S13 : Hid (Dc.Sep3 Dc.noObj (headO s kk p zz l gc) (pairO (pairO (pairO (pairO (carO g (carC Aq nk cq s v (n : Int) (zz : Int) (p : Int) Ah ch kk gc) Aq key Ah (Sha.D l)) (allO A4 (bv (Sha.D l)))) (boxC w4.heap.size #[.int .u32 (s : Int), .int .u32 (v : Int), .int .i64 (n : Int), .int .i64 (zz : Int), .int .i64 (p : Int), .slice A4 32 c4] 32)) (allO A9 (bv FL))) (allO A11 (bv GL))) w w13) := Lib.hid (S12.out.create4 Dc.keeps_no (keeps_head _ _ _ _ _ _) (keeps_pair (keeps_pair (keeps_pair (keeps_car _ _ _ _ _ _) (keeps_all _ _)) (keeps_box1 _ _ _)) (keeps_all _ _)) hb11 (all_own ho11))
    have HP13 : Hid (w13.heap[w7.heap.size]? = some (.cells #[.int .u32 (s : Int), .int .i64 (kk : Int), .int .i64 (p : Int), .int .i64 (zz : Int)] 35 (0, 0))) := Lib.hid ((hb11.block w7.heap.size HL12.out).trans HP12.out)
    clear HWG hn11 ho11 hb11 S12 HP12 HL12
    obtain ⟨y0, y1, y2, y3⟩ := box4 HP13.out
    have HND := Lib.hid (rnewD_any s kk p zz w13 hs HKK.out hp16 HZZ.out)
    go_wp2_with fail
    refine HND.out.mono ?_
    rintro e w14 ⟨gd, gmx, rfl, hsd⟩
    have S14 : Hid (Dc.Sep3 Dc.noObj (headO s kk p zz l gc) (pairO (rdO gd gmx s kk p zz 0 (matF s kk p zz [] (fun i => us.getD i 0) 0)) (pairO (pairO (pairO (pairO (carO g (carC Aq nk cq s v (n : Int) (zz : Int) (p : Int) Ah ch kk gc) Aq key Ah (Sha.D l)) (allO A4 (bv (Sha.D l)))) (boxC w4.heap.size #[.int .u32 (s : Int), .int .u32 (v : Int), .int .i64 (n : Int), .int .i64 (zz : Int), .int .i64 (p : Int), .slice A4 32 c4] 32)) (allO A9 (bv FL))) (allO A11 (bv GL)))) w w14) := Lib.hid (by
      have hb := hsd.out.b
      obtain ⟨F, _, _, a, _, _, _, _, _, h4, _⟩ := hsd.out
      exact (S13.out.create4 Dc.keeps_no (keeps_head _ _ _ _ _ _) (keeps_pair (keeps_pair (keeps_pair (keeps_pair (keeps_car _ _ _ _ _ _) (keeps_all _ _)) (keeps_box1 _ _ _)) (keeps_all _ _)) (keeps_all _ _)) hb (a.more fun b hb => h4 b (.inl hb))).pswap)
    have HP14 := HND
    clear HND HP14 hsd y0 y1 y2 y3 S13 HP13
    have HMK : Hid (∀ W, (Instr.makeSlice 22 (.int .i64 (zz : Int)) (.int .i64 (zz : Int))).run Tryz.prog W = .ok (.slice (some ⟨W.heap.size, 0, none⟩) zz zz) (W.alloc (.cells (Array.replicate zz (.int .u8 0)) 5))) := Lib.hid (fun W => mk_bytes zz (by omega) W)
    have hm200 : (m : Int) ≤ 200 := by omega
    have hzi : (zz : Int) ≤ 16 := by omega
    have hzj : 1 ≤ (zz : Int) := by omega
    go_wp2_with fail
    go_loopw [119] (fun i wr => ∃ k t : Nat, k ≤ m ∧ t ≤ k ∧ i = .int .i64 (k : Int) ∧ Hid (Dc.Sep3 Dc.noObj (headO s kk p zz l gc) (pairO (rdO gd gmx s kk p zz t (matF s kk p zz [] (fun i => us.getD i 0) k)) (pairO (pairO (pairO (pairO (carO g (carC Aq nk cq s v (n : Int) (zz : Int) (p : Int) Ah ch kk gc) Aq key Ah (Sha.D l)) (allO A4 (bv (Sha.D l)))) (boxC w4.heap.size #[.int .u32 (s : Int), .int .u32 (v : Int), .int .i64 (n : Int), .int .i64 (zz : Int), .int .i64 (p : Int), .slice A4 32 c4] 32)) (allO A9 (bv FL))) (allO A11 (bv GL)))) w wr)) (fun i _ => m - (intOf i).toNat)
    case atStart => exact ⟨0, 0, by omega, by omega, rfl, S14⟩
    case round =>
      clear S14
      obtain ⟨k, t, hk, htk, rfl, SR⟩ := hrel
      by_cases hlt : k < m
      · have hki : (k : Int) < (m : Int) := by omega
        obtain ⟨b, o, rfl, hbl, hcell, hul⟩ := HU.out k hlt
        have hcw : wr.cell? ⟨b, o + k, none⟩ = some (.int .u32 ((us.getD k 0 : Nat) : Int)) := (SR.out.b.cell (p := ⟨b, o + k, none⟩) hbl).trans hcell
        have HST := Lib.hid (matZ_step (s := s) (Z := zz) (fun i => us.getD i 0) HKK.out.1 HN80.out k)
        have HIV := Lib.hid (matF_got (s := s) (Z := zz) (img := []) (fun i => us.getD i 0) HKK.out.1 HN80.out k).inv
        obtain ⟨M, hM⟩ : ∃ M, matF s kk p zz [] (fun i => us.getD i 0) k = M := ⟨_, rfl⟩
        obtain ⟨M1, hM1⟩ : ∃ M, matF s kk p zz [] (fun i => us.getD i 0) (k + 1) = M := ⟨_, rfl⟩
        rw [hM] at SR HST HIV
        rw [hM1] at HST
        have HM1 := Lib.hid hM1
        (try dsimp only at HST)
        obtain ⟨iq, hiq⟩ : ∃ q, us.getD k 0 = q := ⟨_, rfl⟩
        rw [hiq] at hcw hul HST
        have HUL := Lib.hid hul
        clear hM hM1 hiq hcell hbl hul
        have hmk := HMK.out wr
        have bal : Below wr.heap.size wr (wr.alloc (.cells (Array.replicate zz (.int .u8 0)) 5)) := (Below.refl _ _).alloc (Nat.le_refl _) _
        have HZR : Hid (Row (wr.alloc (.cells (Array.replicate zz (.int .u8 0)) 5)) (wr.alloc (.cells (Array.replicate zz (.int .u8 0)) 5)).heap.size (some ⟨wr.heap.size, 0, none⟩) zz (bv (List.replicate zz 0))) := Lib.hid (by
          have h := zero_row zz (by omega) wr
          rwa [List.length_replicate] at h)
        have SA : Hid (Dc.Sep3 (rdO gd gmx s kk p zz t M) (headO s kk p zz l gc) (pairO Dc.noObj (pairO (pairO (pairO (pairO (carO g (carC Aq nk cq s v (n : Int) (zz : Int) (p : Int) Ah ch kk gc) Aq key Ah (Sha.D l)) (allO A4 (bv (Sha.D l)))) (boxC w4.heap.size #[.int .u32 (s : Int), .int .u32 (v : Int), .int .i64 (n : Int), .int .i64 (zz : Int), .int .i64 (p : Int), .slice A4 32 c4] 32)) (allO A9 (bv FL))) (allO A11 (bv GL)))) w (wr.alloc (.cells (Array.replicate zz (.int .u8 0)) 5))) := Lib.hid (SR.out.below Dc.keeps_no (keeps_head _ _ _ _ _ _) (keeps_pair (keeps_rd _ _ _ _ _ _ _ _) (keeps_pair (keeps_pair (keeps_pair (keeps_pair (keeps_car _ _ _ _ _ _) (keeps_all _ _)) (keeps_box1 _ _ _)) (keeps_all _ _)) (keeps_all _ _))) bal).ex
        clear bal SR
        go_wp2_with fail
        clear hmk hcw
        generalize (wr.alloc (.cells (Array.replicate zz (.int .u8 0)) 5)) = wa at *
        obtain ⟨FD, hdd, _, next⟩ := SA.out.first (keeps_head _ _ _ _ _ _) (keeps_pair Dc.keeps_no (keeps_pair (keeps_pair (keeps_pair (keeps_pair (keeps_car _ _ _ _ _ _) (keeps_all _ _)) (keeps_box1 _ _ _)) (keeps_all _ _)) (keeps_all _ _)))
        have HTA := Lib.hid (rtake_any (id := iq) (cd := zz) hdd HIV.out hs HUL.out HKK.out hp16 HZZ.out HZR.out (by omega))
        have HNX := Lib.hid next
        clear hdd next SA
        refine HTA.out.mono ?_
        rintro e wx ⟨rfl, hdx, hfx⟩
        obtain ⟨t2, ht2⟩ : ∃ q, t + (if (addMx (kk + p) M (spX s kk p iq) (List.replicate zz 0)).2 = true then 1 else 0) = q := ⟨_, rfl⟩
        have ht2k : t2 ≤ k + 1 := by rw [← ht2]; split <;> omega
        rw [ht2, ← HST.out] at hdx
        have SX : Hid (Dc.Sep3 Dc.noObj (headO s kk p zz l gc) (pairO (rdO gd gmx s kk p zz t2 M1) (pairO (pairO (pairO (pairO (carO g (carC Aq nk cq s v (n : Int) (zz : Int) (p : Int) Ah ch kk gc) Aq key Ah (Sha.D l)) (allO A4 (bv (Sha.D l)))) (boxC w4.heap.size #[.int .u32 (s : Int), .int .u32 (v : Int), .int .i64 (n : Int), .int .i64 (zz : Int), .int .i64 (p : Int), .slice A4 32 c4] 32)) (allO A9 (bv FL))) (allO A11 (bv GL)))) w wx) := Lib.hid (HNX.out wx _ hdx.out hfx.out).ex
        rw [← HM1.out] at SX
        clear HTA HNX hdx hfx ht2 HM1 HST
        go_wp2_with fail
        go_roundw
        case rel => exact ⟨k + 1, t2, by omega, ht2k, by go_num, SX⟩
        case measure => simp [intOf]; omega
      · obtain rfl : m = k := by omega
        have hlx : ¬ (m : Int) < (m : Int) := by omega
        have HIVZ := Lib.hid (matF_got (s := s) (Z := zz) (img := []) (fun i => us.getD i 0) HKK.out.1 HN80.out m).inv
        have HUL : Hid (∀ i, i < m → us.getD i 0 < 4294967296) := Lib.hid (fun i hi => by obtain ⟨_, _, _, _, _, h⟩ := HU.out i hi; exact h)
        have HUR : Hid (Row w w.heap.size U m (Dc.uv (first us m))) := Lib.hid (first_row (W := w) (B := w.heap.size) (fun i hi => by
          obtain ⟨b, o, e, hb, hc, _⟩ := HU.out i hi
          exact ⟨b, o, e, hb, hc⟩))
        have HUN : Hid (U = none → m = 0) := Lib.hid (fun h => Nat.eq_zero_of_not_pos fun hpos => by
          obtain ⟨_, _, e, _⟩ := HU.out 0 hpos
          rw [h] at e; cases e)
        have HQ : Hid (((((kk + p : Nat) : Int) - (rankM (matF s kk p zz [] (fun i => us.getD i 0) m) : Int)) == 0) = en s kk p zz l (first us m)) := Lib.hid (by
          have h := en_nought (s := s) (Z := zz) (img := l) HKK.out.1 HN80.out (first us m)
          rw [first_len, matF_same (f := fun i => (first us m).getD i 0) (g := fun i => us.getD i 0) m (fun j hj => by simp [first, List.getD, hj])] at h
          exact h)
        obtain ⟨MZ, hMZ⟩ : ∃ M, matF s kk p zz [] (fun i => us.getD i 0) m = M := ⟨_, rfl⟩
        rw [hMZ] at SR HIVZ HQ
        obtain ⟨dn, hdn⟩ : ∃ d : Int, ((kk + p : Nat) : Int) - (rankM MZ : Int) = d := ⟨_, rfl⟩
        obtain ⟨bx, hbx⟩ : ∃ b, en s kk p zz l (first us m) = b := ⟨_, rfl⟩
        rw [hdn, hbx] at HQ
        have HDN := Lib.hid hdn
        have HEN := Lib.hid hbx
        have hdq := HQ.out
        have hbb : (bx == bx) = true := by cases bx <;> rfl
        clear hMZ hdn hbx HMK hlt hk htk
        go_upto_region 18 with fail
        have SD : Hid (Dc.Sep3 Dc.noObj (headO s kk p zz l gc) (pairO (rdO gd gmx s kk p zz t MZ) (pairO (pairO (pairO (pairO (carO g (carC Aq nk cq s v (n : Int) (zz : Int) (p : Int) Ah ch kk gc) Aq key Ah (Sha.D l)) (allO A4 (bv (Sha.D l)))) (boxC w4.heap.size #[.int .u32 (s : Int), .int .u32 (v : Int), .int .i64 (n : Int), .int .i64 (zz : Int), .int .i64 (p : Int), .slice A4 32 c4] 32)) (allO A9 (bv FL))) (allO A11 (bv GL)))) w wr.drew) := Lib.hid (SR.out.below Dc.keeps_no (keeps_head _ _ _ _ _ _) (keeps_pair (keeps_rd _ _ _ _ _ _ _ _) (keeps_pair (keeps_pair (keeps_pair (keeps_pair (keeps_car _ _ _ _ _ _) (keeps_all _ _)) (keeps_box1 _ _ _)) (keeps_all _ _)) (keeps_all _ _))) (Below.refl _ _).drew)
        refine wp_region_noPanic ?_
        refine wp_region_held_drew (S := (fun W => Dc.Sep3 Dc.noObj (headO s kk p zz l gc) (pairO (rdO gd gmx s kk p zz t MZ) (pairO (pairO (pairO (pairO (carO g (carC Aq nk cq s v (n : Int) (zz : Int) (p : Int) Ah ch kk gc) Aq key Ah (Sha.D l)) (allO A4 (bv (Sha.D l)))) (boxC w4.heap.size #[.int .u32 (s : Int), .int .u32 (v : Int), .int .i64 (n : Int), .int .i64 (zz : Int), .int .i64 (p : Int), .slice A4 32 c4] 32)) (allO A9 (bv FL))) (allO A11 (bv GL)))) w W)) (by kernel_rfl) SD.out (fun hH0 => ?_)
        generalize wr.drew = wd at *
        refine wpAnyH_take (i := 0) (oi := { dst := some 129, op := Op.move (Operand.tmp 18), type := 27, pos := "law.go:45", after := #[], guard := none }) (v := ?tkv18001) rfl (by kernel_rfl) (by kernel_rfl) (by kernel_rfl) (fun _ _ _ h => h) (Or.inl ⟨by rfl, ?tky18001⟩) hH0 ?tkr18001
        case tky18001 => (intro w' hSw; clear hSw; go_simp; try with_reducible rfl)
        try simp only [Act.put, List.setIfInBounds_toArray, List.set_cons_zero, List.set_cons_succ]
        refine wpAnyH_take (i := 1) (oi := { dst := some 130, op := Op.binOp BinOp.eql 27 (Operand.tmp 129) (Operand.const (Value.int IntKind.i64 0)) 27, type := 4, pos := "law.go:45", after := #[{ on := 0, ground := Ground.data }], guard := none }) (v := ?tkv18002) rfl (by kernel_rfl) (by kernel_rfl) (by kernel_rfl) (fun _ _ _ h => h) (Or.inl ⟨by rfl, ?tky18002⟩) hH0 ?tkr18002
        case tky18002 => (intro w' hSw; clear hSw; go_simp; try with_reducible rfl)
        try simp only [Act.put, List.setIfInBounds_toArray, List.set_cons_zero, List.set_cons_succ]
        refine wpAnyH_take (i := 2) (oi := { dst := some 131, op := Op.move (Operand.tmp 130), type := 4, pos := "law.go:45", after := #[{ on := 1, ground := Ground.data }], guard := none }) (v := ?tkv18003) rfl (by kernel_rfl) (by kernel_rfl) (by kernel_rfl) (fun _ _ _ h => h) (Or.inl ⟨by rfl, ?tky18003⟩) hH0 ?tkr18003
        case tky18003 => (intro w' hSw; clear hSw; go_simp; try with_reducible rfl)
        try simp only [Act.put, List.setIfInBounds_toArray, List.set_cons_zero, List.set_cons_succ]
        refine wpAnyH_take (i := 3) (oi := { dst := some 132, op := Op.move (Operand.tmp 17), type := 26, pos := "law.go:45", after := #[{ on := 2, ground := Ground.guard }], guard := some (2, true) }) (v := ?tkv18004) rfl (by kernel_rfl) (by kernel_rfl) (by kernel_rfl) (fun _ _ _ h => h) (Or.inl ⟨by rfl, ?tky18004⟩) hH0 ?tkr18004
        case tky18004 => (intro w' hSw; clear hSw; go_simp; try with_reducible rfl)
        try simp only [Act.put, List.setIfInBounds_toArray, List.set_cons_zero, List.set_cons_succ]
        refine wpAnyH_take (i := 5) (oi := { dst := some 134, op := Op.load 32 (Operand.tmp 19), type := 32, pos := "law.go:45", after := #[{ on := 2, ground := Ground.guard }], guard := some (2, true) }) (v := ?tkv18005) rfl (by kernel_rfl) (by kernel_rfl) (by kernel_rfl) (fun _ _ _ h => h) (Or.inl ⟨by rfl, ?tky18005⟩) hH0 ?tkr18005
        case tky18005 => (intro w' hSw; have z0 := bx6 (fw_box hSw); clear hSw; go_simp; try with_reducible rfl)
        try simp only [Act.put, List.setIfInBounds_toArray, List.set_cons_zero, List.set_cons_succ]
        refine wpAnyH_ready (rs := [4]) (by kernel_rfl) (by simp) ?_
        refine AllReadyH.cons (o := { dst := some 133, op := Op.call { callee := Callee.value (Operand.func 17), args := #[Operand.tmp 132], argTypes := #[26] }, type := 32, pos := "law.go:45", after := #[{ on := 3, ground := Ground.data }, { on := 2, ground := Ground.chain }, { on := 2, ground := Ground.guard }], guard := some (2, true) }) rfl (fun K hK => ?_) AllReadyH.nil
        go_simp
        obtain ⟨_, hcar⟩ := fw_car SD.out
        refine (cman_any hcar.1 hcar.2.2.2.2.row).mono ?_
        clear hcar
        rintro e' wma ⟨Am, cm, rfl, hrm, hbm⟩
        have HRM := Lib.hid hrm.out
        have SM : Hid (Dc.Sep3 Dc.noObj (headO s kk p zz l gc) (pairO (rdO gd gmx s kk p zz t MZ) (pairO (pairO (pairO (pairO (carO g (carC Aq nk cq s v (n : Int) (zz : Int) (p : Int) Ah ch kk gc) Aq key Ah (Sha.D l)) (allO A4 (bv (Sha.D l)))) (boxC w4.heap.size #[.int .u32 (s : Int), .int .u32 (v : Int), .int .i64 (n : Int), .int .i64 (zz : Int), .int .i64 (p : Int), .slice A4 32 c4] 32)) (allO A9 (bv FL))) (allO A11 (bv GL)))) w wma) := Lib.hid (SD.out.below Dc.keeps_no (keeps_head _ _ _ _ _ _) (keeps_pair (keeps_rd _ _ _ _ _ _ _ _) (keeps_pair (keeps_pair (keeps_pair (keeps_pair (keeps_car _ _ _ _ _ _) (keeps_all _ _)) (keeps_box1 _ _ _)) (keeps_all _ _)) (keeps_all _ _))) hbm.out)
        clear hrm hbm
        go_simp
        refine hK.out _ _ SM.out (fun hH1 => ?_)
        clear hK K
        try simp only [Act.put, List.setIfInBounds_toArray, List.set_cons_zero, List.set_cons_succ]
        refine wpAnyH_ready (rs := [6]) (by kernel_rfl) (by simp) ?_
        refine AllReadyH.cons (o := { dst := some 135, op := Op.call { callee := Callee.value (Operand.func 16), args := #[Operand.tmp 133, Operand.tmp 134], argTypes := #[32, 32] }, type := 4, pos := "law.go:45", after := #[{ on := 4, ground := Ground.data }, { on := 5, ground := Ground.data }, { on := 4, ground := Ground.chain }, { on := 2, ground := Ground.guard }], guard := some (2, true) }) rfl (fun K hK => ?_) AllReadyH.nil
        go_simp
        refine (rmanSame_any s v s v (n : Int) (zz : Int) (p : Int) (n : Int) (zz : Int) (p : Int) wma.heap.size 32 cm 32 c4 Am A4 (Sha.D l) (Sha.D l) wma HRM.out (fw_row4 SM.out (Sha.D_length l).symm) (Nat.le_refl _)).mono ?_
        rintro e' wsm ⟨bsm, rfl, hbsm, hbm⟩
        obtain rfl : bsm = true := by rw [hbsm.out]; simp
        have SN : Hid (Dc.Sep3 Dc.noObj (headO s kk p zz l gc) (pairO (rdO gd gmx s kk p zz t MZ) (pairO (pairO (pairO (pairO (carO g (carC Aq nk cq s v (n : Int) (zz : Int) (p : Int) Ah ch kk gc) Aq key Ah (Sha.D l)) (allO A4 (bv (Sha.D l)))) (boxC w4.heap.size #[.int .u32 (s : Int), .int .u32 (v : Int), .int .i64 (n : Int), .int .i64 (zz : Int), .int .i64 (p : Int), .slice A4 32 c4] 32)) (allO A9 (bv FL))) (allO A11 (bv GL)))) w wsm) := Lib.hid (SM.out.below Dc.keeps_no (keeps_head _ _ _ _ _ _) (keeps_pair (keeps_rd _ _ _ _ _ _ _ _) (keeps_pair (keeps_pair (keeps_pair (keeps_pair (keeps_car _ _ _ _ _ _) (keeps_all _ _)) (keeps_box1 _ _ _)) (keeps_all _ _)) (keeps_all _ _))) hbm)
        clear hbsm hbm
        go_simp
        refine hK.out _ _ SN.out (fun hH2 => ?_)
        clear hK K
        try simp only [Act.put, List.setIfInBounds_toArray, List.set_cons_zero, List.set_cons_succ]
        refine wpAnyH_take (i := 7) (oi := { dst := some 136, op := Op.pick (Operand.tmp 131) (Operand.tmp 135) (Operand.const (Value.bool false)), type := 4, pos := "law.go:45", after := #[{ on := 2, ground := Ground.data }, { on := 6, ground := Ground.data }], guard := none }) (v := ?tkv18006) rfl (by kernel_rfl) (by kernel_rfl) (by kernel_rfl) (fun _ _ _ h => h) (Or.inl ⟨by rfl, ?tky18006⟩) hH2 ?tkr18006
        case tky18006 => (intro w' hSw; clear hSw; go_simp; try with_reducible rfl)
        try simp only [Act.put, List.setIfInBounds_toArray, List.set_cons_zero, List.set_cons_succ]
        refine wpAnyH_take (i := 8) (oi := { dst := some 137, op := Op.move (Operand.tmp 136), type := 4, pos := "law.go:45", after := #[{ on := 7, ground := Ground.data }, { on := 6, ground := Ground.chain }], guard := none }) (v := ?tkv18007) rfl (by kernel_rfl) (by kernel_rfl) (by kernel_rfl) (fun _ _ _ h => h) (Or.inl ⟨by rfl, ?tky18007⟩) hH2 ?tkr18007
        case tky18007 => (intro w' hSw; clear hSw; go_simp; try with_reducible rfl)
        try simp only [Act.put, List.setIfInBounds_toArray, List.set_cons_zero, List.set_cons_succ]
        refine wpAnyH_take (i := 9) (oi := { dst := some 138, op := Op.move (Operand.tmp 17), type := 26, pos := "law.go:45", after := #[{ on := 8, ground := Ground.guard }], guard := some (8, true) }) (v := ?tkv18008) rfl (by kernel_rfl) (by kernel_rfl) (by kernel_rfl) (fun _ _ _ h => h) (Or.inl ⟨by rfl, ?tky18008⟩) hH2 ?tkr18008
        case tky18008 => (intro w' hSw; clear hSw; go_simp; try with_reducible rfl)
        try simp only [Act.put, List.setIfInBounds_toArray, List.set_cons_zero, List.set_cons_succ]
        refine wpAnyH_take (i := 12) (oi := { dst := some 141, op := Op.move (Operand.tmp 24), type := 22, pos := "law.go:45", after := #[{ on := 8, ground := Ground.guard }], guard := some (8, true) }) (v := ?tkv18009) rfl (by kernel_rfl) (by kernel_rfl) (by kernel_rfl) (fun _ _ _ h => h) (Or.inl ⟨by rfl, ?tky18009⟩) hH2 ?tkr18009
        case tky18009 => (intro w' hSw; clear hSw; go_simp; try with_reducible rfl)
        try simp only [Act.put, List.setIfInBounds_toArray, List.set_cons_zero, List.set_cons_succ]
        refine wpAnyH_take (i := 13) (oi := { dst := some 142, op := Op.convert 22 9 (Operand.tmp 141), type := 9, pos := "law.go:45", after := #[{ on := 12, ground := Ground.data }, { on := 8, ground := Ground.guard }], guard := some (8, true) }) (v := ?tkv18010) rfl (by kernel_rfl) (by kernel_rfl) (by kernel_rfl) (fun _ _ _ h => h) (Or.inl ⟨by rfl, ?tky18010⟩) hH2 ?tkr18010
        case tky18010 => (intro w' hSw; have z0 := fw_cv9 (c := c9) HN9.out hSw; clear hSw; go_simp; try with_reducible rfl)
        try simp only [Act.put, List.setIfInBounds_toArray, List.set_cons_zero, List.set_cons_succ]
        refine wpAnyH_ready (rs := [10]) (by kernel_rfl) (by simp) ?_
        refine AllReadyH.cons (o := { dst := some 139, op := Op.call { callee := Callee.value (Operand.func 18), args := #[Operand.tmp 138], argTypes := #[26] }, type := 22, pos := "law.go:45", after := #[{ on := 9, ground := Ground.data }, { on := 8, ground := Ground.chain }, { on := 8, ground := Ground.guard }], guard := some (8, true) }) rfl (fun K hK => ?_) AllReadyH.nil
        go_simp
        obtain ⟨_, hcar⟩ := fw_car SN.out
        have hfc := first_car (HT.out.below SN.out.b HT.out.1) hcar.1 (by rw [← HKL.out]; exact hcar.2.2.2.1.row) hcar.2.2.2.2.row (by omega) hs hv HMB.out
        rw [HFLQ.out] at hfc
        refine hfc.mono ?_
        clear hfc hcar
        rintro e' wfi ⟨Af, nf, cf, rfl, hnf, hof, hbf⟩
        have HNF := Lib.hid hnf.out
        have SFI : Hid (Dc.Sep3 Dc.noObj (headO s kk p zz l gc) (pairO (pairO (rdO gd gmx s kk p zz t MZ) (pairO (pairO (pairO (pairO (carO g (carC Aq nk cq s v (n : Int) (zz : Int) (p : Int) Ah ch kk gc) Aq key Ah (Sha.D l)) (allO A4 (bv (Sha.D l)))) (boxC w4.heap.size #[.int .u32 (s : Int), .int .u32 (v : Int), .int .i64 (n : Int), .int .i64 (zz : Int), .int .i64 (p : Int), .slice A4 32 c4] 32)) (allO A9 (bv FL))) (allO A11 (bv GL)))) (allO Af (bv FL))) w wfi) := Lib.hid (SN.out.create4 Dc.keeps_no (keeps_head _ _ _ _ _ _) (keeps_pair (keeps_rd _ _ _ _ _ _ _ _) (keeps_pair (keeps_pair (keeps_pair (keeps_pair (keeps_car _ _ _ _ _ _) (keeps_all _ _)) (keeps_box1 _ _ _)) (keeps_all _ _)) (keeps_all _ _))) hbf (all_own hof))
        clear hnf hof hbf
        go_simp
        refine hK.out _ _ SFI.out.drop (fun hH3 => ?_)
        clear hK K
        try simp only [Act.put, List.setIfInBounds_toArray, List.set_cons_zero, List.set_cons_succ]
        have hG3 : (fun W => Dc.Sep3 Dc.noObj (headO s kk p zz l gc) (pairO (pairO (rdO gd gmx s kk p zz t MZ) (pairO (pairO (pairO (pairO (carO g (carC Aq nk cq s v (n : Int) (zz : Int) (p : Int) Ah ch kk gc) Aq key Ah (Sha.D l)) (allO A4 (bv (Sha.D l)))) (boxC w4.heap.size #[.int .u32 (s : Int), .int .u32 (v : Int), .int .i64 (n : Int), .int .i64 (zz : Int), .int .i64 (p : Int), .slice A4 32 c4] 32)) (allO A9 (bv FL))) (allO A11 (bv GL)))) (allO Af (bv FL))) w W) wfi := SFI.out
        refine wpAnyH_grow (S' := (fun W => Dc.Sep3 Dc.noObj (headO s kk p zz l gc) (pairO (pairO (rdO gd gmx s kk p zz t MZ) (pairO (pairO (pairO (pairO (carO g (carC Aq nk cq s v (n : Int) (zz : Int) (p : Int) Ah ch kk gc) Aq key Ah (Sha.D l)) (allO A4 (bv (Sha.D l)))) (boxC w4.heap.size #[.int .u32 (s : Int), .int .u32 (v : Int), .int .i64 (n : Int), .int .i64 (zz : Int), .int .i64 (p : Int), .slice A4 32 c4] 32)) (allO A9 (bv FL))) (allO A11 (bv GL)))) (allO Af (bv FL))) w W)) (fun _ h => h.drop) _ _ _ _ ?_
        refine wpAnyH_take (i := 11) (oi := { dst := some 140, op := Op.convert 22 9 (Operand.tmp 139), type := 9, pos := "law.go:45", after := #[{ on := 10, ground := Ground.data }, { on := 8, ground := Ground.guard }], guard := some (8, true) }) (v := ?tkv18011) rfl (by kernel_rfl) (by kernel_rfl) (by kernel_rfl) (fun _ _ _ h => h) (Or.inl ⟨by rfl, ?tky18011⟩) hG3 ?tkr18011
        case tky18011 => (intro w' hSw; have z0 := fw_cvn (c := cf) HNF.out hSw; clear hSw; go_simp; try with_reducible rfl)
        try simp only [Act.put, List.setIfInBounds_toArray, List.set_cons_zero, List.set_cons_succ]
        refine wpAnyH_take (i := 14) (oi := { dst := some 143, op := Op.binOp BinOp.eql 9 (Operand.tmp 140) (Operand.tmp 142) 9, type := 4, pos := "law.go:45", after := #[{ on := 11, ground := Ground.data }, { on := 13, ground := Ground.data }, { on := 8, ground := Ground.guard }], guard := some (8, true) }) (v := ?tkv18012) rfl (by kernel_rfl) (by kernel_rfl) (by kernel_rfl) (fun _ _ _ h => h) (Or.inl ⟨by rfl, ?tky18012⟩) hG3 ?tkr18012
        case tky18012 => (intro w' hSw; clear hSw; go_simp; try with_reducible rfl)
        try simp only [Act.put, List.setIfInBounds_toArray, List.set_cons_zero, List.set_cons_succ]
        refine wpAnyH_take (i := 15) (oi := { dst := some 144, op := Op.pick (Operand.tmp 137) (Operand.tmp 143) (Operand.const (Value.bool false)), type := 4, pos := "law.go:45", after := #[{ on := 8, ground := Ground.data }, { on := 14, ground := Ground.data }], guard := none }) (v := ?tkv18013) rfl (by kernel_rfl) (by kernel_rfl) (by kernel_rfl) (fun _ _ _ h => h) (Or.inl ⟨by rfl, ?tky18013⟩) hG3 ?tkr18013
        case tky18013 => (intro w' hSw; clear hSw; go_simp; try with_reducible rfl)
        try simp only [Act.put, List.setIfInBounds_toArray, List.set_cons_zero, List.set_cons_succ]
        refine wpAnyH_take (i := 16) (oi := { dst := some 145, op := Op.move (Operand.tmp 144), type := 4, pos := "law.go:45", after := #[{ on := 15, ground := Ground.data }, { on := 10, ground := Ground.chain }], guard := none }) (v := ?tkv18014) rfl (by kernel_rfl) (by kernel_rfl) (by kernel_rfl) (fun _ _ _ h => h) (Or.inl ⟨by rfl, ?tky18014⟩) hG3 ?tkr18014
        case tky18014 => (intro w' hSw; clear hSw; go_simp; try with_reducible rfl)
        try simp only [Act.put, List.setIfInBounds_toArray, List.set_cons_zero, List.set_cons_succ]
        refine wpAnyH_take (i := 17) (oi := { dst := some 146, op := Op.move (Operand.tmp 17), type := 26, pos := "law.go:45", after := #[{ on := 16, ground := Ground.guard }], guard := some (16, true) }) (v := ?tkv18015) rfl (by kernel_rfl) (by kernel_rfl) (by kernel_rfl) (fun _ _ _ h => h) (Or.inl ⟨by rfl, ?tky18015⟩) hG3 ?tkr18015
        case tky18015 => (intro w' hSw; clear hSw; go_simp; try with_reducible rfl)
        try simp only [Act.put, List.setIfInBounds_toArray, List.set_cons_zero, List.set_cons_succ]
        refine wpAnyH_take (i := 18) (oi := { dst := some 147, op := Op.move (Operand.tmp 6), type := 23, pos := "law.go:45", after := #[{ on := 16, ground := Ground.guard }], guard := some (16, true) }) (v := ?tkv18016) rfl (by kernel_rfl) (by kernel_rfl) (by kernel_rfl) (fun _ _ _ h => h) (Or.inl ⟨by rfl, ?tky18016⟩) hG3 ?tkr18016
        case tky18016 => (intro w' hSw; clear hSw; go_simp; try with_reducible rfl)
        try simp only [Act.put, List.setIfInBounds_toArray, List.set_cons_zero, List.set_cons_succ]
        refine wpAnyH_take (i := 21) (oi := { dst := some 150, op := Op.move (Operand.tmp 28), type := 22, pos := "law.go:45", after := #[{ on := 16, ground := Ground.guard }], guard := some (16, true) }) (v := ?tkv18017) rfl (by kernel_rfl) (by kernel_rfl) (by kernel_rfl) (fun _ _ _ h => h) (Or.inl ⟨by rfl, ?tky18017⟩) hG3 ?tkr18017
        case tky18017 => (intro w' hSw; clear hSw; go_simp; try with_reducible rfl)
        try simp only [Act.put, List.setIfInBounds_toArray, List.set_cons_zero, List.set_cons_succ]
        refine wpAnyH_take (i := 22) (oi := { dst := some 151, op := Op.convert 22 9 (Operand.tmp 150), type := 9, pos := "law.go:45", after := #[{ on := 21, ground := Ground.data }, { on := 16, ground := Ground.guard }], guard := some (16, true) }) (v := ?tkv18018) rfl (by kernel_rfl) (by kernel_rfl) (by kernel_rfl) (fun _ _ _ h => h) (Or.inl ⟨by rfl, ?tky18018⟩) hG3 ?tkr18018
        case tky18018 => (intro w' hSw; have z0 := fw_cv11 (c := c11) HN11.out hSw.drop; clear hSw; go_simp; try with_reducible rfl)
        try simp only [Act.put, List.setIfInBounds_toArray, List.set_cons_zero, List.set_cons_succ]
        refine wpAnyH_ready (rs := [19]) (by kernel_rfl) (by simp) ?_
        refine AllReadyH.cons (o := { dst := some 148, op := Op.call { callee := Callee.value (Operand.func 19), args := #[Operand.tmp 146, Operand.tmp 147], argTypes := #[26, 23] }, type := 22, pos := "law.go:45", after := #[{ on := 17, ground := Ground.data }, { on := 18, ground := Ground.data }, { on := 16, ground := Ground.chain }, { on := 16, ground := Ground.guard }], guard := some (16, true) }) rfl (fun K hK => ?_) AllReadyH.nil
        go_simp
        have hsy := csym_any (id := id) SFI.out (keeps_pair (keeps_pair (keeps_rd _ _ _ _ _ _ _ _) (keeps_pair (keeps_pair (keeps_pair (keeps_pair (keeps_car _ _ _ _ _ _) (keeps_all _ _)) (keeps_box1 _ _ _)) (keeps_all _ _)) (keeps_all _ _))) (keeps_all _ _)) fw_look2 hs hid HKK.out hp16 HZZ.out (by rw [HIL.out]; exact HCN.out) HD.out
        rw [HGLQ.out] at hsy
        refine hsy.mono ?_
        clear hsy
        rintro e' wsy ⟨Ag, ng, cg, rfl, hng, hsg⟩
        have HNG := Lib.hid hng.out
        have SGI : Hid (Dc.Sep3 Dc.noObj (headO s kk p zz l gc) (pairO (pairO (pairO (rdO gd gmx s kk p zz t MZ) (pairO (pairO (pairO (pairO (carO g (carC Aq nk cq s v (n : Int) (zz : Int) (p : Int) Ah ch kk gc) Aq key Ah (Sha.D l)) (allO A4 (bv (Sha.D l)))) (boxC w4.heap.size #[.int .u32 (s : Int), .int .u32 (v : Int), .int .i64 (n : Int), .int .i64 (zz : Int), .int .i64 (p : Int), .slice A4 32 c4] 32)) (allO A9 (bv FL))) (allO A11 (bv GL)))) (allO Af (bv FL))) (allO Ag (bv GL))) w wsy) := Lib.hid hsg.out
        clear hng hsg
        go_simp
        refine hK.out _ _ SGI.out.drop (fun hH4 => ?_)
        clear hK K
        try simp only [Act.put, List.setIfInBounds_toArray, List.set_cons_zero, List.set_cons_succ]
        have hG4 : (fun W => Dc.Sep3 Dc.noObj (headO s kk p zz l gc) (pairO (pairO (pairO (rdO gd gmx s kk p zz t MZ) (pairO (pairO (pairO (pairO (carO g (carC Aq nk cq s v (n : Int) (zz : Int) (p : Int) Ah ch kk gc) Aq key Ah (Sha.D l)) (allO A4 (bv (Sha.D l)))) (boxC w4.heap.size #[.int .u32 (s : Int), .int .u32 (v : Int), .int .i64 (n : Int), .int .i64 (zz : Int), .int .i64 (p : Int), .slice A4 32 c4] 32)) (allO A9 (bv FL))) (allO A11 (bv GL)))) (allO Af (bv FL))) (allO Ag (bv GL))) w W) wsy := SGI.out
        refine wpAnyH_grow (S' := (fun W => Dc.Sep3 Dc.noObj (headO s kk p zz l gc) (pairO (pairO (pairO (rdO gd gmx s kk p zz t MZ) (pairO (pairO (pairO (pairO (carO g (carC Aq nk cq s v (n : Int) (zz : Int) (p : Int) Ah ch kk gc) Aq key Ah (Sha.D l)) (allO A4 (bv (Sha.D l)))) (boxC w4.heap.size #[.int .u32 (s : Int), .int .u32 (v : Int), .int .i64 (n : Int), .int .i64 (zz : Int), .int .i64 (p : Int), .slice A4 32 c4] 32)) (allO A9 (bv FL))) (allO A11 (bv GL)))) (allO Af (bv FL))) (allO Ag (bv GL))) w W)) (fun _ h => h.drop) _ _ _ _ ?_
        refine wpAnyH_take (i := 20) (oi := { dst := some 149, op := Op.convert 22 9 (Operand.tmp 148), type := 9, pos := "law.go:45", after := #[{ on := 19, ground := Ground.data }, { on := 16, ground := Ground.guard }], guard := some (16, true) }) (v := ?tkv18019) rfl (by kernel_rfl) (by kernel_rfl) (by kernel_rfl) (fun _ _ _ h => h) (Or.inl ⟨by rfl, ?tky18019⟩) hG4 ?tkr18019
        case tky18019 => (intro w' hSw; have z0 := fw_cvn (c := cg) HNG.out hSw; clear hSw; go_simp; try with_reducible rfl)
        try simp only [Act.put, List.setIfInBounds_toArray, List.set_cons_zero, List.set_cons_succ]
        refine wpAnyH_take (i := 23) (oi := { dst := some 152, op := Op.binOp BinOp.eql 9 (Operand.tmp 149) (Operand.tmp 151) 9, type := 4, pos := "law.go:45", after := #[{ on := 20, ground := Ground.data }, { on := 22, ground := Ground.data }, { on := 16, ground := Ground.guard }], guard := some (16, true) }) (v := ?tkv18020) rfl (by kernel_rfl) (by kernel_rfl) (by kernel_rfl) (fun _ _ _ h => h) (Or.inl ⟨by rfl, ?tky18020⟩) hG4 ?tkr18020
        case tky18020 => (intro w' hSw; clear hSw; go_simp; try with_reducible rfl)
        try simp only [Act.put, List.setIfInBounds_toArray, List.set_cons_zero, List.set_cons_succ]
        refine wpAnyH_take (i := 24) (oi := { dst := some 153, op := Op.pick (Operand.tmp 145) (Operand.tmp 152) (Operand.const (Value.bool false)), type := 4, pos := "law.go:45", after := #[{ on := 16, ground := Ground.data }, { on := 23, ground := Ground.data }], guard := none }) (v := ?tkv18021) rfl (by kernel_rfl) (by kernel_rfl) (by kernel_rfl) (fun _ _ _ h => h) (Or.inl ⟨by rfl, ?tky18021⟩) hG4 ?tkr18021
        case tky18021 => (intro w' hSw; clear hSw; go_simp; try with_reducible rfl)
        try simp only [Act.put, List.setIfInBounds_toArray, List.set_cons_zero, List.set_cons_succ]
        refine wpAnyH_take (i := 25) (oi := { dst := some 154, op := Op.move (Operand.tmp 153), type := 4, pos := "law.go:45", after := #[{ on := 24, ground := Ground.data }, { on := 19, ground := Ground.chain }], guard := none }) (v := ?tkv18022) rfl (by kernel_rfl) (by kernel_rfl) (by kernel_rfl) (fun _ _ _ h => h) (Or.inl ⟨by rfl, ?tky18022⟩) hG4 ?tkr18022
        case tky18022 => (intro w' hSw; clear hSw; go_simp; try with_reducible rfl)
        try simp only [Act.put, List.setIfInBounds_toArray, List.set_cons_zero, List.set_cons_succ]
        refine wpAnyH_take (i := 26) (oi := { dst := some 155, op := Op.move (Operand.tmp 17), type := 26, pos := "law.go:45", after := #[{ on := 25, ground := Ground.guard }], guard := some (25, true) }) (v := ?tkv18023) rfl (by kernel_rfl) (by kernel_rfl) (by kernel_rfl) (fun _ _ _ h => h) (Or.inl ⟨by rfl, ?tky18023⟩) hG4 ?tkr18023
        case tky18023 => (intro w' hSw; clear hSw; go_simp; try with_reducible rfl)
        try simp only [Act.put, List.setIfInBounds_toArray, List.set_cons_zero, List.set_cons_succ]
        refine wpAnyH_take (i := 27) (oi := { dst := some 156, op := Op.move (Operand.tmp 7), type := 24, pos := "law.go:45", after := #[{ on := 25, ground := Ground.guard }], guard := some (25, true) }) (v := ?tkv18024) rfl (by kernel_rfl) (by kernel_rfl) (by kernel_rfl) (fun _ _ _ h => h) (Or.inl ⟨by rfl, ?tky18024⟩) hG4 ?tkr18024
        case tky18024 => (intro w' hSw; clear hSw; go_simp; try with_reducible rfl)
        try simp only [Act.put, List.setIfInBounds_toArray, List.set_cons_zero, List.set_cons_succ]
        refine wpAnyH_take (i := 29) (oi := { dst := some 158, op := Op.move (Operand.tmp 30), type := 45, pos := "law.go:45", after := #[{ on := 25, ground := Ground.guard }], guard := some (25, true) }) (v := ?tkv18025) rfl (by kernel_rfl) (by kernel_rfl) (by kernel_rfl) (fun _ _ _ h => h) (Or.inl ⟨by rfl, ?tky18025⟩) hG4 ?tkr18025
        case tky18025 => (intro w' hSw; clear hSw; go_simp; try with_reducible rfl)
        try simp only [Act.put, List.setIfInBounds_toArray, List.set_cons_zero, List.set_cons_succ]
        refine wpAnyH_ready (rs := [28]) (by kernel_rfl) (by simp) ?_
        refine AllReadyH.cons (o := { dst := some 157, op := Op.call { callee := Callee.value (Operand.func 20), args := #[Operand.tmp 155, Operand.tmp 156], argTypes := #[26, 24] }, type := 4, pos := "law.go:45", after := #[{ on := 26, ground := Ground.data }, { on := 27, ground := Ground.data }, { on := 25, ground := Ground.chain }, { on := 25, ground := Ground.guard }], guard := some (25, true) }) rfl (fun K hK => ?_) AllReadyH.nil
        go_simp
        have hen := enough_any (n := m) (c := cu) (us := first us m) SGI.out (keeps_pair (keeps_pair (keeps_pair (keeps_rd _ _ _ _ _ _ _ _) (keeps_pair (keeps_pair (keeps_pair (keeps_pair (keeps_car _ _ _ _ _ _) (keeps_all _ _)) (keeps_box1 _ _ _)) (keeps_all _ _)) (keeps_all _ _))) (keeps_all _ _)) (keeps_all _ _)) (look_mix fw_car3 HUR.out) hs HKK.out hp16 HZZ.out (by rw [HIL.out]; exact HCN.out) HD.out (first_len _ _) (fun i _ => first_lt HUL.out i) (by omega) hmc HUN.out hcu
        rw [HEN.out] at hen
        refine hen.mono ?_
        clear hen
        rintro e' wen ⟨rfl, hsn⟩
        have SEN : Hid (Dc.Sep3 Dc.noObj (headO s kk p zz l gc) (pairO (pairO (pairO (rdO gd gmx s kk p zz t MZ) (pairO (pairO (pairO (pairO (carO g (carC Aq nk cq s v (n : Int) (zz : Int) (p : Int) Ah ch kk gc) Aq key Ah (Sha.D l)) (allO A4 (bv (Sha.D l)))) (boxC w4.heap.size #[.int .u32 (s : Int), .int .u32 (v : Int), .int .i64 (n : Int), .int .i64 (zz : Int), .int .i64 (p : Int), .slice A4 32 c4] 32)) (allO A9 (bv FL))) (allO A11 (bv GL)))) (allO Af (bv FL))) (allO Ag (bv GL))) w wen) := Lib.hid hsn.out
        clear hsn
        go_simp
        refine hK.out _ _ SEN.out (fun hH5 => ?_)
        clear hK K
        try simp only [Act.put, List.setIfInBounds_toArray, List.set_cons_zero, List.set_cons_succ]
        refine wpAnyH_ready (rs := [30]) (by kernel_rfl) (by simp) ?_
        refine AllReadyH.cons (o := { dst := some 159, op := Op.call { callee := Callee.value (Operand.func 21), args := #[Operand.tmp 158], argTypes := #[45] }, type := 3, pos := "law.go:45", after := #[{ on := 29, ground := Ground.data }, { on := 28, ground := Ground.chain }, { on := 25, ground := Ground.guard }], guard := some (25, true) }) rfl (fun K hK => ?_) AllReadyH.nil
        go_simp
        obtain ⟨_, hrd⟩ := fw_rd SEN.out
        have hne := rneeds_any hrd HIVZ.out.len HN80.out
        rw [HDN.out] at hne
        refine hne.mono ?_
        clear hne hrd
        rintro e' wnd ⟨rfl, hbn⟩
        have SND : Hid (Dc.Sep3 Dc.noObj (headO s kk p zz l gc) (pairO (pairO (pairO (rdO gd gmx s kk p zz t MZ) (pairO (pairO (pairO (pairO (carO g (carC Aq nk cq s v (n : Int) (zz : Int) (p : Int) Ah ch kk gc) Aq key Ah (Sha.D l)) (allO A4 (bv (Sha.D l)))) (boxC w4.heap.size #[.int .u32 (s : Int), .int .u32 (v : Int), .int .i64 (n : Int), .int .i64 (zz : Int), .int .i64 (p : Int), .slice A4 32 c4] 32)) (allO A9 (bv FL))) (allO A11 (bv GL)))) (allO Af (bv FL))) (allO Ag (bv GL))) w wnd) := Lib.hid (SEN.out.below Dc.keeps_no (keeps_head _ _ _ _ _ _) (keeps_pair (keeps_pair (keeps_pair (keeps_rd _ _ _ _ _ _ _ _) (keeps_pair (keeps_pair (keeps_pair (keeps_pair (keeps_car _ _ _ _ _ _) (keeps_all _ _)) (keeps_box1 _ _ _)) (keeps_all _ _)) (keeps_all _ _))) (keeps_all _ _)) (keeps_all _ _)) hbn.out)
        clear hbn
        go_simp
        refine hK.out _ _ SND.out (fun hH6 => ?_)
        clear hK K
        try simp only [Act.put, List.setIfInBounds_toArray, List.set_cons_zero, List.set_cons_succ]
        refine wpAnyH_take (i := 31) (oi := { dst := some 160, op := Op.binOp BinOp.eql 3 (Operand.tmp 159) (Operand.const (Value.int IntKind.i64 0)) 3, type := 4, pos := "law.go:45", after := #[{ on := 30, ground := Ground.data }, { on := 25, ground := Ground.guard }], guard := some (25, true) }) (v := ?tkv18026) rfl (by kernel_rfl) (by kernel_rfl) (by kernel_rfl) (fun _ _ _ h => h) (Or.inl ⟨by rfl, ?tky18026⟩) hH6 ?tkr18026
        case tky18026 => (intro w' hSw; clear hSw; go_simp; try with_reducible rfl)
        try simp only [Act.put, List.setIfInBounds_toArray, List.set_cons_zero, List.set_cons_succ]
        refine wpAnyH_take (i := 32) (oi := { dst := some 161, op := Op.binOp BinOp.eql 4 (Operand.tmp 157) (Operand.tmp 160) 4, type := 4, pos := "law.go:45", after := #[{ on := 28, ground := Ground.data }, { on := 31, ground := Ground.data }, { on := 25, ground := Ground.guard }], guard := some (25, true) }) (v := ?tkv18027) rfl (by kernel_rfl) (by kernel_rfl) (by kernel_rfl) (fun _ _ _ h => h) (Or.inl ⟨by rfl, ?tky18027⟩) hH6 ?tkr18027
        case tky18027 => (intro w' hSw; clear hSw; go_simp; try with_reducible rfl)
        try simp only [Act.put, List.setIfInBounds_toArray, List.set_cons_zero, List.set_cons_succ]
        refine wpAnyH_take (i := 33) (oi := { dst := some 162, op := Op.pick (Operand.tmp 154) (Operand.tmp 161) (Operand.const (Value.bool false)), type := 4, pos := "law.go:45", after := #[{ on := 25, ground := Ground.data }, { on := 32, ground := Ground.data }], guard := none }) (v := ?tkv18028) rfl (by kernel_rfl) (by kernel_rfl) (by kernel_rfl) (fun _ _ _ h => h) (Or.inl ⟨by rfl, ?tky18028⟩) hH6 ?tkr18028
        case tky18028 => (intro w' hSw; clear hSw; go_simp; try with_reducible rfl)
        try simp only [Act.put, List.setIfInBounds_toArray, List.set_cons_zero, List.set_cons_succ]
        refine wpAnyH_take (i := 34) (oi := { dst := some 163, op := Op.move (Operand.tmp 162), type := 4, pos := "law.go:45", after := #[{ on := 33, ground := Ground.data }, { on := 30, ground := Ground.chain }], guard := none }) (v := ?tkv18029) rfl (by kernel_rfl) (by kernel_rfl) (by kernel_rfl) (fun _ _ _ h => h) (Or.inl ⟨by rfl, ?tky18029⟩) hH6 ?tkr18029
        case tky18029 => (intro w' hSw; clear hSw; go_simp; try with_reducible rfl)
        try simp only [Act.put, List.setIfInBounds_toArray, List.set_cons_zero, List.set_cons_succ]
        refine wpAnyH_ready (rs := [35]) (by kernel_rfl) (by simp) ?_
        refine AllReadyH.cons (o := { dst := some 164, op := Op.call { callee := Callee.value (Operand.func 5), args := #[], argTypes := #[] }, type := 4, pos := "law.go:45", after := #[{ on := 34, ground := Ground.chain }, { on := 34, ground := Ground.guard }], guard := some (34, true) }) rfl (fun K hK => ?_) AllReadyH.nil
        go_simp
        refine (HAWW.out wnd SND.out.b).mono ?_
        rintro e' waw ⟨rfl, hba⟩
        have SAW : Hid (Dc.Sep3 Dc.noObj (headO s kk p zz l gc) (pairO (pairO (pairO (rdO gd gmx s kk p zz t MZ) (pairO (pairO (pairO (pairO (carO g (carC Aq nk cq s v (n : Int) (zz : Int) (p : Int) Ah ch kk gc) Aq key Ah (Sha.D l)) (allO A4 (bv (Sha.D l)))) (boxC w4.heap.size #[.int .u32 (s : Int), .int .u32 (v : Int), .int .i64 (n : Int), .int .i64 (zz : Int), .int .i64 (p : Int), .slice A4 32 c4] 32)) (allO A9 (bv FL))) (allO A11 (bv GL)))) (allO Af (bv FL))) (allO Ag (bv GL))) w waw) := Lib.hid (SND.out.below Dc.keeps_no (keeps_head _ _ _ _ _ _) (keeps_pair (keeps_pair (keeps_pair (keeps_rd _ _ _ _ _ _ _ _) (keeps_pair (keeps_pair (keeps_pair (keeps_pair (keeps_car _ _ _ _ _ _) (keeps_all _ _)) (keeps_box1 _ _ _)) (keeps_all _ _)) (keeps_all _ _))) (keeps_all _ _)) (keeps_all _ _)) hba)
        clear hba
        go_simp
        refine hK.out _ _ SAW.out (fun hH7 => ?_)
        clear hK K
        try simp only [Act.put, List.setIfInBounds_toArray, List.set_cons_zero, List.set_cons_succ]
        refine wpAnyH_take (i := 36) (oi := { dst := some 165, op := Op.pick (Operand.tmp 163) (Operand.tmp 164) (Operand.const (Value.bool false)), type := 4, pos := "law.go:45", after := #[{ on := 34, ground := Ground.data }, { on := 35, ground := Ground.data }], guard := none }) (v := ?tkv18030) rfl (by kernel_rfl) (by kernel_rfl) (by kernel_rfl) (fun _ _ _ h => h) (Or.inl ⟨by rfl, ?tky18030⟩) hH7 ?tkr18030
        case tky18030 => (intro w' hSw; clear hSw; go_simp; try with_reducible rfl)
        try simp only [Act.put, List.setIfInBounds_toArray, List.set_cons_zero, List.set_cons_succ]
        refine wpAnyH_take (i := 37) (oi := { dst := some 16, op := Op.assign (Operand.tmp 165), type := 4, pos := "law.go:45", after := #[{ on := 36, ground := Ground.data }, { on := 35, ground := Ground.chain }, { on := 0, ground := Ground.phase }, { on := 1, ground := Ground.phase }, { on := 2, ground := Ground.phase }, { on := 3, ground := Ground.phase }, { on := 4, ground := Ground.phase }, { on := 5, ground := Ground.phase }, { on := 6, ground := Ground.phase }, { on := 7, ground := Ground.phase }, { on := 8, ground := Ground.phase }, { on := 9, ground := Ground.phase }, { on := 10, ground := Ground.phase }, { on := 11, ground := Ground.phase }, { on := 12, ground := Ground.phase }, { on := 13, ground := Ground.phase }, { on := 14, ground := Ground.phase }, { on := 15, ground := Ground.phase }, { on := 16, ground := Ground.phase }, { on := 17, ground := Ground.phase }, { on := 18, ground := Ground.phase }, { on := 19, ground := Ground.phase }, { on := 20, ground := Ground.phase }, { on := 21, ground := Ground.phase }, { on := 22, ground := Ground.phase }, { on := 23, ground := Ground.phase }, { on := 24, ground := Ground.phase }, { on := 25, ground := Ground.phase }, { on := 26, ground := Ground.phase }, { on := 27, ground := Ground.phase }, { on := 28, ground := Ground.phase }, { on := 29, ground := Ground.phase }, { on := 30, ground := Ground.phase }, { on := 31, ground := Ground.phase }, { on := 32, ground := Ground.phase }, { on := 33, ground := Ground.phase }, { on := 34, ground := Ground.phase }, { on := 35, ground := Ground.phase }, { on := 36, ground := Ground.phase }], guard := none }) (v := ?tkv18031) rfl (by kernel_rfl) (by kernel_rfl) (by kernel_rfl) (fun _ _ _ h => h) (Or.inl ⟨by rfl, ?tky18031⟩) hH7 ?tkr18031
        case tky18031 => (intro w' hSw; clear hSw; go_simp; try with_reducible rfl)
        try simp only [Act.put, List.setIfInBounds_toArray, List.set_cons_zero, List.set_cons_succ]
        refine wpAnyH_done (by kernel_rfl) ?_ _
        refine NoPanic.normal ?_
        have HEND := Lib.hid SAW.out.b
        go_wp2_with fail
        go_ret
        exact ⟨rfl, HEND.out⟩
end Go.Proofs.YtidcnoejihjgjaaGreatDoor.Car
