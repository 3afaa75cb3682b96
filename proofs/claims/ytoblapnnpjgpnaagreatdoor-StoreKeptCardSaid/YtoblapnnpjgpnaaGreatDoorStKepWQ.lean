/- StoreKept's walk. -/
import Derived.Deep.CutBlock
import Derived.Deep.DeepCutAuto
import Derived.Test.YtoblapnnpjgpnaaGreatDoorZRQ
import Derived.Test.YtoblapnnpjgpnaaGreatDoorRDigQ
import Derived.Test.YtoblapnnpjgpnaaGreatDoorCdSoQ
import Derived.Test.YtoblapnnpjgpnaaGreatDoorZSQ
import Derived.Test.YtoblapnnpjgpnaaGreatDoorZQQ
namespace Go.Proofs.YtoblapnnpjgpnaaGreatDoor.Sto
open Go.RowKit
open VecM RdM Vc Sp Pc El Cd Dc
theorem skept_k {gf gs kept : Nat} {q : StD} {F : Nat → Prop} {w : World} (h : IsSto gf gs q w F) (ht : q.t = kept) : Calls Tryz.prog 10 #[.pointer (some ⟨gs, 0, none⟩)] w fun e w' => e = .returned (.int .i64 (kept : Int)) ∧ w = w' := by
  subst ht
  exact kept_any gf gs q F w h
theorem sneeds_k {gf gs n K p kept : Nat} {q : StD} {F : Nat → Prop} {w : World} (h : IsSto gf gs q w F) (ok : StOk q n) (hK : q.K = K) (hP : q.P = p) (hr : rankM q.M = p + q.t) (ht : q.t = kept) : Calls Tryz.prog 11 #[.pointer (some ⟨gs, 0, none⟩)] w fun e w' => e = .returned (.int .i64 ((K : Int) - (kept : Int))) ∧ Hid (Below w.heap.size w w') := by
  have h1 := sneeds_any gf gs q n F w h ok
  have e : ((q.K : Int) + (q.P : Int) - (rankM q.M : Int)) = (K : Int) - (kept : Int) := by
    rw [hr, ht, hK, hP]; push_cast; omega
  rw [e] at h1
  exact h1
/-- two boxes, and the image's bytes -/
def biO (g1 g2 : Nat) (o1 o2 : Go.Obj) (A : Option Addr) (n : Nat) (img : List UInt8) : Dc.Obj := fun W F => boxO g1 g2 o1 o2 W F ∧ (∃ gi oi, A = some ⟨gi, oi, none⟩ ∧ F gi) ∧ Row W W.heap.size A n (bv img)
theorem keeps_bi (g1 g2 : Nat) (o1 o2 : Go.Obj) (A : Option Addr) (n : Nat) (img : List UInt8) (hn : 0 < n) : Keeps (biO g1 g2 o1 o2 A n img) := fun W W' F h hk hs => by
  obtain ⟨h1, ⟨gi, oi, rfl, hg⟩, h3⟩ := h
  have hl : gi < W.heap.size := by
    obtain ⟨b, o, e, hb, _⟩ := h3.2 hn
    injection e with e
    injection e with e
    omega
  exact ⟨keeps_box g1 g2 o1 o2 W W' F h1 hk hs, ⟨gi, oi, rfl, hg⟩, row_same1 h3 (hk gi hg hl) hs⟩
theorem sep_bi {A B : Dc.Obj} {w0 W : World} {g1 g2 : Nat} {o1 o2 : Go.Obj} {A3 : Option Addr} {n : Nat} {img : List UInt8} (S : Sep3 A B (biO g1 g2 o1 o2 A3 n img) w0 W) : (W.heap[g1]? = some o1 ∧ W.heap[g2]? = some o2) ∧ Row W W.heap.size A3 n (bv img) := by
  obtain ⟨F, G, H, a, b, c, r⟩ := S
  exact ⟨c.1.2.2, c.2.2⟩
theorem conv_rowS {w : World} {n : Nat} {A : Option Addr} {l : List UInt8} (c : Nat) (h : Row w w.heap.size A n (bv l)) : ∀ W, Below w.heap.size w W → (convert 23 9 (.slice A n c)).run Tryz.prog W = .ok (.string ⟨l.toArray⟩) W := fun _W hW =>
  run_string_row (h.below hW) c 23 9 5 Tryz.underlying23 Tryz.underlying5 Tryz.underlying9
theorem openQ_tbs {gen s K P Z len : Nat} {f f' : Fl} (h : f'.bs = f.bs) : (openQ gen s K P Z len f').t = (openQ gen s K P Z len f).t := by
  rw [openQ_bs h]
theorem KP.img {s K P Z k : Nat} {img : List UInt8} {b : Bool} {f : Fl} {N : Nat} (h : KP s K P Z N k img b f) (hN : img.length = N) (h1 : 1 ≤ N) (h2 : N ≤ 512) (h3 : N ≤ K * Z) (ht : (openQ 1 s K P Z N f).t = K) : rankM (openQ 1 s K P Z N f).M = K + P ∧ joinLs ((solM (openQ 1 s K P Z N f).M).take K) (N : Int) = img := by
  have hr := h.rank
  have hi := h.sto.inv
  obtain ⟨Qv, hQ, q2, q3, q4, _, _⟩ := openQ_mt 1 s K P Z N f
  rw [hQ] at hr hi ht ⊢
  rw [q2, q3, q4] at hi
  have hf : rankM Qv.M = K + P := by rw [hr.1, ht]; omega
  refine ⟨hf, ?_⟩
  rw [full_img hi hf hr.2.2, ← hN]
  exact joinLs_img (by omega) (by omega) (by omega)
set_option maxRecDepth 100000 in
set_option maxHeartbeats 25600000 in
theorem stokept_walk (A : Option Addr) (n c : Nat) (l : List UInt8) (Z0 P0 : Int) (Ac : Option Addr) (nc cc : Nat) (ys : List WCall) (w : World) (hr0 : Row w w.heap.size A n (bv l)) (hn1 : n ≤ c) (hn2 : c ≤ 9223372036854775807) (hys : WCalls w Ac nc ys) (ht : DTab w) :
    Calls Tryz.prog 4 #[.slice A n c, .int .i64 Z0, .int .i64 P0, .slice Ac nc cc] w fun e w' => e = .returned (.bool true) ∧ Below w.heap.size w w' := by
  obtain ⟨iu, hui, huz, hus0, hub⟩ := info_parts Tryz.info5
  have HT := Lib.hid ht
  have HYS := Lib.hid hys
  have HYL := Lib.hid hys.1
  have HFEW := Lib.hid (few23_any Ac nc cc ys w hys)
  have HR0 := Lib.hid hr0
  clear ht hys hr0
  go_enter Tryz.func4, Tryz.ntmps4
  go_wp2_with fail
  refine HFEW.out.mono ?_
  rintro e w0 ⟨rb, rfl, hfew, hb00⟩
  cases rb with
  | false =>
    go_wp2_with fail
    refine (awake23_any w0 (HT.out.grow hb00.out)).mono ?_
    rintro e w3 ⟨rfl, hb3⟩
    go_wp2_with fail
    go_ret
    exact ⟨rfl, hb00.out.trans (hb3.out.mono hb00.out.size)⟩
  | true =>
  have HFW := Lib.hid (hfew.out rfl)
  have hnl : nc ≤ 80 := by have := HFW.out.1; rw [HYL.out] at this; exact this
  have HB00 := Lib.hid hb00.out
  have hr : Row w0 w0.heap.size A n (bv l) := (HR0.out.below hb00.out).more hb00.out.size
  clear hfew HFEW hb00
  obtain ⟨p, hp, hpp⟩ := pick_in P0 17 (by omega) (by omega)
  have HPP := Lib.hid hpp
  have hp16 : p ≤ 16 := by omega
  have hp16i : (p : Int) ≤ 16 := by omega
  clear hpp hp
  obtain ⟨z, hz, hzp⟩ := pick_in Z0 16 (by omega) (by omega)
  obtain ⟨q, hq⟩ : ∃ q : Nat, min n 200 = q := ⟨_, rfl⟩
  obtain ⟨zz, hzz⟩ : ∃ zz : Nat, max (1 + z) ((q + 1 + 64 - 1) / 64) = zz := ⟨_, rfl⟩
  have hd : ((q : Int) + 1 + 64 - 1) / 64 = (((q + 1 + 64 - 1) / 64 : Nat) : Int) := by omega
  have hz1 : 1 ≤ zz ∧ zz ≤ 16 := by omega
  have hN : q + 1 ≤ 64 * zz := by omega
  obtain ⟨K, hK⟩ : ∃ K, (q + 1 + zz - 1) / zz = K := ⟨_, rfl⟩
  have HQ : Hid (min (n : Int) 200 = (q : Int)) := Lib.hid (by omega)
  have HZP := Lib.hid hzp
  have HM : Hid (max (1 + (z : Int)) (((q : Int) + 1 + 64 - 1) / 64) = (zz : Int)) := Lib.hid (by rw [hd]; omega)
  have HNK : Hid (q + 1 ≤ K * zz) := Lib.hid (by
    have h := Nat.div_add_mod (q + 1 + zz - 1) zz
    rw [hK] at h
    have := Nat.mod_lt (q + 1 + zz - 1) (show 0 < zz by omega)
    rw [Nat.mul_comm] at h
    omega)
  have HF := Lib.hid (size_facts (q + 1) zz K (by omega) (by omega) hz1 hN hK)
  have HZZ := Lib.hid hz1
  have hqn : q ≤ n := by omega
  have hq200 : q ≤ 200 := by omega
  have hz15 : (z : Int) ≤ 15 := by omega
  have HR := Lib.hid (hr.head (k := q) (by omega))
  rw [bv_take] at HR
  have hl : (l.take q).length = q := by rw [List.length_take, hr.blen]; omega
  have HL := Lib.hid hl
  have OW0 := Lib.hid (own_lit (w := w0) (base := w0.heap.size) (g := w0.heap.size) (n := 0) (e := 5) #[] rfl (Nat.le_refl _) rfl (by unfold maxLen; omega))
  have HBA : Hid (Below w0.heap.size w0 (w0.alloc (.cells #[] 5))) := Lib.hid ((Below.refl _ _).alloc (Nat.le_refl _) _)
  clear hzp hq hzz hd hN hK hl hz
  go_upto_region 4 with (first
    | rw [HQ.out]
    | (at_builtin; refine wpList_app rfl (.tmp 28) (.tmp 33) 23 rfl w0.heap.size 5 iu (.int .u8 0) 1 Tryz.underlying23 hui huz hus0 hub rfl _ 0 [] rfl OW0.out w0.heap.size A q c (bv (l.take q)) rfl (HR.out.below HBA.out) (bv_one _) (by unfold maxLen; omega) (by omega) HBA.out.size ?_; intro v2 w2 hown2 hg2 hat2; rw [Nat.zero_add, List.nil_append] at hown2; have O2 := Lib.hid hown2; have B2 := Lib.hid (below_app HBA.out HBA.out.size OW0.out (Nat.le_refl _) hg2); clear hown2 hg2 hat2)
    | (at_builtin; refine wpList_app rfl (.tmp 34) (.tmp 35) 23 rfl w0.heap.size 5 iu (.int .u8 0) 1 Tryz.underlying23 hui huz hus0 hub rfl _ q _ rfl (own_below O2.out ((Below.refl _ _).alloc (Nat.le_refl _) _)) _ _ 1 1 (bv [9]) rfl (row_new w2 _ _ _) (bv_one _) (by unfold maxLen; omega) (by omega) (Nat.le_trans B2.out.size ((Below.refl _ _).alloc (Nat.le_refl _) _).size) ?_; intro v3 w3 hown3 hg3 hat3; have O3 := Lib.hid hown3; have B3 := Lib.hid (below_app (B2.out.alloc B2.out.size _) (B2.out.alloc B2.out.size _).size (own_below O2.out ((Below.refl _ _).alloc (Nat.le_refl _) _)) (Nat.le_refl _) hg3); clear hown3 hg3 hat3))
  obtain ⟨A3, c3, rfl, hc3, hc3m, _⟩ := own_slice O3.out
  have hzzb : (zz : Int) ≤ 16 ∧ 1 ≤ (zz : Int) := by have := HZZ.out; omega
  have hz1 := hzzb.1
  have hz2 := hzzb.2
  clear OW0 HBA O2 B2 HR hzzb
  go_upto_region 5 with (first | rw [HZP.out])
  rw [HM.out]
  clear HZP HM HQ hz15 hui huz hus0 hub
  obtain ⟨img, himg⟩ : ∃ img, l.take q ++ [9] = img := ⟨_, rfl⟩
  have hlen : img.length = q + 1 := by rw [← himg, List.length_append, HL.out]; rfl
  have O3' : Hid (w3.ownsRow w0.heap.size 5 1 (.slice A3 (q + 1) c3) (q + 1) (bv img)) := Lib.hid (by rw [← himg, bv_append]; exact O3.out)
  have HIL := Lib.hid hlen
  obtain ⟨N, hNN⟩ : ∃ N, q + 1 = N := ⟨_, rfl⟩
  have hNi : (q : Int) + 1 = (N : Int) := by omega
  have hN201 : (N : Int) ≤ 201 := by omega
  rw [hNN] at O3' HIL HF HNK
  rw [hNN] at hc3
  rw [hNN]
  have HDG := Lib.hid (Sh.rdig_any w3.heap.size N c3 A3 img w3 (Row.of_own O3'.out) (Nat.le_refl _) (by omega))
  clear O3 HL himg hlen hr
  go_wp2_with (rw [HPP.out])
  refine HDG.out.mono ?_
  rintro e w4 ⟨A4, c4, rfl, ho4, hb4⟩
  (try rw [HPP.out])
  have HB4 : Hid (Below w0.heap.size w0 w4) := Lib.hid (B3.out.trans (hb4.out.mono B3.out.size))
  have O4 : Hid (w4.ownsRow w0.heap.size 5 1 (.slice A3 N c3) N (bv img)) := Lib.hid (own_below O3'.out hb4.out)
  clear HDG ho4 hb4 O3' B3 HPP
  have HX5 := Lib.hid (heap_alloc_new w4 (.cells #[.int .u32 3, .int .u32 1, .int .i64 (N : Int), .int .i64 (zz : Int), .int .i64 (p : Int), .slice A4 32 c4] 33))
  have HB45 : Hid (Below w4.heap.size w4 (w4.alloc (.cells #[.int .u32 3, .int .u32 1, .int .i64 (N : Int), .int .i64 (zz : Int), .int .i64 (p : Int), .slice A4 32 c4] 33))) := Lib.hid ((Below.refl _ _).alloc (Nat.le_refl _) _)
  have HL5 : Hid (w4.heap.size < (w4.alloc (.cells #[.int .u32 3, .int .u32 1, .int .i64 (N : Int), .int .i64 (zz : Int), .int .i64 (p : Int), .slice A4 32 c4] 33)).heap.size) := Lib.hid (by simp)
  go_upto_region 6 with fail
  generalize (w4.alloc (.cells #[.int .u32 3, .int .u32 1, .int .i64 (N : Int), .int .i64 (zz : Int), .int .i64 (p : Int), .slice A4 32 c4] 33)) = w5 at *
  obtain ⟨c0, c1, c2, d3, d4, d5⟩ := bx6 HX5.out
  have HCY := Lib.hid (count_yes HF.out.1 HF.out.2 hp16 HZZ.out)
  have HOF := Lib.hid (of_all 3 1 (N : Int) (zz : Int) (p : Int) A4 32 c4 w5)
  go_wp2_with fail
  refine HOF.out.mono ?_
  rintro e w6 ⟨sq, Kq, Pq, Zq, rfl, hb6, hval⟩
  obtain ⟨rfl, rfl, rfl, rfl⟩ := hval HCY.out
  rw [HCY.out, HF.out.1]
  have HB56 := Lib.hid hb6
  clear HOF HCY hval hb6 c0 c1 c2 d3 d4 d5
  have HX7 := Lib.hid (heap_alloc_new w6 (.cells #[.int .u32 3, .int .i64 (K : Int), .int .i64 (p : Int), .int .i64 (zz : Int)] 44))
  have HB67 : Hid (Below w6.heap.size w6 (w6.alloc (.cells #[.int .u32 3, .int .i64 (K : Int), .int .i64 (p : Int), .int .i64 (zz : Int)] 44))) := Lib.hid ((Below.refl _ _).alloc (Nat.le_refl _) _)
  have HL7 : Hid (w6.heap.size < (w6.alloc (.cells #[.int .u32 3, .int .i64 (K : Int), .int .i64 (p : Int), .int .i64 (zz : Int)] 44)).heap.size) := Lib.hid (by simp)
  go_upto_region 7 with fail
  generalize (w6.alloc (.cells #[.int .u32 3, .int .i64 (K : Int), .int .i64 (p : Int), .int .i64 (zz : Int)] 44)) = w7 at *
  have HS57 : Hid (w.heap.size ≤ w0.heap.size ∧ w0.heap.size ≤ w4.heap.size ∧ w4.heap.size < w5.heap.size ∧ w5.heap.size ≤ w6.heap.size ∧ w6.heap.size < w7.heap.size) := Lib.hid ⟨HB00.out.size, HB4.out.size, HL5.out, HB56.out.size, HL7.out⟩
  have HB47 : Hid (Below w4.heap.size w4 w7) := Lib.hid ((HB45.out.trans (HB56.out.mono HB45.out.size)).trans (HB67.out.mono (Nat.le_trans HB45.out.size HB56.out.size)))
  have HX57 : Hid (w7.heap[w4.heap.size]? = some (.cells #[.int .u32 3, .int .u32 1, .int .i64 (N : Int), .int .i64 (zz : Int), .int .i64 (p : Int), .slice A4 32 c4] 33 (0, 0))) := Lib.hid ((HB67.out.block w4.heap.size (by have := HS57.out; omega)).trans ((HB56.out.block w4.heap.size HL5.out).trans HX5.out))
  have HB7 : Hid (Below w.heap.size w w7) := Lib.hid (HB00.out.trans ((HB4.out.trans (HB47.out.mono HB4.out.size)).mono HB00.out.size))
  have HNW := Lib.hid (new_yes 3 K p zz w7.heap.size c3 A3 img w7 HF.out.2 hp16 HZZ.out (by rw [HIL.out]; exact Row.of_own (own_below O4.out HB47.out)) (Nat.le_refl _) (by rw [HIL.out]; omega) (by rw [HIL.out]; exact HF.out.1))
  rw [HIL.out] at HNW
  have O7 := Lib.hid (own_below O4.out HB47.out)
  clear HX5 HB45 HB56 HB67 HL5 HL7
  obtain ⟨⟨p0, p1, p2, p3⟩, -⟩ := bx4 HX7.out
  go_wp2_with fail
  refine HNW.out.mono ?_
  rintro e w8 ⟨gh, rfl, hgh1, hgh2, hh8, hb8⟩
  have HH8 := Lib.hid hh8.out
  have HB78 := Lib.hid hb8.out
  clear hh8 hb8 HNW p0 p1 p2 p3
  go_wp2_with fail
  refine (new_any 100 w8 (by omega)).mono ?_
  rintro e w9 ⟨gf, rfl, hgf, hf9, hb9⟩
  have HOK9 := Lib.hid (new_ok 100 (by decide))
  have HBL : Hid (opW ((flNew 100).fill 0 3584) 1 zz 8 = ⟨1, zz, [], -1, 0⟩) := Lib.hid (blank_new HZZ.out.2 fun i _ hi => by
      show (if 0 ≤ i ∧ i < 0 + 3584 then (255 : UInt8) else _) = 255
      rw [if_pos (by omega)])
  have HQ0 : Hid ((openQ 1 3 K p zz N ((flNew 100).fill 0 3584)).t = 0) := Lib.hid (by
    unfold openQ
    rw [HBL.out]
    rfl)
  have HKP0 : Hid (KP 3 K p zz N 0 img true ((flNew 100).fill 0 3584)) := Lib.hid ⟨rfl, rfl, fun _ => Int.le_refl 0, HOK9.out, by omega, HF.out.2, hp16, HZZ.out, (by rw [HBL.out]; intro q hq; cases hq), (by rw [HQ0.out, HBL.out]; rfl), (fun _ => ⟨rfl, by rw [HBL.out]; rfl⟩)⟩
  generalize (flNew 100).fill 0 3584 = f0 at *
  have HNP9 : Hid (0 < N) := Lib.hid (by omega)
  have HB9 : Hid (Below w.heap.size w w9) := Lib.hid ((HB7.out.trans (HB78.out.mono HB7.out.size)).trans (hb9.out.mono (Nat.le_trans HB7.out.size HB78.out.size)))
  have HS9 : Hid (Sep3 (flO gf f0) (headO 3 K p zz img gh) (biO w4.heap.size w6.heap.size (.cells #[.int .u32 3, .int .u32 1, .int .i64 (N : Int), .int .i64 (zz : Int), .int .i64 (p : Int), .slice A4 32 c4] 33 (0, 0)) (.cells #[.int .u32 3, .int .i64 (K : Int), .int .i64 (p : Int), .int .i64 (zz : Int)] 44 (0, 0)) A3 N img) w w9) := Lib.hid (by
    have q1 := HS57.out
    have q2 := HB78.out.size
    have q3 := hb9.out.size
    have q4 := hf9.out.lt
    have hd := head_new HH8.out hgh1
    obtain ⟨gi, cci, hvi, hgi, hli⟩ := O4.out.form HNP9.out
    injection hvi with e1 e2 e3
    refine ⟨(fun b => b = gf), (fun b => w7.heap.size ≤ b ∧ b < w8.heap.size), (fun b => b = w4.heap.size ∨ b = w6.heap.size ∨ b = gi), ⟨rfl, hf9.out⟩, keeps_head 3 K p zz img gh w8 w9 _ hd (fun q _ hl => hb9.out.block q hl) q3, ⟨⟨.inl rfl, .inr (.inl rfl), ?_, ?_⟩, ⟨gi, 0, e1, .inr (.inr rfl)⟩, ?_⟩, ?_, ?_, ?_, ?_, HB9.out⟩
    · exact (hb9.out.block w4.heap.size (by omega)).trans ((HB78.out.block w4.heap.size (by omega)).trans HX57.out)
    · exact (hb9.out.block w6.heap.size (by omega)).trans ((HB78.out.block w6.heap.size (by omega)).trans HX7.out)
    · exact ((Row.of_own O7.out).below (HB78.out.trans (hb9.out.mono q2))).more (Nat.le_trans q2 q3)
    · intro b h1 h2; omega
    · intro b h1 h2; omega
    · intro b h1 h2; omega
    · intro b h; omega)
  clear hgh1 hgh2 hgf hf9 hb9 HOK9 HBL HH8 HB78 HB47 HX57 HX7 HB4 HB7 O4 O7
  have HOP := Lib.hid (opens_any gf 1 3 1 N zz p K 32 c4 A4 f0 w9 (by obtain ⟨_, _, _, a, _⟩ := HS9.out; exact a.2) HKP0.out.down (by omega) (by omega) HF.out.1 HF.out.2 hp16 HZZ.out (HT.out.grow HB9.out))
  have HKB := Lib.hid (keeps_bi w4.heap.size w6.heap.size (.cells #[.int .u32 3, .int .u32 1, .int .i64 (N : Int), .int .i64 (zz : Int), .int .i64 (p : Int), .slice A4 32 c4] 33 (0, 0)) (.cells #[.int .u32 3, .int .i64 (K : Int), .int .i64 (p : Int), .int .i64 (zz : Int)] 44 (0, 0)) A3 N img HNP9.out)
  obtain ⟨⟨hx5, -⟩, -⟩ := sep_bi HS9.out
  obtain ⟨c0, c1, c2, d3, d4, d5⟩ := bx6 hx5
  clear hx5
  go_wp2_with fail
  refine HOP.out.mono ?_
  rintro e w10 ⟨gs, rfl, hs10, hb10⟩
  have HS10 : Hid (Sep3 (stoO gf gs (openQ 1 3 K p zz N f0)) (headO 3 K p zz img gh) (biO w4.heap.size w6.heap.size (.cells #[.int .u32 3, .int .u32 1, .int .i64 (N : Int), .int .i64 (zz : Int), .int .i64 (p : Int), .slice A4 32 c4] 33 (0, 0)) (.cells #[.int .u32 3, .int .i64 (K : Int), .int .i64 (p : Int), .int .i64 (zz : Int)] 44 (0, 0)) A3 N img) w w10) := Lib.hid (sep_start HS9.out (keeps_head 3 K p zz img gh) HKB.out hb10.out hs10.out)
  clear HOP hs10 hb10 HS9 HB9 c0 c1 c2 d3 d4 d5
  go_wp2_with fail
  go_loopw [14, 15, 16, 17, 81] (fun s14 s15 s16 s17 i wr => ∃ (k gs kept cuts : Nat) (e1 : Int) (f : Fl) (b : Bool), k ≤ nc ∧ s14 = .pointer (some ⟨gs, 0, none⟩) ∧ s15 = .int .i64 e1 ∧ s16 = .int .i64 (kept : Int) ∧ s17 = .int .i64 (cuts : Int) ∧ i = .int .i64 (k : Int) ∧ Hid (b = decide (cuts = 0)) ∧ cuts ≤ k ∧ Hid (KP 3 K p zz N k img b f) ∧ Hid ((openQ 1 3 K p zz N f).t = kept) ∧ Hid (Sep3 (stoO gf gs (openQ 1 3 K p zz N f)) (headO 3 K p zz img gh) (biO w4.heap.size w6.heap.size (.cells #[.int .u32 3, .int .u32 1, .int .i64 (N : Int), .int .i64 (zz : Int), .int .i64 (p : Int), .slice A4 32 c4] 33 (0, 0)) (.cells #[.int .u32 3, .int .i64 (K : Int), .int .i64 (p : Int), .int .i64 (zz : Int)] 44 (0, 0)) A3 N img) w wr)) (fun _ _ _ _ i _ => nc - (intOf i).toNat)
  case atStart => exact ⟨0, gs, 0, 0, 0, f0, true, by omega, rfl, rfl, rfl, rfl, rfl, rfl, Nat.le_refl _, HKP0, HQ0, HS10⟩
  case round =>
    clear HKP0 HS10 HQ0
    obtain ⟨k, gs, kept, cuts, e1, f, b, hk, rfl, rfl, rfl, rfl, rfl, HCB, hck, HKP, HKT, HS⟩ := hrel
    by_cases hlt : k < nc
    · obtain ⟨b0, o, y, rfl, hbl, hym, hyk, hyg, c0, c1, c2, c3', c4'⟩ := HYS.out.at_ HS.out.b hlt
      obtain ⟨d, sN, aT, yn, yA, ym, yc, yl⟩ := y
      dsimp only at c0 c1 c2 c3' c4'
      have HYN : Hid (yn < 4294967296) := Lib.hid hyg.2.2.2.2.2.2
      clear hyg hym hyk
      obtain ⟨W0, hW0⟩ : ∃ W0, wr.alloc (.cells #[.int .i64 d, .int .i64 sN, .int .i64 aT, .int .u32 (yn : Int), .slice yA ym yc] 25) = W0 := ⟨_, rfl⟩
      have hbW : Below wr.heap.size wr W0 := by rw [← hW0]; exact (Below.refl _ _).alloc (Nat.le_refl _) _
      have hxW : W0.heap[wr.heap.size]? = some (.cells #[.int .i64 d, .int .i64 sN, .int .i64 aT, .int .u32 (yn : Int), .slice yA ym yc] 25 (0, 0)) := by rw [← hW0]; exact heap_alloc_new wr _
      have HS0 := Lib.hid (HS.out.below (keeps_sto gf gs (openQ 1 3 K p zz N f)) (keeps_head 3 K p zz img gh) HKB.out hbW)
      have HW0 := Lib.hid hW0
      have HXW := Lib.hid hxW
      obtain ⟨gc, hgc⟩ : ∃ gc, wr.heap.size = gc := ⟨_, rfl⟩
      clear hW0 hbW hxW HS
      go_upto_region 16 with fail
      rw [HW0.out]
      rw [hgc] at HXW
      (try rw [hgc])
      clear HW0 c0 c1 c2 c3' c4' hbl hgc
      have c0 : W0.cell? ⟨gc, 0, none⟩ = some (.int .i64 d) := by rw [cell_of_row W0 gc 0 _ _ (0, 0) HXW.out]; rfl
      have c1 : W0.cell? ⟨gc, 1, none⟩ = some (.int .i64 sN) := by rw [cell_of_row W0 gc 1 _ _ (0, 0) HXW.out]; rfl
      have c2 : W0.cell? ⟨gc, 2, none⟩ = some (.int .i64 aT) := by rw [cell_of_row W0 gc 2 _ _ (0, 0) HXW.out]; rfl
      have c3' : W0.cell? ⟨gc, 3, none⟩ = some (.int .u32 (yn : Int)) := by rw [cell_of_row W0 gc 3 _ _ (0, 0) HXW.out]; rfl
      clear HXW
      obtain ⟨idn, hidn⟩ : ∃ i, yn % 200 = i := ⟨_, rfl⟩
      have HID : Hid (idn < 4294967296) := Lib.hid (by have := HYN.out; omega)
      have HI1 : Hid ((yn : Int).tmod 200 = (idn : Int)) := Lib.hid (by rw [← hidn]; rfl)
      have HI2 : Hid ((yn : Int) % 200 = (idn : Int)) := Lib.hid (by rw [← hidn]; rfl)
      clear hidn
      go_upto_region 17 with fail
      (try rw [HI1.out]); (try rw [HI2.out])
      clear HI1 HI2 c3' HYN
      go_upto_if 90 with fail
      generalize (d == 0) = bq
      go_cut [17] (fun s17 wx => ∃ (cuts2 : Nat) (f2 : Fl) (b2 : Bool), s17 = .int .i64 (cuts2 : Int) ∧ Hid (b2 = decide (cuts2 = 0)) ∧ cuts2 ≤ k + 1 ∧ Hid (KP 3 K p zz N k img b2 f2) ∧ Hid ((openQ 1 3 K p zz N f2).t = kept) ∧ Hid (Sep3 (stoO gf gs (openQ 1 3 K p zz N f2)) (headO 3 K p zz img gh) (biO w4.heap.size w6.heap.size (.cells #[.int .u32 3, .int .u32 1, .int .i64 (N : Int), .int .i64 (zz : Int), .int .i64 (p : Int), .slice A4 32 c4] 33 (0, 0)) (.cells #[.int .u32 3, .int .i64 (K : Int), .int .i64 (p : Int), .int .i64 (zz : Int)] 44 (0, 0)) A3 N img) w wx))
      case first =>
        cases bq with
        | true =>
          obtain ⟨pf, hpf, hnp⟩ := pick_in sN 80 (by omega) (by omega)
          have HNP := Lib.hid hnp
          have hfu := sep_fuse HS0.out (keeps_head 3 K p zz img gh) HKB.out (pf : Int) aT
          have HKF := Lib.hid (HKP.out.fuse (decide (0 ≤ (pf : Int))) pf aT (by omega))
          have hqf := openQ_bs (gen := 1) (s := 3) (K := K) (P := p) (Z := zz) (len := N) (f := f) (f' := { f with there := decide (0 ≤ (pf : Int)), left := (pf : Int), torn := aT }) rfl
          have hff : (openQ 1 3 K p zz N f).f = f := rfl
          rw [hff, ← hqf] at hfu
          have HFU := Lib.hid hfu
          have HTF : Hid ((openQ 1 3 K p zz N { f with there := decide (0 ≤ (pf : Int)), left := (pf : Int), torn := aT }).t = kept) := Lib.hid ((openQ_tbs rfl).trans HKT.out)
          clear hfu hqf hff
          generalize ({ f with there := decide (0 ≤ (pf : Int)), left := (pf : Int), torn := aT } : Fl) = f9 at *
          have hcu : (cuts : Int) ≤ 100 := by omega
          clear hnp hpf
          go_upto_region 18 with fail
          go_wp2_with (rw [HNP.out])
          refine HFU.out.mono ?_
          rintro e w1 ⟨rfl, hs1⟩
          have HS1 := Lib.hid hs1.out
          clear hs1 HFU c0 c1 c2
          go_wp2_with fail
          go_meet
          case rel => exact ⟨cuts + 1, f9, false, by push_cast; rfl, Lib.hid (by simp), by omega, HKF, HTF, HS1⟩
        | false =>
          clear c0 c1 c2
          go_wp2_with fail
          go_meet
          case rel => exact ⟨cuts, f, b, rfl, HCB, by omega, HKP, HKT, HS0⟩
      case rest =>
        clear HKP HKT HS0 HCB c0 c1 c2
        obtain ⟨cuts2, f2, b2, rfl, HCB, hc2, HKP, HKT, HS0⟩ := hcut
        generalize wc = wb at *
        obtain ⟨q2, r, hput, hcase⟩ := HKP.out.put (by omega) HID.out
        have HSY := Lib.hid (sym_sep (id := idn) HS0.out (keeps_sto gf gs (openQ 1 3 K p zz N f2)) HKB.out (by omega) HID.out HF.out.2 hp16 HZZ.out (by rw [HIL.out]; exact HF.out.1) HT.out)
        have HPUT := Lib.hid hput
        have HCASE := Lib.hid hcase
        clear hput hcase
        go_wp2_with fail
        refine HSY.out.mono ?_
        rintro e w1 ⟨R, cR, rfl, hrow, hsr⟩
        have HPU : Hid (Calls Tryz.prog 9 #[.pointer (some ⟨gs, 0, none⟩), .int .u32 (idn : Int), .slice R zz cR] w1 (fun e W' => e = .returned (.int .i64 r) ∧ Hid (Sep3 (stoO gf gs q2) (headO 3 K p zz img gh) (biO w4.heap.size w6.heap.size (.cells #[.int .u32 3, .int .u32 1, .int .i64 (N : Int), .int .i64 (zz : Int), .int .i64 (p : Int), .slice A4 32 c4] 33 (0, 0)) (.cells #[.int .u32 3, .int .i64 (K : Int), .int .i64 (p : Int), .int .i64 (zz : Int)] 44 (0, 0)) A3 N img) w W'))) := Lib.hid (put_sep (q := (openQ 1 3 K p zz N f2)) (c := cR) hsr.out (keeps_head 3 K p zz img gh) HKB.out HKP.out.sto (by omega) HID.out hrow.out HT.out HPUT.out)
        clear HSY hrow hsr HPUT
        go_wp2_with fail
        refine HPU.out.mono ?_
        rintro e w2 ⟨rfl, hs2⟩
        have HS2 := Lib.hid hs2.out
        clear HPU hs2 HS0
        go_upto_block 2 with fail
        go_cut [14, 15, 16] (fun s14 s15 s16 wx => ∃ (gs3 kept3 : Nat) (e3 : Int) (f3 : Fl), s14 = .pointer (some ⟨gs3, 0, none⟩) ∧ s15 = .int .i64 e3 ∧ s16 = .int .i64 (kept3 : Int) ∧ Hid (KP 3 K p zz N (k + 1) img b2 f3) ∧ Hid ((openQ 1 3 K p zz N f3).t = kept3) ∧ Hid (Sep3 (stoO gf gs3 (openQ 1 3 K p zz N f3)) (headO 3 K p zz img gh) (biO w4.heap.size w6.heap.size (.cells #[.int .u32 3, .int .u32 1, .int .i64 (N : Int), .int .i64 (zz : Int), .int .i64 (p : Int), .slice A4 32 c4] 33 (0, 0)) (.cells #[.int .u32 3, .int .i64 (K : Int), .int .i64 (p : Int), .int .i64 (zz : Int)] 44 (0, 0)) A3 N img) w wx))
        case first =>
          rcases HCASE.out with ⟨rfl, h1, h2, h3⟩ | ⟨rfl, h1⟩ | ⟨rfl, h1, h2⟩ | ⟨rfl, h1, h2, h3⟩
          · have HSZ : Hid (Sep3 (stoO gf gs (openQ 1 3 K p zz N q2.f)) (headO 3 K p zz img gh) (biO w4.heap.size w6.heap.size (.cells #[.int .u32 3, .int .u32 1, .int .i64 (N : Int), .int .i64 (zz : Int), .int .i64 (p : Int), .slice A4 32 c4] 33 (0, 0)) (.cells #[.int .u32 3, .int .i64 (K : Int), .int .i64 (p : Int), .int .i64 (zz : Int)] 44 (0, 0)) A3 N img) w w2) := Lib.hid (by rw [← h2]; exact HS2.out)
            have HTZ : Hid ((openQ 1 3 K p zz N q2.f).t = kept + 1) := Lib.hid (by rw [← h2, h3, HKT.out])
            have hkk : (kept : Int) ≤ 100 := by have := HKP.out.rank.2.1; rw [HKT.out] at this; have := HF.out.2; omega
            have HKZ := Lib.hid h1
            clear h1 h2 h3
            go_wp2_with fail
            go_meet
            case rel => exact ⟨gs, kept + 1, e1, q2.f, rfl, rfl, by push_cast; rfl, HKZ, HTZ, HSZ⟩
          · have HSZ : Hid (Sep3 (stoO gf gs (openQ 1 3 K p zz N f2)) (headO 3 K p zz img gh) (biO w4.heap.size w6.heap.size (.cells #[.int .u32 3, .int .u32 1, .int .i64 (N : Int), .int .i64 (zz : Int), .int .i64 (p : Int), .slice A4 32 c4] 33 (0, 0)) (.cells #[.int .u32 3, .int .i64 (K : Int), .int .i64 (p : Int), .int .i64 (zz : Int)] 44 (0, 0)) A3 N img) w w2) := Lib.hid (by rw [← h1]; exact HS2.out)
            have HKZ := Lib.hid HKP.out.more
            clear h1
            go_wp2_with fail
            go_meet
            case rel => exact ⟨gs, kept, e1, f2, rfl, rfl, rfl, HKZ, HKT, HSZ⟩
          · have HSZ : Hid (Sep3 (stoO gf gs (openQ 1 3 K p zz N f2)) (headO 3 K p zz img gh) (biO w4.heap.size w6.heap.size (.cells #[.int .u32 3, .int .u32 1, .int .i64 (N : Int), .int .i64 (zz : Int), .int .i64 (p : Int), .slice A4 32 c4] 33 (0, 0)) (.cells #[.int .u32 3, .int .i64 (K : Int), .int .i64 (p : Int), .int .i64 (zz : Int)] 44 (0, 0)) A3 N img) w w2) := Lib.hid (by rw [← h2]; exact HS2.out)
            have HKZ := Lib.hid HKP.out.more
            have hcz : ¬ (cuts2 : Int) = 0 := by
              have := HCB.out
              rw [h1] at this
              have := of_decide_eq_false this.symm
              omega
            have hczb : ((cuts2 : Int) == 0) = false := beq_eq_false_iff_ne.2 hcz
            clear h1 h2
            go_wp2_with fail
            go_meet
            case rel => exact ⟨gs, kept, e1, f2, rfl, rfl, rfl, HKZ, HKT, HSZ⟩
          · have HPW := Lib.hid (sep_power HS2.out (keeps_head 3 K p zz img gh) HKB.out)
            have HKZ : Hid (KP 3 K p zz N (k + 1) img b2 { q2.f with down := false }) := Lib.hid (by rw [h1]; exact h2)
            have hdn : ({ q2.f with down := false } : Fl).down = false := rfl
            have H3 := Lib.hid h3
            generalize hf4 : ({ q2.f with down := false } : Fl) = f4 at *
            clear h1 h2 h3
            go_wp2_with fail
            refine HPW.out.mono ?_
            rintro e w3b ⟨rfl, hs3⟩
            have HS3 := Lib.hid hs3.out
            clear hs3 HPW HS2
            have HOP := Lib.hid (opens_any gf 1 3 1 N zz p K 32 c4 A4 f4 w3b (sep_fl HS3.out) hdn (by omega) (by omega) HF.out.1 HF.out.2 hp16 HZZ.out (HT.out.grow HS3.out.b))
            obtain ⟨⟨hx5, -⟩, -⟩ := sep_bi HS3.out
            obtain ⟨c0, c1, c2, d3, d4, d5⟩ := bx6 hx5
            clear hx5
            go_wp2_with fail
            refine HOP.out.mono ?_
            rintro e w4b ⟨gs4, rfl, hst, hbt⟩
            have HS4 : Hid (Sep3 (stoO gf gs4 (openQ 1 3 K p zz N f4)) (headO 3 K p zz img gh) (biO w4.heap.size w6.heap.size (.cells #[.int .u32 3, .int .u32 1, .int .i64 (N : Int), .int .i64 (zz : Int), .int .i64 (p : Int), .slice A4 32 c4] 33 (0, 0)) (.cells #[.int .u32 3, .int .i64 (K : Int), .int .i64 (p : Int), .int .i64 (zz : Int)] 44 (0, 0)) A3 N img) w w4b) := Lib.hid (sep_reopen HS3.out (keeps_head 3 K p zz img gh) HKB.out hbt.out hst.out)
            clear HOP hst hbt HS3 c0 c1 c2 d3 d4 d5
            have HKE := Lib.hid (kept_any gf gs4 (openQ 1 3 K p zz N f4) _ w4b (sep_sto HS4.out))
            have hkk : (kept : Int) ≤ 100 := by have := HKP.out.rank.2.1; rw [HKT.out] at this; have := HF.out.2; omega
            rcases H3.out with h3 | h3
            · have HTZ : Hid ((openQ 1 3 K p zz N f4).t = kept) := Lib.hid (h3.trans HKT.out)
              rw [HTZ.out] at HKE
              have hkb : ((kept : Int) != (kept : Int)) = false := bne_self_eq_false _
              clear h3
              go_wp2_with fail
              refine HKE.out.mono ?_
              rintro e w5b ⟨rfl, rfl⟩
              go_wp2_with fail
              refine HKE.out.mono ?_
              rintro e w5b ⟨rfl, rfl⟩
              go_wp2_with fail
              go_meet
              case rel => exact ⟨gs4, kept, 0, f4, rfl, rfl, rfl, HKZ, HTZ, HS4⟩
            · have HTZ : Hid ((openQ 1 3 K p zz N f4).t = kept + 1) := Lib.hid (by rw [h3, HKT.out])
              rw [HTZ.out] at HKE
              obtain ⟨k1, hk1⟩ : ∃ k1, kept + 1 = k1 := ⟨_, rfl⟩
              have hk1i : (kept : Int) + 1 = (k1 : Int) := by omega
              rw [hk1] at HKE HTZ
              have hkb : ((k1 : Int) != (kept : Int)) = true := bne_iff_ne.2 (by omega)
              have hkn : ¬ (k1 : Int) = (kept : Int) := by omega
              have hkb2 : ((k1 : Int) != (k1 : Int)) = false := bne_self_eq_false _
              clear h3 hk1
              go_wp2_with fail
              refine HKE.out.mono ?_
              rintro e w5b ⟨rfl, rfl⟩
              go_wp2_with fail
              refine HKE.out.mono ?_
              rintro e w5b ⟨rfl, rfl⟩
              go_wp2_with fail
              refine HKE.out.mono ?_
              rintro e w5b ⟨rfl, rfl⟩
              go_wp2_with fail
              go_meet
              case rel => exact ⟨gs4, k1, 0, f4, rfl, rfl, rfl, HKZ, HTZ, HS4⟩
        case rest =>
          clear HKP HKT HS2 HCASE
          obtain ⟨gs3, kept3, e3, f3, rfl, rfl, rfl, HKP, HKT, HS3⟩ := hcut
          generalize wc = wx at *
          have HSO := Lib.hid HKP.out.sto
          have HRK := Lib.hid HKP.out.rank
          have HQK : Hid ((openQ 1 3 K p zz N f3).K = K ∧ (openQ 1 3 K p zz N f3).P = p) := Lib.hid (by
            obtain ⟨Q3, hQ3, q2, q3, q4, _, _⟩ := openQ_mt 1 3 K p zz N f3
            rw [hQ3]; exact ⟨q2, q3⟩)
          have hk3 : kept3 ≤ K := by have := HRK.out.2.1; rw [HKT.out] at this; exact this
          by_cases hfull : kept3 = K
          · have HIMG := Lib.hid (HKP.out.img HIL.out HNP9.out (by omega) HNK.out (by rw [HKT.out]; exact hfull))
            have HIM := Lib.hid (sep_image HS3.out (keeps_head 3 K p zz img gh) HKB.out (k + 1) HSO.out (by rw [HIMG.out.1, HQK.out.1, HQK.out.2]) (by
              have e : (openQ 1 3 K p zz N f3).len = N ∧ (openQ 1 3 K p zz N f3).Z = zz ∧ (openQ 1 3 K p zz N f3).K = K := by
                obtain ⟨Qz, hQz, _, a2, _, a4, a5, _, _⟩ := openQ_flds 1 3 K p zz N f3
                rw [hQz]; exact ⟨a5, a4, a2⟩
              rw [e.1, e.2.1, e.2.2]
              exact HF.out.1))
            have hlenQ : (openQ 1 3 K p zz N f3).len = N ∧ (openQ 1 3 K p zz N f3).K = K := by
              obtain ⟨Qz, hQz, _, a2, _, a4, a5, _, _⟩ := openQ_flds 1 3 K p zz N f3
              rw [hQz]; exact ⟨a5, a2⟩
            rw [hlenQ.1, hlenQ.2, HIMG.out.2] at HIM
            have HFULL := Lib.hid hfull
            clear hlenQ hfull
            go_wp2_with fail
            refine HIM.out.mono ?_
            rintro e wi ⟨Ai, ni, ci, rfl, hrow, hs5⟩
            have HS5 := Lib.hid hs5.out
            have HROWI := Lib.hid hrow.out
            clear HIM hs5 hrow
            have HKE := Lib.hid (fun W (hW : Below wi.heap.size wi W) => skept_k ((sep_sto HS5.out).keep (fun b _ hl => hW.block b hl) hW.size) HKT.out)
            have HNE := Lib.hid (fun W (hW : Below wi.heap.size wi W) => sneeds_k ((sep_sto HS5.out).keep (fun b _ hl => hW.block b hl) hW.size) HSO.out HQK.out.1 HQK.out.2 HRK.out.1 HKT.out)
            have hkeb : ((kept3 : Int) != (kept3 : Int)) = false := bne_self_eq_false _
            have hkgt : ¬ (K : Int) < (kept3 : Int) := by omega
            have hkgn : decide (K < kept3) = false := decide_eq_false (by omega)
            have hkgm : ¬ K < kept3 := by omega
            obtain ⟨df, hdf⟩ : ∃ t : Int, (K : Int) - (kept3 : Int) = t := ⟨_, rfl⟩
            rw [hdf] at HNE
            have hdfb : (df != df) = false := bne_self_eq_false _
            have hdw : IntKind.i64.wrap ((K : Int) - (kept3 : Int)) = df := by rw [hdf]; exact IntWalk.i64_in _ (by have := HF.out.2; omega)
            have hKi : (K : Int) ≤ 64 := by have := HF.out.2; omega
            have hpx := (sep_bi HS5.out).1.2
            have hKeq : ((kept3 : Int) == (K : Int)) = true := by rw [beq_iff_eq]; have := HFULL.out; omega
            have hKeN : decide (kept3 = K) = true := decide_eq_true HFULL.out
            have hKeM : (kept3 == K) = true := beq_iff_eq.2 HFULL.out
            have hiv := (sep_bi HS5.out).2
            have HF36 : Hid (∀ W, Below wi.heap.size wi W → W.cell? ⟨w6.heap.size, 1, none⟩ = some (.int .i64 (K : Int)) ∧ (convert 23 9 (.slice Ai ni ci)).run Tryz.prog W = .ok (.string ⟨img.toArray⟩) W ∧ (convert 23 9 (.slice A3 N c3)).run Tryz.prog W = .ok (.string ⟨img.toArray⟩) W) := Lib.hid (fun W hW => by
              have hx2 := (hW.block w6.heap.size (Array.getElem?_eq_some_iff.1 hpx).1).trans hpx
              exact ⟨(bx4 hx2).1.2.1, conv_rowS ci HROWI.out W hW, conv_rowS c3 hiv W hW⟩)
            clear hpx hiv hdf
            go_upto_region 36 with fail
            refine wp_region_noPanic ?_
            refine wp_region_held_drew (S := (fun W => Below wi.heap.size wi W)) (by kernel_rfl) (Below.refl _ _).drew (fun hH0 => ?_)
            have hH0 : Below wi.heap.size wi wi.drew := hH0
            generalize wi.drew = wd at *
            refine wpAnyH_take (i := 0) (oi := { dst := some 151, op := Op.move (Operand.tmp 14), type := 26, pos := "law.go:135", after := #[], guard := none }) (v := ?tkv5001) rfl (by kernel_rfl) (by kernel_rfl) (by kernel_rfl) (fun _ _ _ h => h) (Or.inl ⟨by rfl, ?tky5001⟩) hH0 ?tkr5001
            case tky5001 => (intro w' hSw; clear hSw; go_simp; try with_reducible rfl)
            try simp only [Act.put, List.setIfInBounds_toArray, List.set_cons_zero, List.set_cons_succ]
            refine wpAnyH_take (i := 2) (oi := { dst := some 153, op := Op.move (Operand.tmp 16), type := 3, pos := "law.go:135", after := #[], guard := none }) (v := ?tkv5002) rfl (by kernel_rfl) (by kernel_rfl) (by kernel_rfl) (fun _ _ _ h => h) (Or.inl ⟨by rfl, ?tky5002⟩) hH0 ?tkr5002
            case tky5002 => (intro w' hSw; clear hSw; go_simp; try with_reducible rfl)
            try simp only [Act.put, List.setIfInBounds_toArray, List.set_cons_zero, List.set_cons_succ]
            refine wpAnyH_ready (rs := [1]) (by kernel_rfl) (by simp) ?_
            refine AllReadyH.cons (o := { dst := some 152, op := Op.call { callee := Callee.value (Operand.func 10), args := #[Operand.tmp 151], argTypes := #[26] }, type := 3, pos := "law.go:135", after := #[{ on := 0, ground := Ground.data }], guard := none }) rfl (fun K hK => ?_) AllReadyH.nil
            go_simp
            refine (HKE.out _ hH0).mono ?_
            rintro e' wke ⟨rfl, rfl⟩
            go_simp
            refine hK.out _ _ hH0 (fun hH5003 => ?_)
            clear hK K
            try simp only [Act.put, List.setIfInBounds_toArray, List.set_cons_zero, List.set_cons_succ]
            refine wpAnyH_take (i := 3) (oi := { dst := some 154, op := Op.binOp BinOp.neq 3 (Operand.tmp 152) (Operand.tmp 153) 3, type := 4, pos := "law.go:135", after := #[{ on := 1, ground := Ground.data }, { on := 2, ground := Ground.data }], guard := none }) (v := ?tkv5004) rfl (by kernel_rfl) (by kernel_rfl) (by kernel_rfl) (fun _ _ _ h => h) (Or.inl ⟨by rfl, ?tky5004⟩) hH5003 ?tkr5004
            case tky5004 => (intro w' hSw; clear hSw; go_simp; try with_reducible rfl)
            try simp only [Act.put, List.setIfInBounds_toArray, List.set_cons_zero, List.set_cons_succ]
            refine wpAnyH_take (i := 4) (oi := { dst := some 155, op := Op.move (Operand.tmp 154), type := 4, pos := "law.go:135", after := #[{ on := 3, ground := Ground.data }, { on := 1, ground := Ground.chain }], guard := none }) (v := ?tkv5005) rfl (by kernel_rfl) (by kernel_rfl) (by kernel_rfl) (fun _ _ _ h => h) (Or.inl ⟨by rfl, ?tky5005⟩) hH5003 ?tkr5005
            case tky5005 => (intro w' hSw; clear hSw; go_simp; try with_reducible rfl)
            try simp only [Act.put, List.setIfInBounds_toArray, List.set_cons_zero, List.set_cons_succ]
            refine wpAnyH_take (i := 5) (oi := { dst := some 156, op := Op.move (Operand.tmp 16), type := 3, pos := "law.go:135", after := #[{ on := 4, ground := Ground.guard }], guard := some (4, false) }) (v := ?tkv5006) rfl (by kernel_rfl) (by kernel_rfl) (by kernel_rfl) (fun _ _ _ h => h) (Or.inl ⟨by rfl, ?tky5006⟩) hH5003 ?tkr5006
            case tky5006 => (intro w' hSw; clear hSw; go_simp; try with_reducible rfl)
            try simp only [Act.put, List.setIfInBounds_toArray, List.set_cons_zero, List.set_cons_succ]
            refine wpAnyH_take (i := 6) (oi := { dst := some 157, op := Op.fieldAddr 44 (Operand.tmp 10) 1, type := 0, pos := "law.go:135", after := #[{ on := 4, ground := Ground.guard }], guard := some (4, false) }) (v := ?tkv5007) rfl (by kernel_rfl) (by kernel_rfl) (by kernel_rfl) (fun _ _ _ h => h) (Or.inl ⟨by rfl, ?tky5007⟩) hH5003 ?tkr5007
            case tky5007 => (intro w' hSw; clear hSw; go_simp; try with_reducible rfl)
            try simp only [Act.put, List.setIfInBounds_toArray, List.set_cons_zero, List.set_cons_succ]
            refine wpAnyH_take (i := 7) (oi := { dst := some 158, op := Op.load 3 (Operand.tmp 157), type := 3, pos := "law.go:135", after := #[{ on := 6, ground := Ground.data }, { on := 4, ground := Ground.guard }], guard := some (4, false) }) (v := ?tkv5008) rfl (by kernel_rfl) (by kernel_rfl) (by kernel_rfl) (fun _ _ _ h => h) (Or.inl ⟨by rfl, ?tky5008⟩) hH5003 ?tkr5008
            case tky5008 => (intro w' hSw; have z0 := HF36.out _ hSw; clear hSw; go_simp; try with_reducible rfl)
            try simp only [Act.put, List.setIfInBounds_toArray, List.set_cons_zero, List.set_cons_succ]
            refine wpAnyH_take (i := 8) (oi := { dst := some 159, op := Op.binOp BinOp.gtr 3 (Operand.tmp 156) (Operand.tmp 158) 3, type := 4, pos := "law.go:135", after := #[{ on := 5, ground := Ground.data }, { on := 7, ground := Ground.data }, { on := 4, ground := Ground.guard }], guard := some (4, false) }) (v := ?tkv5009) rfl (by kernel_rfl) (by kernel_rfl) (by kernel_rfl) (fun _ _ _ h => h) (Or.inl ⟨by rfl, ?tky5009⟩) hH5003 ?tkr5009
            case tky5009 => (intro w' hSw; clear hSw; go_simp; try with_reducible rfl)
            try simp only [Act.put, List.setIfInBounds_toArray, List.set_cons_zero, List.set_cons_succ]
            refine wpAnyH_take (i := 9) (oi := { dst := some 160, op := Op.pick (Operand.tmp 155) (Operand.const (Value.bool true)) (Operand.tmp 159), type := 4, pos := "law.go:135", after := #[{ on := 4, ground := Ground.data }, { on := 8, ground := Ground.data }], guard := none }) (v := ?tkv5010) rfl (by kernel_rfl) (by kernel_rfl) (by kernel_rfl) (fun _ _ _ h => h) (Or.inl ⟨by rfl, ?tky5010⟩) hH5003 ?tkr5010
            case tky5010 => (intro w' hSw; clear hSw; go_simp; try with_reducible rfl)
            try simp only [Act.put, List.setIfInBounds_toArray, List.set_cons_zero, List.set_cons_succ]
            refine wpAnyH_take (i := 10) (oi := { dst := some 161, op := Op.move (Operand.tmp 160), type := 4, pos := "law.go:135", after := #[{ on := 9, ground := Ground.data }, { on := 4, ground := Ground.chain }], guard := none }) (v := ?tkv5011) rfl (by kernel_rfl) (by kernel_rfl) (by kernel_rfl) (fun _ _ _ h => h) (Or.inl ⟨by rfl, ?tky5011⟩) hH5003 ?tkr5011
            case tky5011 => (intro w' hSw; clear hSw; go_simp; try with_reducible rfl)
            try simp only [Act.put, List.setIfInBounds_toArray, List.set_cons_zero, List.set_cons_succ]
            refine wpAnyH_take (i := 11) (oi := { dst := some 162, op := Op.move (Operand.tmp 14), type := 26, pos := "law.go:135", after := #[{ on := 10, ground := Ground.guard }], guard := some (10, false) }) (v := ?tkv5012) rfl (by kernel_rfl) (by kernel_rfl) (by kernel_rfl) (fun _ _ _ h => h) (Or.inl ⟨by rfl, ?tky5012⟩) hH5003 ?tkr5012
            case tky5012 => (intro w' hSw; clear hSw; go_simp; try with_reducible rfl)
            try simp only [Act.put, List.setIfInBounds_toArray, List.set_cons_zero, List.set_cons_succ]
            refine wpAnyH_take (i := 13) (oi := { dst := some 164, op := Op.fieldAddr 44 (Operand.tmp 10) 1, type := 0, pos := "law.go:135", after := #[{ on := 10, ground := Ground.guard }], guard := some (10, false) }) (v := ?tkv5013) rfl (by kernel_rfl) (by kernel_rfl) (by kernel_rfl) (fun _ _ _ h => h) (Or.inl ⟨by rfl, ?tky5013⟩) hH5003 ?tkr5013
            case tky5013 => (intro w' hSw; clear hSw; go_simp; try with_reducible rfl)
            try simp only [Act.put, List.setIfInBounds_toArray, List.set_cons_zero, List.set_cons_succ]
            refine wpAnyH_take (i := 14) (oi := { dst := some 165, op := Op.load 3 (Operand.tmp 164), type := 3, pos := "law.go:135", after := #[{ on := 13, ground := Ground.data }, { on := 10, ground := Ground.guard }], guard := some (10, false) }) (v := ?tkv5014) rfl (by kernel_rfl) (by kernel_rfl) (by kernel_rfl) (fun _ _ _ h => h) (Or.inl ⟨by rfl, ?tky5014⟩) hH5003 ?tkr5014
            case tky5014 => (intro w' hSw; have z0 := HF36.out _ hSw; clear hSw; go_simp; try with_reducible rfl)
            try simp only [Act.put, List.setIfInBounds_toArray, List.set_cons_zero, List.set_cons_succ]
            refine wpAnyH_take (i := 15) (oi := { dst := some 166, op := Op.move (Operand.tmp 16), type := 3, pos := "law.go:135", after := #[{ on := 10, ground := Ground.guard }], guard := some (10, false) }) (v := ?tkv5015) rfl (by kernel_rfl) (by kernel_rfl) (by kernel_rfl) (fun _ _ _ h => h) (Or.inl ⟨by rfl, ?tky5015⟩) hH5003 ?tkr5015
            case tky5015 => (intro w' hSw; clear hSw; go_simp; try with_reducible rfl)
            try simp only [Act.put, List.setIfInBounds_toArray, List.set_cons_zero, List.set_cons_succ]
            refine wpAnyH_take (i := 16) (oi := { dst := some 167, op := Op.binOp BinOp.sub 3 (Operand.tmp 165) (Operand.tmp 166) 3, type := 3, pos := "law.go:135", after := #[{ on := 14, ground := Ground.data }, { on := 15, ground := Ground.data }, { on := 10, ground := Ground.guard }], guard := some (10, false) }) (v := ?tkv5016) rfl (by kernel_rfl) (by kernel_rfl) (by kernel_rfl) (fun _ _ _ h => h) (Or.inl ⟨by rfl, ?tky5016⟩) hH5003 ?tkr5016
            case tky5016 => (intro w' hSw; clear hSw; go_simp; try with_reducible rfl)
            try simp only [Act.put, List.setIfInBounds_toArray, List.set_cons_zero, List.set_cons_succ]
            refine wpAnyH_ready (rs := [12]) (by kernel_rfl) (by simp) ?_
            refine AllReadyH.cons (o := { dst := some 163, op := Op.call { callee := Callee.value (Operand.func 11), args := #[Operand.tmp 162], argTypes := #[26] }, type := 3, pos := "law.go:135", after := #[{ on := 11, ground := Ground.data }, { on := 10, ground := Ground.chain }, { on := 10, ground := Ground.guard }], guard := some (10, false) }) rfl (fun K hK => ?_) AllReadyH.nil
            go_simp
            refine (HNE.out _ hH5003).mono ?_
            rintro e' wne ⟨rfl, hb12'⟩
            have hb12 := hb12'.out
            go_simp
            refine hK.out _ _ ((hH5003).trans (hb12.mono (hH5003).size)) (fun hH5017 => ?_)
            clear hK K
            try simp only [Act.put, List.setIfInBounds_toArray, List.set_cons_zero, List.set_cons_succ]
            have hG5017 : (fun W => Below wi.heap.size wi W ∧ Below wne.heap.size wne W) wne := ⟨hH5017, Below.refl _ _⟩
            refine wpAnyH_grow (S' := (fun W => Below wi.heap.size wi W ∧ Below wne.heap.size wne W)) (fun _ h => h.1) _ _ _ _ ?_
            refine wpAnyH_take (i := 17) (oi := { dst := some 168, op := Op.binOp BinOp.neq 3 (Operand.tmp 163) (Operand.tmp 167) 3, type := 4, pos := "law.go:135", after := #[{ on := 12, ground := Ground.data }, { on := 16, ground := Ground.data }, { on := 10, ground := Ground.guard }], guard := some (10, false) }) (v := ?tkv5018) rfl (by kernel_rfl) (by kernel_rfl) (by kernel_rfl) (fun _ _ _ h => h) (Or.inl ⟨by rfl, ?tky5018⟩) hG5017 ?tkr5018
            case tky5018 => (intro w' hSw; clear hSw; go_simp; try with_reducible rfl)
            try simp only [Act.put, List.setIfInBounds_toArray, List.set_cons_zero, List.set_cons_succ]
            refine wpAnyH_take (i := 18) (oi := { dst := some 169, op := Op.pick (Operand.tmp 161) (Operand.const (Value.bool true)) (Operand.tmp 168), type := 4, pos := "law.go:135", after := #[{ on := 10, ground := Ground.data }, { on := 17, ground := Ground.data }], guard := none }) (v := ?tkv5019) rfl (by kernel_rfl) (by kernel_rfl) (by kernel_rfl) (fun _ _ _ h => h) (Or.inl ⟨by rfl, ?tky5019⟩) hG5017 ?tkr5019
            case tky5019 => (intro w' hSw; clear hSw; go_simp; try with_reducible rfl)
            try simp only [Act.put, List.setIfInBounds_toArray, List.set_cons_zero, List.set_cons_succ]
            refine wpAnyH_take (i := 19) (oi := { dst := some 170, op := Op.move (Operand.tmp 169), type := 4, pos := "law.go:135", after := #[{ on := 18, ground := Ground.data }, { on := 12, ground := Ground.chain }], guard := none }) (v := ?tkv5020) rfl (by kernel_rfl) (by kernel_rfl) (by kernel_rfl) (fun _ _ _ h => h) (Or.inl ⟨by rfl, ?tky5020⟩) hG5017 ?tkr5020
            case tky5020 => (intro w' hSw; clear hSw; go_simp; try with_reducible rfl)
            try simp only [Act.put, List.setIfInBounds_toArray, List.set_cons_zero, List.set_cons_succ]
            refine wpAnyH_take (i := 20) (oi := { dst := some 171, op := Op.move (Operand.tmp 23), type := 4, pos := "law.go:135", after := #[{ on := 19, ground := Ground.guard }], guard := some (19, false) }) (v := ?tkv5021) rfl (by kernel_rfl) (by kernel_rfl) (by kernel_rfl) (fun _ _ _ h => h) (Or.inl ⟨by rfl, ?tky5021⟩) hG5017 ?tkr5021
            case tky5021 => (intro w' hSw; clear hSw; go_simp; try with_reducible rfl)
            try simp only [Act.put, List.setIfInBounds_toArray, List.set_cons_zero, List.set_cons_succ]
            refine wpAnyH_take (i := 21) (oi := { dst := some 172, op := Op.move (Operand.tmp 16), type := 3, pos := "law.go:135", after := #[{ on := 19, ground := Ground.guard }], guard := some (19, false) }) (v := ?tkv5022) rfl (by kernel_rfl) (by kernel_rfl) (by kernel_rfl) (fun _ _ _ h => h) (Or.inl ⟨by rfl, ?tky5022⟩) hG5017 ?tkr5022
            case tky5022 => (intro w' hSw; clear hSw; go_simp; try with_reducible rfl)
            try simp only [Act.put, List.setIfInBounds_toArray, List.set_cons_zero, List.set_cons_succ]
            refine wpAnyH_take (i := 22) (oi := { dst := some 173, op := Op.fieldAddr 44 (Operand.tmp 10) 1, type := 0, pos := "law.go:135", after := #[{ on := 19, ground := Ground.guard }], guard := some (19, false) }) (v := ?tkv5023) rfl (by kernel_rfl) (by kernel_rfl) (by kernel_rfl) (fun _ _ _ h => h) (Or.inl ⟨by rfl, ?tky5023⟩) hG5017 ?tkr5023
            case tky5023 => (intro w' hSw; clear hSw; go_simp; try with_reducible rfl)
            try simp only [Act.put, List.setIfInBounds_toArray, List.set_cons_zero, List.set_cons_succ]
            refine wpAnyH_take (i := 23) (oi := { dst := some 174, op := Op.load 3 (Operand.tmp 173), type := 3, pos := "law.go:135", after := #[{ on := 22, ground := Ground.data }, { on := 19, ground := Ground.guard }], guard := some (19, false) }) (v := ?tkv5024) rfl (by kernel_rfl) (by kernel_rfl) (by kernel_rfl) (fun _ _ _ h => h) (Or.inl ⟨by rfl, ?tky5024⟩) hG5017 ?tkr5024
            case tky5024 => (intro w' hSw; have z0 := HF36.out _ hSw.1; clear hSw; go_simp; try with_reducible rfl)
            try simp only [Act.put, List.setIfInBounds_toArray, List.set_cons_zero, List.set_cons_succ]
            refine wpAnyH_take (i := 24) (oi := { dst := some 175, op := Op.binOp BinOp.eql 3 (Operand.tmp 172) (Operand.tmp 174) 3, type := 4, pos := "law.go:135", after := #[{ on := 21, ground := Ground.data }, { on := 23, ground := Ground.data }, { on := 19, ground := Ground.guard }], guard := some (19, false) }) (v := ?tkv5025) rfl (by kernel_rfl) (by kernel_rfl) (by kernel_rfl) (fun _ _ _ h => h) (Or.inl ⟨by rfl, ?tky5025⟩) hG5017 ?tkr5025
            case tky5025 => (intro w' hSw; clear hSw; go_simp; try with_reducible rfl)
            try simp only [Act.put, List.setIfInBounds_toArray, List.set_cons_zero, List.set_cons_succ]
            refine wpAnyH_take (i := 25) (oi := { dst := some 176, op := Op.binOp BinOp.neq 4 (Operand.tmp 171) (Operand.tmp 175) 4, type := 4, pos := "law.go:135", after := #[{ on := 20, ground := Ground.data }, { on := 24, ground := Ground.data }, { on := 19, ground := Ground.guard }], guard := some (19, false) }) (v := ?tkv5026) rfl (by kernel_rfl) (by kernel_rfl) (by kernel_rfl) (fun _ _ _ h => h) (Or.inl ⟨by rfl, ?tky5026⟩) hG5017 ?tkr5026
            case tky5026 => (intro w' hSw; clear hSw; go_simp; try with_reducible rfl)
            try simp only [Act.put, List.setIfInBounds_toArray, List.set_cons_zero, List.set_cons_succ]
            refine wpAnyH_take (i := 26) (oi := { dst := some 177, op := Op.pick (Operand.tmp 170) (Operand.const (Value.bool true)) (Operand.tmp 176), type := 4, pos := "law.go:135", after := #[{ on := 19, ground := Ground.data }, { on := 25, ground := Ground.data }], guard := none }) (v := ?tkv5027) rfl (by kernel_rfl) (by kernel_rfl) (by kernel_rfl) (fun _ _ _ h => h) (Or.inl ⟨by rfl, ?tky5027⟩) hG5017 ?tkr5027
            case tky5027 => (intro w' hSw; clear hSw; go_simp; try with_reducible rfl)
            try simp only [Act.put, List.setIfInBounds_toArray, List.set_cons_zero, List.set_cons_succ]
            refine wpAnyH_take (i := 27) (oi := { dst := some 178, op := Op.move (Operand.tmp 177), type := 4, pos := "law.go:135", after := #[{ on := 26, ground := Ground.data }, { on := 19, ground := Ground.chain }], guard := none }) (v := ?tkv5028) rfl (by kernel_rfl) (by kernel_rfl) (by kernel_rfl) (fun _ _ _ h => h) (Or.inl ⟨by rfl, ?tky5028⟩) hG5017 ?tkr5028
            case tky5028 => (intro w' hSw; clear hSw; go_simp; try with_reducible rfl)
            try simp only [Act.put, List.setIfInBounds_toArray, List.set_cons_zero, List.set_cons_succ]
            refine wpAnyH_take (i := 28) (oi := { dst := some 179, op := Op.move (Operand.tmp 23), type := 4, pos := "law.go:135", after := #[{ on := 27, ground := Ground.guard }], guard := some (27, false) }) (v := ?tkv5029) rfl (by kernel_rfl) (by kernel_rfl) (by kernel_rfl) (fun _ _ _ h => h) (Or.inl ⟨by rfl, ?tky5029⟩) hG5017 ?tkr5029
            case tky5029 => (intro w' hSw; clear hSw; go_simp; try with_reducible rfl)
            try simp only [Act.put, List.setIfInBounds_toArray, List.set_cons_zero, List.set_cons_succ]
            refine wpAnyH_take (i := 29) (oi := { dst := some 180, op := Op.move (Operand.tmp 179), type := 4, pos := "law.go:135", after := #[{ on := 28, ground := Ground.data }, { on := 27, ground := Ground.chain }, { on := 27, ground := Ground.guard }], guard := some (27, false) }) (v := ?tkv5030) rfl (by kernel_rfl) (by kernel_rfl) (by kernel_rfl) (fun _ _ _ h => h) (Or.inl ⟨by rfl, ?tky5030⟩) hG5017 ?tkr5030
            case tky5030 => (intro w' hSw; clear hSw; go_simp; try with_reducible rfl)
            try simp only [Act.put, List.setIfInBounds_toArray, List.set_cons_zero, List.set_cons_succ]
            refine wpAnyH_take (i := 30) (oi := { dst := some 181, op := Op.move (Operand.tmp 22), type := 23, pos := "law.go:135", after := #[{ on := 29, ground := Ground.guard }], guard := some (29, true) }) (v := ?tkv5031) rfl (by kernel_rfl) (by kernel_rfl) (by kernel_rfl) (fun _ _ _ h => h) (Or.inl ⟨by rfl, ?tky5031⟩) hG5017 ?tkr5031
            case tky5031 => (intro w' hSw; clear hSw; go_simp; try with_reducible rfl)
            try simp only [Act.put, List.setIfInBounds_toArray, List.set_cons_zero, List.set_cons_succ]
            refine wpAnyH_take (i := 31) (oi := { dst := some 182, op := Op.convert 23 9 (Operand.tmp 181), type := 9, pos := "law.go:135", after := #[{ on := 30, ground := Ground.data }, { on := 29, ground := Ground.guard }], guard := some (29, true) }) (v := ?tkv5032) rfl (by kernel_rfl) (by kernel_rfl) (by kernel_rfl) (fun _ _ _ h => h) (Or.inl ⟨by rfl, ?tky5032⟩) hG5017 ?tkr5032
            case tky5032 => (intro w' hSw; have z0 := HF36.out _ hSw.1; clear hSw; go_simp; try with_reducible rfl)
            try simp only [Act.put, List.setIfInBounds_toArray, List.set_cons_zero, List.set_cons_succ]
            refine wpAnyH_take (i := 32) (oi := { dst := some 183, op := Op.move (Operand.tmp 0), type := 23, pos := "law.go:135", after := #[{ on := 29, ground := Ground.guard }], guard := some (29, true) }) (v := ?tkv5033) rfl (by kernel_rfl) (by kernel_rfl) (by kernel_rfl) (fun _ _ _ h => h) (Or.inl ⟨by rfl, ?tky5033⟩) hG5017 ?tkr5033
            case tky5033 => (intro w' hSw; clear hSw; go_simp; try with_reducible rfl)
            try simp only [Act.put, List.setIfInBounds_toArray, List.set_cons_zero, List.set_cons_succ]
            refine wpAnyH_take (i := 33) (oi := { dst := some 184, op := Op.convert 23 9 (Operand.tmp 183), type := 9, pos := "law.go:135", after := #[{ on := 32, ground := Ground.data }, { on := 29, ground := Ground.guard }], guard := some (29, true) }) (v := ?tkv5034) rfl (by kernel_rfl) (by kernel_rfl) (by kernel_rfl) (fun _ _ _ h => h) (Or.inl ⟨by rfl, ?tky5034⟩) hG5017 ?tkr5034
            case tky5034 => (intro w' hSw; have z0 := HF36.out _ hSw.1; clear hSw; go_simp; try with_reducible rfl)
            try simp only [Act.put, List.setIfInBounds_toArray, List.set_cons_zero, List.set_cons_succ]
            refine wpAnyH_take (i := 34) (oi := { dst := some 185, op := Op.binOp BinOp.neq 9 (Operand.tmp 182) (Operand.tmp 184) 9, type := 4, pos := "law.go:135", after := #[{ on := 31, ground := Ground.data }, { on := 33, ground := Ground.data }, { on := 29, ground := Ground.guard }], guard := some (29, true) }) (v := ?tkv5035) rfl (by kernel_rfl) (by kernel_rfl) (by kernel_rfl) (fun _ _ _ h => h) (Or.inl ⟨by rfl, ?tky5035⟩) hG5017 ?tkr5035
            case tky5035 => (intro w' hSw; clear hSw; go_simp; try with_reducible rfl)
            try simp only [Act.put, List.setIfInBounds_toArray, List.set_cons_zero, List.set_cons_succ]
            refine wpAnyH_take (i := 35) (oi := { dst := some 186, op := Op.pick (Operand.tmp 180) (Operand.tmp 185) (Operand.const (Value.bool false)), type := 4, pos := "law.go:135", after := #[{ on := 29, ground := Ground.data }, { on := 34, ground := Ground.data }, { on := 27, ground := Ground.guard }], guard := some (27, false) }) (v := ?tkv5036) rfl (by kernel_rfl) (by kernel_rfl) (by kernel_rfl) (fun _ _ _ h => h) (Or.inl ⟨by rfl, ?tky5036⟩) hG5017 ?tkr5036
            case tky5036 => (intro w' hSw; clear hSw; go_simp; try with_reducible rfl)
            try simp only [Act.put, List.setIfInBounds_toArray, List.set_cons_zero, List.set_cons_succ]
            refine wpAnyH_take (i := 36) (oi := { dst := some 187, op := Op.pick (Operand.tmp 178) (Operand.const (Value.bool true)) (Operand.tmp 186), type := 4, pos := "law.go:135", after := #[{ on := 27, ground := Ground.data }, { on := 35, ground := Ground.data }], guard := none }) (v := ?tkv5037) rfl (by kernel_rfl) (by kernel_rfl) (by kernel_rfl) (fun _ _ _ h => h) (Or.inl ⟨by rfl, ?tky5037⟩) hG5017 ?tkr5037
            case tky5037 => (intro w' hSw; clear hSw; go_simp; try with_reducible rfl)
            try simp only [Act.put, List.setIfInBounds_toArray, List.set_cons_zero, List.set_cons_succ]
            refine wpAnyH_done (by kernel_rfl) ?_ _
            refine NoPanic.normal ?_
            have hEnd : Below wi.heap.size wi _ := hG5017.1
            have HSE := Lib.hid (HS5.out.below (keeps_sto gf gs3 (openQ 1 3 K p zz N f3)) (keeps_head 3 K p zz img gh) HKB.out hEnd)
            go_wp2_with fail
            go_roundw
            case rel => exact ⟨k + 1, gs3, kept3, cuts2, e3, f3, b2, by omega, rfl, rfl, rfl, rfl, by go_num, HCB, hc2, HKP, HKT, HSE⟩
            case measure => simp [intOf]; omega
          · have hnf : rankM (openQ 1 3 K p zz N f3).M ≠ (openQ 1 3 K p zz N f3).K + (openQ 1 3 K p zz N f3).P := by
              have h := HRK.out.1
              rw [HKT.out] at h
              intro e
              have e2 : (openQ 1 3 K p zz N f3).K + (openQ 1 3 K p zz N f3).P = K + p := by rw [HQK.out.1, HQK.out.2]
              omega
            have HIM := Lib.hid (simage_part gf gs3 (openQ 1 3 K p zz N f3) _ wx (sep_sto HS3.out) hnf)
            have HNFU := Lib.hid hfull
            clear hnf hfull
            go_wp2_with fail
            refine HIM.out.mono ?_
            rintro e wi ⟨rfl, hbi⟩
            have HS5 := Lib.hid (HS3.out.below (keeps_sto gf gs3 (openQ 1 3 K p zz N f3)) (keeps_head 3 K p zz img gh) HKB.out hbi.out)
            clear HIM hbi
            have HKE := Lib.hid (fun W (hW : Below wi.heap.size wi W) => skept_k ((sep_sto HS5.out).keep (fun b _ hl => hW.block b hl) hW.size) HKT.out)
            have HNE := Lib.hid (fun W (hW : Below wi.heap.size wi W) => sneeds_k ((sep_sto HS5.out).keep (fun b _ hl => hW.block b hl) hW.size) HSO.out HQK.out.1 HQK.out.2 HRK.out.1 HKT.out)
            have hkeb : ((kept3 : Int) != (kept3 : Int)) = false := bne_self_eq_false _
            have hkgt : ¬ (K : Int) < (kept3 : Int) := by omega
            have hkgn : decide (K < kept3) = false := decide_eq_false (by omega)
            have hkgm : ¬ K < kept3 := by omega
            obtain ⟨df, hdf⟩ : ∃ t : Int, (K : Int) - (kept3 : Int) = t := ⟨_, rfl⟩
            rw [hdf] at HNE
            have hdfb : (df != df) = false := bne_self_eq_false _
            have hdw : IntKind.i64.wrap ((K : Int) - (kept3 : Int)) = df := by rw [hdf]; exact IntWalk.i64_in _ (by have := HF.out.2; omega)
            have hKi : (K : Int) ≤ 64 := by have := HF.out.2; omega
            have hpx := (sep_bi HS5.out).1.2
            have hKeq : ((kept3 : Int) == (K : Int)) = false := beq_eq_false_iff_ne.2 (by have := HNFU.out; omega)
            have hKeN : decide (kept3 = K) = false := decide_eq_false HNFU.out
            have hKeM : (kept3 == K) = false := beq_eq_false_iff_ne.2 HNFU.out
            have HF36 : Hid (∀ W, Below wi.heap.size wi W → W.cell? ⟨w6.heap.size, 1, none⟩ = some (.int .i64 (K : Int))) := Lib.hid (fun W hW => by
              have hx2 := (hW.block w6.heap.size (Array.getElem?_eq_some_iff.1 hpx).1).trans hpx
              exact (bx4 hx2).1.2.1)
            have hKn : ¬ (kept3 : Int) = (K : Int) := by have := HNFU.out; omega
            clear hpx hdf
            go_upto_region 36 with fail
            refine wp_region_noPanic ?_
            refine wp_region_held_drew (S := (fun W => Below wi.heap.size wi W)) (by kernel_rfl) (Below.refl _ _).drew (fun hH0 => ?_)
            have hH0 : Below wi.heap.size wi wi.drew := hH0
            generalize wi.drew = wd at *
            refine wpAnyH_take (i := 0) (oi := { dst := some 151, op := Op.move (Operand.tmp 14), type := 26, pos := "law.go:135", after := #[], guard := none }) (v := ?tkv7001) rfl (by kernel_rfl) (by kernel_rfl) (by kernel_rfl) (fun _ _ _ h => h) (Or.inl ⟨by rfl, ?tky7001⟩) hH0 ?tkr7001
            case tky7001 => (intro w' hSw; clear hSw; go_simp; try with_reducible rfl)
            try simp only [Act.put, List.setIfInBounds_toArray, List.set_cons_zero, List.set_cons_succ]
            refine wpAnyH_take (i := 2) (oi := { dst := some 153, op := Op.move (Operand.tmp 16), type := 3, pos := "law.go:135", after := #[], guard := none }) (v := ?tkv7002) rfl (by kernel_rfl) (by kernel_rfl) (by kernel_rfl) (fun _ _ _ h => h) (Or.inl ⟨by rfl, ?tky7002⟩) hH0 ?tkr7002
            case tky7002 => (intro w' hSw; clear hSw; go_simp; try with_reducible rfl)
            try simp only [Act.put, List.setIfInBounds_toArray, List.set_cons_zero, List.set_cons_succ]
            refine wpAnyH_ready (rs := [1]) (by kernel_rfl) (by simp) ?_
            refine AllReadyH.cons (o := { dst := some 152, op := Op.call { callee := Callee.value (Operand.func 10), args := #[Operand.tmp 151], argTypes := #[26] }, type := 3, pos := "law.go:135", after := #[{ on := 0, ground := Ground.data }], guard := none }) rfl (fun K hK => ?_) AllReadyH.nil
            go_simp
            refine (HKE.out _ hH0).mono ?_
            rintro e' wke ⟨rfl, rfl⟩
            go_simp
            refine hK.out _ _ hH0 (fun hH7003 => ?_)
            clear hK K
            try simp only [Act.put, List.setIfInBounds_toArray, List.set_cons_zero, List.set_cons_succ]
            refine wpAnyH_take (i := 3) (oi := { dst := some 154, op := Op.binOp BinOp.neq 3 (Operand.tmp 152) (Operand.tmp 153) 3, type := 4, pos := "law.go:135", after := #[{ on := 1, ground := Ground.data }, { on := 2, ground := Ground.data }], guard := none }) (v := ?tkv7004) rfl (by kernel_rfl) (by kernel_rfl) (by kernel_rfl) (fun _ _ _ h => h) (Or.inl ⟨by rfl, ?tky7004⟩) hH7003 ?tkr7004
            case tky7004 => (intro w' hSw; clear hSw; go_simp; try with_reducible rfl)
            try simp only [Act.put, List.setIfInBounds_toArray, List.set_cons_zero, List.set_cons_succ]
            refine wpAnyH_take (i := 4) (oi := { dst := some 155, op := Op.move (Operand.tmp 154), type := 4, pos := "law.go:135", after := #[{ on := 3, ground := Ground.data }, { on := 1, ground := Ground.chain }], guard := none }) (v := ?tkv7005) rfl (by kernel_rfl) (by kernel_rfl) (by kernel_rfl) (fun _ _ _ h => h) (Or.inl ⟨by rfl, ?tky7005⟩) hH7003 ?tkr7005
            case tky7005 => (intro w' hSw; clear hSw; go_simp; try with_reducible rfl)
            try simp only [Act.put, List.setIfInBounds_toArray, List.set_cons_zero, List.set_cons_succ]
            refine wpAnyH_take (i := 5) (oi := { dst := some 156, op := Op.move (Operand.tmp 16), type := 3, pos := "law.go:135", after := #[{ on := 4, ground := Ground.guard }], guard := some (4, false) }) (v := ?tkv7006) rfl (by kernel_rfl) (by kernel_rfl) (by kernel_rfl) (fun _ _ _ h => h) (Or.inl ⟨by rfl, ?tky7006⟩) hH7003 ?tkr7006
            case tky7006 => (intro w' hSw; clear hSw; go_simp; try with_reducible rfl)
            try simp only [Act.put, List.setIfInBounds_toArray, List.set_cons_zero, List.set_cons_succ]
            refine wpAnyH_take (i := 6) (oi := { dst := some 157, op := Op.fieldAddr 44 (Operand.tmp 10) 1, type := 0, pos := "law.go:135", after := #[{ on := 4, ground := Ground.guard }], guard := some (4, false) }) (v := ?tkv7007) rfl (by kernel_rfl) (by kernel_rfl) (by kernel_rfl) (fun _ _ _ h => h) (Or.inl ⟨by rfl, ?tky7007⟩) hH7003 ?tkr7007
            case tky7007 => (intro w' hSw; clear hSw; go_simp; try with_reducible rfl)
            try simp only [Act.put, List.setIfInBounds_toArray, List.set_cons_zero, List.set_cons_succ]
            refine wpAnyH_take (i := 7) (oi := { dst := some 158, op := Op.load 3 (Operand.tmp 157), type := 3, pos := "law.go:135", after := #[{ on := 6, ground := Ground.data }, { on := 4, ground := Ground.guard }], guard := some (4, false) }) (v := ?tkv7008) rfl (by kernel_rfl) (by kernel_rfl) (by kernel_rfl) (fun _ _ _ h => h) (Or.inl ⟨by rfl, ?tky7008⟩) hH7003 ?tkr7008
            case tky7008 => (intro w' hSw; have z0 := HF36.out _ hSw; clear hSw; go_simp; try with_reducible rfl)
            try simp only [Act.put, List.setIfInBounds_toArray, List.set_cons_zero, List.set_cons_succ]
            refine wpAnyH_take (i := 8) (oi := { dst := some 159, op := Op.binOp BinOp.gtr 3 (Operand.tmp 156) (Operand.tmp 158) 3, type := 4, pos := "law.go:135", after := #[{ on := 5, ground := Ground.data }, { on := 7, ground := Ground.data }, { on := 4, ground := Ground.guard }], guard := some (4, false) }) (v := ?tkv7009) rfl (by kernel_rfl) (by kernel_rfl) (by kernel_rfl) (fun _ _ _ h => h) (Or.inl ⟨by rfl, ?tky7009⟩) hH7003 ?tkr7009
            case tky7009 => (intro w' hSw; clear hSw; go_simp; try with_reducible rfl)
            try simp only [Act.put, List.setIfInBounds_toArray, List.set_cons_zero, List.set_cons_succ]
            refine wpAnyH_take (i := 9) (oi := { dst := some 160, op := Op.pick (Operand.tmp 155) (Operand.const (Value.bool true)) (Operand.tmp 159), type := 4, pos := "law.go:135", after := #[{ on := 4, ground := Ground.data }, { on := 8, ground := Ground.data }], guard := none }) (v := ?tkv7010) rfl (by kernel_rfl) (by kernel_rfl) (by kernel_rfl) (fun _ _ _ h => h) (Or.inl ⟨by rfl, ?tky7010⟩) hH7003 ?tkr7010
            case tky7010 => (intro w' hSw; clear hSw; go_simp; try with_reducible rfl)
            try simp only [Act.put, List.setIfInBounds_toArray, List.set_cons_zero, List.set_cons_succ]
            refine wpAnyH_take (i := 10) (oi := { dst := some 161, op := Op.move (Operand.tmp 160), type := 4, pos := "law.go:135", after := #[{ on := 9, ground := Ground.data }, { on := 4, ground := Ground.chain }], guard := none }) (v := ?tkv7011) rfl (by kernel_rfl) (by kernel_rfl) (by kernel_rfl) (fun _ _ _ h => h) (Or.inl ⟨by rfl, ?tky7011⟩) hH7003 ?tkr7011
            case tky7011 => (intro w' hSw; clear hSw; go_simp; try with_reducible rfl)
            try simp only [Act.put, List.setIfInBounds_toArray, List.set_cons_zero, List.set_cons_succ]
            refine wpAnyH_take (i := 11) (oi := { dst := some 162, op := Op.move (Operand.tmp 14), type := 26, pos := "law.go:135", after := #[{ on := 10, ground := Ground.guard }], guard := some (10, false) }) (v := ?tkv7012) rfl (by kernel_rfl) (by kernel_rfl) (by kernel_rfl) (fun _ _ _ h => h) (Or.inl ⟨by rfl, ?tky7012⟩) hH7003 ?tkr7012
            case tky7012 => (intro w' hSw; clear hSw; go_simp; try with_reducible rfl)
            try simp only [Act.put, List.setIfInBounds_toArray, List.set_cons_zero, List.set_cons_succ]
            refine wpAnyH_take (i := 13) (oi := { dst := some 164, op := Op.fieldAddr 44 (Operand.tmp 10) 1, type := 0, pos := "law.go:135", after := #[{ on := 10, ground := Ground.guard }], guard := some (10, false) }) (v := ?tkv7013) rfl (by kernel_rfl) (by kernel_rfl) (by kernel_rfl) (fun _ _ _ h => h) (Or.inl ⟨by rfl, ?tky7013⟩) hH7003 ?tkr7013
            case tky7013 => (intro w' hSw; clear hSw; go_simp; try with_reducible rfl)
            try simp only [Act.put, List.setIfInBounds_toArray, List.set_cons_zero, List.set_cons_succ]
            refine wpAnyH_take (i := 14) (oi := { dst := some 165, op := Op.load 3 (Operand.tmp 164), type := 3, pos := "law.go:135", after := #[{ on := 13, ground := Ground.data }, { on := 10, ground := Ground.guard }], guard := some (10, false) }) (v := ?tkv7014) rfl (by kernel_rfl) (by kernel_rfl) (by kernel_rfl) (fun _ _ _ h => h) (Or.inl ⟨by rfl, ?tky7014⟩) hH7003 ?tkr7014
            case tky7014 => (intro w' hSw; have z0 := HF36.out _ hSw; clear hSw; go_simp; try with_reducible rfl)
            try simp only [Act.put, List.setIfInBounds_toArray, List.set_cons_zero, List.set_cons_succ]
            refine wpAnyH_take (i := 15) (oi := { dst := some 166, op := Op.move (Operand.tmp 16), type := 3, pos := "law.go:135", after := #[{ on := 10, ground := Ground.guard }], guard := some (10, false) }) (v := ?tkv7015) rfl (by kernel_rfl) (by kernel_rfl) (by kernel_rfl) (fun _ _ _ h => h) (Or.inl ⟨by rfl, ?tky7015⟩) hH7003 ?tkr7015
            case tky7015 => (intro w' hSw; clear hSw; go_simp; try with_reducible rfl)
            try simp only [Act.put, List.setIfInBounds_toArray, List.set_cons_zero, List.set_cons_succ]
            refine wpAnyH_take (i := 16) (oi := { dst := some 167, op := Op.binOp BinOp.sub 3 (Operand.tmp 165) (Operand.tmp 166) 3, type := 3, pos := "law.go:135", after := #[{ on := 14, ground := Ground.data }, { on := 15, ground := Ground.data }, { on := 10, ground := Ground.guard }], guard := some (10, false) }) (v := ?tkv7016) rfl (by kernel_rfl) (by kernel_rfl) (by kernel_rfl) (fun _ _ _ h => h) (Or.inl ⟨by rfl, ?tky7016⟩) hH7003 ?tkr7016
            case tky7016 => (intro w' hSw; clear hSw; go_simp; try with_reducible rfl)
            try simp only [Act.put, List.setIfInBounds_toArray, List.set_cons_zero, List.set_cons_succ]
            refine wpAnyH_ready (rs := [12]) (by kernel_rfl) (by simp) ?_
            refine AllReadyH.cons (o := { dst := some 163, op := Op.call { callee := Callee.value (Operand.func 11), args := #[Operand.tmp 162], argTypes := #[26] }, type := 3, pos := "law.go:135", after := #[{ on := 11, ground := Ground.data }, { on := 10, ground := Ground.chain }, { on := 10, ground := Ground.guard }], guard := some (10, false) }) rfl (fun K hK => ?_) AllReadyH.nil
            go_simp
            refine (HNE.out _ hH7003).mono ?_
            rintro e' wne ⟨rfl, hb12'⟩
            have hb12 := hb12'.out
            go_simp
            refine hK.out _ _ ((hH7003).trans (hb12.mono (hH7003).size)) (fun hH7017 => ?_)
            clear hK K
            try simp only [Act.put, List.setIfInBounds_toArray, List.set_cons_zero, List.set_cons_succ]
            have hG7017 : (fun W => Below wi.heap.size wi W ∧ Below wne.heap.size wne W) wne := ⟨hH7017, Below.refl _ _⟩
            refine wpAnyH_grow (S' := (fun W => Below wi.heap.size wi W ∧ Below wne.heap.size wne W)) (fun _ h => h.1) _ _ _ _ ?_
            refine wpAnyH_take (i := 17) (oi := { dst := some 168, op := Op.binOp BinOp.neq 3 (Operand.tmp 163) (Operand.tmp 167) 3, type := 4, pos := "law.go:135", after := #[{ on := 12, ground := Ground.data }, { on := 16, ground := Ground.data }, { on := 10, ground := Ground.guard }], guard := some (10, false) }) (v := ?tkv7018) rfl (by kernel_rfl) (by kernel_rfl) (by kernel_rfl) (fun _ _ _ h => h) (Or.inl ⟨by rfl, ?tky7018⟩) hG7017 ?tkr7018
            case tky7018 => (intro w' hSw; clear hSw; go_simp; try with_reducible rfl)
            try simp only [Act.put, List.setIfInBounds_toArray, List.set_cons_zero, List.set_cons_succ]
            refine wpAnyH_take (i := 18) (oi := { dst := some 169, op := Op.pick (Operand.tmp 161) (Operand.const (Value.bool true)) (Operand.tmp 168), type := 4, pos := "law.go:135", after := #[{ on := 10, ground := Ground.data }, { on := 17, ground := Ground.data }], guard := none }) (v := ?tkv7019) rfl (by kernel_rfl) (by kernel_rfl) (by kernel_rfl) (fun _ _ _ h => h) (Or.inl ⟨by rfl, ?tky7019⟩) hG7017 ?tkr7019
            case tky7019 => (intro w' hSw; clear hSw; go_simp; try with_reducible rfl)
            try simp only [Act.put, List.setIfInBounds_toArray, List.set_cons_zero, List.set_cons_succ]
            refine wpAnyH_take (i := 19) (oi := { dst := some 170, op := Op.move (Operand.tmp 169), type := 4, pos := "law.go:135", after := #[{ on := 18, ground := Ground.data }, { on := 12, ground := Ground.chain }], guard := none }) (v := ?tkv7020) rfl (by kernel_rfl) (by kernel_rfl) (by kernel_rfl) (fun _ _ _ h => h) (Or.inl ⟨by rfl, ?tky7020⟩) hG7017 ?tkr7020
            case tky7020 => (intro w' hSw; clear hSw; go_simp; try with_reducible rfl)
            try simp only [Act.put, List.setIfInBounds_toArray, List.set_cons_zero, List.set_cons_succ]
            refine wpAnyH_take (i := 20) (oi := { dst := some 171, op := Op.move (Operand.tmp 23), type := 4, pos := "law.go:135", after := #[{ on := 19, ground := Ground.guard }], guard := some (19, false) }) (v := ?tkv7021) rfl (by kernel_rfl) (by kernel_rfl) (by kernel_rfl) (fun _ _ _ h => h) (Or.inl ⟨by rfl, ?tky7021⟩) hG7017 ?tkr7021
            case tky7021 => (intro w' hSw; clear hSw; go_simp; try with_reducible rfl)
            try simp only [Act.put, List.setIfInBounds_toArray, List.set_cons_zero, List.set_cons_succ]
            refine wpAnyH_take (i := 21) (oi := { dst := some 172, op := Op.move (Operand.tmp 16), type := 3, pos := "law.go:135", after := #[{ on := 19, ground := Ground.guard }], guard := some (19, false) }) (v := ?tkv7022) rfl (by kernel_rfl) (by kernel_rfl) (by kernel_rfl) (fun _ _ _ h => h) (Or.inl ⟨by rfl, ?tky7022⟩) hG7017 ?tkr7022
            case tky7022 => (intro w' hSw; clear hSw; go_simp; try with_reducible rfl)
            try simp only [Act.put, List.setIfInBounds_toArray, List.set_cons_zero, List.set_cons_succ]
            refine wpAnyH_take (i := 22) (oi := { dst := some 173, op := Op.fieldAddr 44 (Operand.tmp 10) 1, type := 0, pos := "law.go:135", after := #[{ on := 19, ground := Ground.guard }], guard := some (19, false) }) (v := ?tkv7023) rfl (by kernel_rfl) (by kernel_rfl) (by kernel_rfl) (fun _ _ _ h => h) (Or.inl ⟨by rfl, ?tky7023⟩) hG7017 ?tkr7023
            case tky7023 => (intro w' hSw; clear hSw; go_simp; try with_reducible rfl)
            try simp only [Act.put, List.setIfInBounds_toArray, List.set_cons_zero, List.set_cons_succ]
            refine wpAnyH_take (i := 23) (oi := { dst := some 174, op := Op.load 3 (Operand.tmp 173), type := 3, pos := "law.go:135", after := #[{ on := 22, ground := Ground.data }, { on := 19, ground := Ground.guard }], guard := some (19, false) }) (v := ?tkv7024) rfl (by kernel_rfl) (by kernel_rfl) (by kernel_rfl) (fun _ _ _ h => h) (Or.inl ⟨by rfl, ?tky7024⟩) hG7017 ?tkr7024
            case tky7024 => (intro w' hSw; have z0 := HF36.out _ hSw.1; clear hSw; go_simp; try with_reducible rfl)
            try simp only [Act.put, List.setIfInBounds_toArray, List.set_cons_zero, List.set_cons_succ]
            refine wpAnyH_take (i := 24) (oi := { dst := some 175, op := Op.binOp BinOp.eql 3 (Operand.tmp 172) (Operand.tmp 174) 3, type := 4, pos := "law.go:135", after := #[{ on := 21, ground := Ground.data }, { on := 23, ground := Ground.data }, { on := 19, ground := Ground.guard }], guard := some (19, false) }) (v := ?tkv7025) rfl (by kernel_rfl) (by kernel_rfl) (by kernel_rfl) (fun _ _ _ h => h) (Or.inl ⟨by rfl, ?tky7025⟩) hG7017 ?tkr7025
            case tky7025 => (intro w' hSw; clear hSw; go_simp; try with_reducible rfl)
            try simp only [Act.put, List.setIfInBounds_toArray, List.set_cons_zero, List.set_cons_succ]
            refine wpAnyH_take (i := 25) (oi := { dst := some 176, op := Op.binOp BinOp.neq 4 (Operand.tmp 171) (Operand.tmp 175) 4, type := 4, pos := "law.go:135", after := #[{ on := 20, ground := Ground.data }, { on := 24, ground := Ground.data }, { on := 19, ground := Ground.guard }], guard := some (19, false) }) (v := ?tkv7026) rfl (by kernel_rfl) (by kernel_rfl) (by kernel_rfl) (fun _ _ _ h => h) (Or.inl ⟨by rfl, ?tky7026⟩) hG7017 ?tkr7026
            case tky7026 => (intro w' hSw; clear hSw; go_simp; try with_reducible rfl)
            try simp only [Act.put, List.setIfInBounds_toArray, List.set_cons_zero, List.set_cons_succ]
            refine wpAnyH_take (i := 26) (oi := { dst := some 177, op := Op.pick (Operand.tmp 170) (Operand.const (Value.bool true)) (Operand.tmp 176), type := 4, pos := "law.go:135", after := #[{ on := 19, ground := Ground.data }, { on := 25, ground := Ground.data }], guard := none }) (v := ?tkv7027) rfl (by kernel_rfl) (by kernel_rfl) (by kernel_rfl) (fun _ _ _ h => h) (Or.inl ⟨by rfl, ?tky7027⟩) hG7017 ?tkr7027
            case tky7027 => (intro w' hSw; clear hSw; go_simp; try with_reducible rfl)
            try simp only [Act.put, List.setIfInBounds_toArray, List.set_cons_zero, List.set_cons_succ]
            refine wpAnyH_take (i := 27) (oi := { dst := some 178, op := Op.move (Operand.tmp 177), type := 4, pos := "law.go:135", after := #[{ on := 26, ground := Ground.data }, { on := 19, ground := Ground.chain }], guard := none }) (v := ?tkv7028) rfl (by kernel_rfl) (by kernel_rfl) (by kernel_rfl) (fun _ _ _ h => h) (Or.inl ⟨by rfl, ?tky7028⟩) hG7017 ?tkr7028
            case tky7028 => (intro w' hSw; clear hSw; go_simp; try with_reducible rfl)
            try simp only [Act.put, List.setIfInBounds_toArray, List.set_cons_zero, List.set_cons_succ]
            refine wpAnyH_take (i := 28) (oi := { dst := some 179, op := Op.move (Operand.tmp 23), type := 4, pos := "law.go:135", after := #[{ on := 27, ground := Ground.guard }], guard := some (27, false) }) (v := ?tkv7029) rfl (by kernel_rfl) (by kernel_rfl) (by kernel_rfl) (fun _ _ _ h => h) (Or.inl ⟨by rfl, ?tky7029⟩) hG7017 ?tkr7029
            case tky7029 => (intro w' hSw; clear hSw; go_simp; try with_reducible rfl)
            try simp only [Act.put, List.setIfInBounds_toArray, List.set_cons_zero, List.set_cons_succ]
            refine wpAnyH_take (i := 29) (oi := { dst := some 180, op := Op.move (Operand.tmp 179), type := 4, pos := "law.go:135", after := #[{ on := 28, ground := Ground.data }, { on := 27, ground := Ground.chain }, { on := 27, ground := Ground.guard }], guard := some (27, false) }) (v := ?tkv7030) rfl (by kernel_rfl) (by kernel_rfl) (by kernel_rfl) (fun _ _ _ h => h) (Or.inl ⟨by rfl, ?tky7030⟩) hG7017 ?tkr7030
            case tky7030 => (intro w' hSw; clear hSw; go_simp; try with_reducible rfl)
            try simp only [Act.put, List.setIfInBounds_toArray, List.set_cons_zero, List.set_cons_succ]
            refine wpAnyH_take (i := 30) (oi := { dst := some 181, op := Op.move (Operand.tmp 22), type := 23, pos := "law.go:135", after := #[{ on := 29, ground := Ground.guard }], guard := some (29, true) }) (v := undef) rfl (by kernel_rfl) (by kernel_rfl) (by kernel_rfl) (fun _ _ _ h => h) (Or.inr ⟨by rfl, rfl⟩) hG7017 ?tkr7031
            try simp only [Act.put, List.setIfInBounds_toArray, List.set_cons_zero, List.set_cons_succ]
            refine wpAnyH_take (i := 31) (oi := { dst := some 182, op := Op.convert 23 9 (Operand.tmp 181), type := 9, pos := "law.go:135", after := #[{ on := 30, ground := Ground.data }, { on := 29, ground := Ground.guard }], guard := some (29, true) }) (v := undef) rfl (by kernel_rfl) (by kernel_rfl) (by kernel_rfl) (fun _ _ _ h => h) (Or.inr ⟨by rfl, rfl⟩) hG7017 ?tkr7032
            try simp only [Act.put, List.setIfInBounds_toArray, List.set_cons_zero, List.set_cons_succ]
            refine wpAnyH_take (i := 32) (oi := { dst := some 183, op := Op.move (Operand.tmp 0), type := 23, pos := "law.go:135", after := #[{ on := 29, ground := Ground.guard }], guard := some (29, true) }) (v := undef) rfl (by kernel_rfl) (by kernel_rfl) (by kernel_rfl) (fun _ _ _ h => h) (Or.inr ⟨by rfl, rfl⟩) hG7017 ?tkr7033
            try simp only [Act.put, List.setIfInBounds_toArray, List.set_cons_zero, List.set_cons_succ]
            refine wpAnyH_take (i := 33) (oi := { dst := some 184, op := Op.convert 23 9 (Operand.tmp 183), type := 9, pos := "law.go:135", after := #[{ on := 32, ground := Ground.data }, { on := 29, ground := Ground.guard }], guard := some (29, true) }) (v := undef) rfl (by kernel_rfl) (by kernel_rfl) (by kernel_rfl) (fun _ _ _ h => h) (Or.inr ⟨by rfl, rfl⟩) hG7017 ?tkr7034
            try simp only [Act.put, List.setIfInBounds_toArray, List.set_cons_zero, List.set_cons_succ]
            refine wpAnyH_take (i := 34) (oi := { dst := some 185, op := Op.binOp BinOp.neq 9 (Operand.tmp 182) (Operand.tmp 184) 9, type := 4, pos := "law.go:135", after := #[{ on := 31, ground := Ground.data }, { on := 33, ground := Ground.data }, { on := 29, ground := Ground.guard }], guard := some (29, true) }) (v := undef) rfl (by kernel_rfl) (by kernel_rfl) (by kernel_rfl) (fun _ _ _ h => h) (Or.inr ⟨by rfl, rfl⟩) hG7017 ?tkr7035
            try simp only [Act.put, List.setIfInBounds_toArray, List.set_cons_zero, List.set_cons_succ]
            refine wpAnyH_take (i := 35) (oi := { dst := some 186, op := Op.pick (Operand.tmp 180) (Operand.tmp 185) (Operand.const (Value.bool false)), type := 4, pos := "law.go:135", after := #[{ on := 29, ground := Ground.data }, { on := 34, ground := Ground.data }, { on := 27, ground := Ground.guard }], guard := some (27, false) }) (v := ?tkv7036) rfl (by kernel_rfl) (by kernel_rfl) (by kernel_rfl) (fun _ _ _ h => h) (Or.inl ⟨by rfl, ?tky7036⟩) hG7017 ?tkr7036
            case tky7036 => (intro w' hSw; clear hSw; go_simp; try with_reducible rfl)
            try simp only [Act.put, List.setIfInBounds_toArray, List.set_cons_zero, List.set_cons_succ]
            refine wpAnyH_take (i := 36) (oi := { dst := some 187, op := Op.pick (Operand.tmp 178) (Operand.const (Value.bool true)) (Operand.tmp 186), type := 4, pos := "law.go:135", after := #[{ on := 27, ground := Ground.data }, { on := 35, ground := Ground.data }], guard := none }) (v := ?tkv7037) rfl (by kernel_rfl) (by kernel_rfl) (by kernel_rfl) (fun _ _ _ h => h) (Or.inl ⟨by rfl, ?tky7037⟩) hG7017 ?tkr7037
            case tky7037 => (intro w' hSw; clear hSw; go_simp; try with_reducible rfl)
            try simp only [Act.put, List.setIfInBounds_toArray, List.set_cons_zero, List.set_cons_succ]
            refine wpAnyH_done (by kernel_rfl) ?_ _
            refine NoPanic.normal ?_
            have hEnd : Below wi.heap.size wi _ := hG7017.1
            have HSE := Lib.hid (HS5.out.below (keeps_sto gf gs3 (openQ 1 3 K p zz N f3)) (keeps_head 3 K p zz img gh) HKB.out hEnd)
            go_wp2_with fail
            go_roundw
            case rel => exact ⟨k + 1, gs3, kept3, cuts2, e3, f3, b2, by omega, rfl, rfl, rfl, rfl, by go_num, HCB, hc2, HKP, HKT, HSE⟩
            case measure => simp [intOf]; omega
    · obtain rfl : nc = k := by omega
      obtain ⟨wx, rfl⟩ : ∃ W : World, W = wr := ⟨_, rfl⟩
      have HBX := Lib.hid HS.out.b
      have hpx := (sep_bi HS.out).1.2
      have hiv := (sep_bi HS.out).2
      have HSP := Lib.hid (fun W (hW : Below wx.heap.size wx W) => r7split_any W.heap.size N c3 K (zz : Int) A3 img W ((hiv.below hW).more hW.size) hc3 hc3m HF.out.1 (Nat.le_refl _))
      have HAW := Lib.hid (fun W (hW : Below wx.heap.size wx W) => awake23_any W (HT.out.grow (HBX.out.trans (hW.mono HBX.out.size))))
      have HF39 : Hid (∀ W, Below wx.heap.size wx W → W.cell? ⟨w6.heap.size, 0, none⟩ = some (.int .u32 3) ∧ W.cell? ⟨w6.heap.size, 1, none⟩ = some (.int .i64 (K : Int)) ∧ W.cell? ⟨w6.heap.size, 2, none⟩ = some (.int .i64 (p : Int)) ∧ W.cell? ⟨w6.heap.size, 3, none⟩ = some (.int .i64 (zz : Int))) := Lib.hid (fun W hW => by
        have hx2 := (hW.block w6.heap.size (Array.getElem?_eq_some_iff.1 hpx).1).trans hpx
        exact (bx4 hx2).1)
      have HRPF : Hid (∀ (c : Nat) (A : Option Addr) (es : List BRow) (W : World), Rows2 W W.heap.size A K es → es.map (·.l) = (List.range K).map (BlkM.piece img (zz : Int).toNat) → Calls Tryz.prog 21 #[.agg #[.int .u32 3, .int .i64 (K : Int), .int .i64 (p : Int), .int .i64 (zz : Int)], .slice A K c] W fun e w' => ∃ Ap cp, e = .returned (.slice Ap (K + p) cp) ∧ Hid (Below W.heap.size W w')) := Lib.hid (fun c A es W h1 h2 => by
        have h := rpieces_fit 3 K p zz c A es img W (by decide) HF.out.2 hp16 HZZ.out h1 h2
        unfold parV at h
        exact h)
      have hKi : (K : Int) ≤ 64 := by have := HF.out.2; omega
      have hwkp : IntKind.i64.wrap ((K : Int) + (p : Int)) = (K : Int) + (p : Int) := IntWalk.i64_in _ (by omega)
      have hKpb : (((K + p : Nat) : Int) == (K : Int) + (p : Int)) = true := by rw [beq_iff_eq]; push_cast; rfl
      have hlx : ¬ (nc : Int) < (nc : Int) := by omega
      clear hpx hiv HKP HKT HS HCB hck
      go_wp2_with fail
      go_upto_region 39 with fail
      refine wp_region_noPanic ?_
      refine wp_region_held_drew (S := (fun W => Below wx.heap.size wx W)) (by kernel_rfl) (Below.refl _ _).drew (fun hH0 => ?_)
      have hH0 : Below wx.heap.size wx wx.drew := hH0
      generalize wx.drew = wd at *
      refine wpAnyH_take (i := 0) (oi := { dst := some 189, op := Op.load 44 (Operand.tmp 10), type := 44, pos := "law.go:139", after := #[], guard := none }) (v := ?tkv9001) rfl (by kernel_rfl) (by kernel_rfl) (by kernel_rfl) (fun _ _ _ h => h) (Or.inl ⟨by rfl, ?tky9001⟩) hH0 ?tkr9001
      case tky9001 => (intro w' hSw; have z0 := HF39.out _ hSw; clear hSw; go_simp; try with_reducible rfl)
      try simp only [Act.put, List.setIfInBounds_toArray, List.set_cons_zero, List.set_cons_succ]
      refine wpAnyH_take (i := 1) (oi := { dst := some 190, op := Op.move (Operand.tmp 0), type := 23, pos := "law.go:139", after := #[], guard := none }) (v := ?tkv9002) rfl (by kernel_rfl) (by kernel_rfl) (by kernel_rfl) (fun _ _ _ h => h) (Or.inl ⟨by rfl, ?tky9002⟩) hH0 ?tkr9002
      case tky9002 => (intro w' hSw; clear hSw; go_simp; try with_reducible rfl)
      try simp only [Act.put, List.setIfInBounds_toArray, List.set_cons_zero, List.set_cons_succ]
      refine wpAnyH_take (i := 2) (oi := { dst := some 191, op := Op.move (Operand.tmp 1), type := 3, pos := "law.go:139", after := #[], guard := none }) (v := ?tkv9003) rfl (by kernel_rfl) (by kernel_rfl) (by kernel_rfl) (fun _ _ _ h => h) (Or.inl ⟨by rfl, ?tky9003⟩) hH0 ?tkr9003
      case tky9003 => (intro w' hSw; clear hSw; go_simp; try with_reducible rfl)
      try simp only [Act.put, List.setIfInBounds_toArray, List.set_cons_zero, List.set_cons_succ]
      refine wpAnyH_take (i := 6) (oi := { dst := some 195, op := Op.fieldAddr 44 (Operand.tmp 10) 1, type := 0, pos := "law.go:139", after := #[], guard := none }) (v := ?tkv9004) rfl (by kernel_rfl) (by kernel_rfl) (by kernel_rfl) (fun _ _ _ h => h) (Or.inl ⟨by rfl, ?tky9004⟩) hH0 ?tkr9004
      case tky9004 => (intro w' hSw; clear hSw; go_simp; try with_reducible rfl)
      try simp only [Act.put, List.setIfInBounds_toArray, List.set_cons_zero, List.set_cons_succ]
      refine wpAnyH_take (i := 7) (oi := { dst := some 196, op := Op.load 3 (Operand.tmp 195), type := 3, pos := "law.go:139", after := #[{ on := 6, ground := Ground.data }], guard := none }) (v := ?tkv9005) rfl (by kernel_rfl) (by kernel_rfl) (by kernel_rfl) (fun _ _ _ h => h) (Or.inl ⟨by rfl, ?tky9005⟩) hH0 ?tkr9005
      case tky9005 => (intro w' hSw; have z0 := HF39.out _ hSw; clear hSw; go_simp; try with_reducible rfl)
      try simp only [Act.put, List.setIfInBounds_toArray, List.set_cons_zero, List.set_cons_succ]
      refine wpAnyH_take (i := 8) (oi := { dst := some 197, op := Op.fieldAddr 44 (Operand.tmp 10) 2, type := 0, pos := "law.go:139", after := #[], guard := none }) (v := ?tkv9006) rfl (by kernel_rfl) (by kernel_rfl) (by kernel_rfl) (fun _ _ _ h => h) (Or.inl ⟨by rfl, ?tky9006⟩) hH0 ?tkr9006
      case tky9006 => (intro w' hSw; clear hSw; go_simp; try with_reducible rfl)
      try simp only [Act.put, List.setIfInBounds_toArray, List.set_cons_zero, List.set_cons_succ]
      refine wpAnyH_take (i := 9) (oi := { dst := some 198, op := Op.load 3 (Operand.tmp 197), type := 3, pos := "law.go:139", after := #[{ on := 8, ground := Ground.data }], guard := none }) (v := ?tkv9007) rfl (by kernel_rfl) (by kernel_rfl) (by kernel_rfl) (fun _ _ _ h => h) (Or.inl ⟨by rfl, ?tky9007⟩) hH0 ?tkr9007
      case tky9007 => (intro w' hSw; have z0 := HF39.out _ hSw; clear hSw; go_simp; try with_reducible rfl)
      try simp only [Act.put, List.setIfInBounds_toArray, List.set_cons_zero, List.set_cons_succ]
      refine wpAnyH_take (i := 10) (oi := { dst := some 199, op := Op.binOp BinOp.add 3 (Operand.tmp 196) (Operand.tmp 198) 3, type := 3, pos := "law.go:139", after := #[{ on := 7, ground := Ground.data }, { on := 9, ground := Ground.data }], guard := none }) (v := ?tkv9008) rfl (by kernel_rfl) (by kernel_rfl) (by kernel_rfl) (fun _ _ _ h => h) (Or.inl ⟨by rfl, ?tky9008⟩) hH0 ?tkr9008
      case tky9008 => (intro w' hSw; clear hSw; go_simp; try with_reducible rfl)
      try simp only [Act.put, List.setIfInBounds_toArray, List.set_cons_zero, List.set_cons_succ]
      refine wpAnyH_ready (rs := [3]) (by kernel_rfl) (by simp) ?_
      refine AllReadyH.cons (o := { dst := some 192, op := Op.call { callee := Callee.value (Operand.func 22), args := #[Operand.tmp 190, Operand.tmp 191], argTypes := #[23, 3] }, type := 53, pos := "law.go:139", after := #[{ on := 1, ground := Ground.data }, { on := 2, ground := Ground.data }], guard := none }) rfl (fun K hK => ?_) AllReadyH.nil
      go_simp
      refine (HSP.out _ hH0).mono ?_
      rintro e' wsp ⟨Asp, csp, es, rfl, hr2, hes, hb3'⟩
      have hb3 := hb3'.out
      have HR2 := Lib.hid hr2.out
      have HES := Lib.hid hes.out
      clear hr2 hes
      go_simp
      refine hK.out _ _ ((hH0).trans (hb3.mono (hH0).size)) (fun hH9009 => ?_)
      clear hK K
      try simp only [Act.put, List.setIfInBounds_toArray, List.set_cons_zero, List.set_cons_succ]
      have hG9009 : (fun W => Below wx.heap.size wx W ∧ Below wsp.heap.size wsp W) wsp := ⟨hH9009, Below.refl _ _⟩
      refine wpAnyH_grow (S' := (fun W => Below wx.heap.size wx W ∧ Below wsp.heap.size wsp W)) (fun _ h => h.1) _ _ _ _ ?_
      refine wpAnyH_ready (rs := [4]) (by kernel_rfl) (by simp) ?_
      refine AllReadyH.cons (o := { dst := some 193, op := Op.call { callee := Callee.value (Operand.func 21), args := #[Operand.tmp 189, Operand.tmp 192], argTypes := #[44, 53] }, type := 53, pos := "law.go:139", after := #[{ on := 0, ground := Ground.data }, { on := 3, ground := Ground.data }, { on := 3, ground := Ground.chain }], guard := none }) rfl (fun K hK => ?_) AllReadyH.nil
      go_simp
      refine (HRPF.out csp Asp es wsp (rows2_at HR2.out hG9009.2) HES.out).mono ?_
      rintro e' wpc ⟨Ap, cp, rfl, hb4'⟩
      have hb4 := hb4'.out
      go_simp
      refine hK.out _ _ (⟨(hG9009.1).trans (hb4.mono (hG9009.1).size), (hG9009.2).trans (hb4.mono (hG9009.2).size)⟩) (fun hH9010 => ?_)
      clear hK K
      try simp only [Act.put, List.setIfInBounds_toArray, List.set_cons_zero, List.set_cons_succ]
      have hG9010 : (fun W => Below wx.heap.size wx W ∧ Below wsp.heap.size wsp W ∧ Below wpc.heap.size wpc W) wpc := ⟨hH9010.1, hH9010.2, Below.refl _ _⟩
      refine wpAnyH_grow (S' := (fun W => Below wx.heap.size wx W ∧ Below wsp.heap.size wsp W ∧ Below wpc.heap.size wpc W)) (fun _ h => ⟨h.1, h.2.1⟩) _ _ _ _ ?_
      refine wpAnyH_take (i := 5) (oi := { dst := some 194, op := Op.call { callee := Callee.builtin Builtin.len, args := #[Operand.tmp 193], argTypes := #[53] }, type := 3, pos := "law.go:139", after := #[{ on := 4, ground := Ground.data }], guard := none }) (v := ?tkv9011) rfl (by kernel_rfl) (by kernel_rfl) (by kernel_rfl) (fun _ _ _ h => h) (Or.inl ⟨by rfl, ?tky9011⟩) hG9010 ?tkr9011
      case tky9011 => (intro w' hSw; clear hSw; go_simp; try with_reducible rfl)
      try simp only [Act.put, List.setIfInBounds_toArray, List.set_cons_zero, List.set_cons_succ]
      refine wpAnyH_take (i := 11) (oi := { dst := some 200, op := Op.binOp BinOp.eql 3 (Operand.tmp 194) (Operand.tmp 199) 3, type := 4, pos := "law.go:139", after := #[{ on := 5, ground := Ground.data }, { on := 10, ground := Ground.data }], guard := none }) (v := ?tkv9012) rfl (by kernel_rfl) (by kernel_rfl) (by kernel_rfl) (fun _ _ _ h => h) (Or.inl ⟨by rfl, ?tky9012⟩) hG9010 ?tkr9012
      case tky9012 => (intro w' hSw; clear hSw; go_simp; try with_reducible rfl)
      try simp only [Act.put, List.setIfInBounds_toArray, List.set_cons_zero, List.set_cons_succ]
      refine wpAnyH_take (i := 12) (oi := { dst := some 201, op := Op.move (Operand.tmp 200), type := 4, pos := "law.go:139", after := #[{ on := 11, ground := Ground.data }, { on := 4, ground := Ground.chain }], guard := none }) (v := ?tkv9013) rfl (by kernel_rfl) (by kernel_rfl) (by kernel_rfl) (fun _ _ _ h => h) (Or.inl ⟨by rfl, ?tky9013⟩) hG9010 ?tkr9013
      case tky9013 => (intro w' hSw; clear hSw; go_simp; try with_reducible rfl)
      try simp only [Act.put, List.setIfInBounds_toArray, List.set_cons_zero, List.set_cons_succ]
      refine wpAnyH_ready (rs := [13]) (by kernel_rfl) (by simp) ?_
      refine AllReadyH.cons (o := { dst := some 202, op := Op.call { callee := Callee.value (Operand.func 12), args := #[], argTypes := #[] }, type := 4, pos := "law.go:139", after := #[{ on := 12, ground := Ground.chain }, { on := 12, ground := Ground.guard }], guard := some (12, true) }) rfl (fun K hK => ?_) AllReadyH.nil
      go_simp
      refine (HAW.out _ hG9010.1).mono ?_
      rintro e' waw ⟨rfl, hb13'⟩
      have hb13 := hb13'.out
      go_simp
      refine hK.out _ _ (⟨(hG9010.1).trans (hb13.mono (hG9010.1).size), (hG9010.2.1).trans (hb13.mono (hG9010.2.1).size), (hG9010.2.2).trans (hb13.mono (hG9010.2.2).size)⟩) (fun hH9014 => ?_)
      clear hK K
      try simp only [Act.put, List.setIfInBounds_toArray, List.set_cons_zero, List.set_cons_succ]
      have hG9014 : (fun W => Below wx.heap.size wx W ∧ Below wsp.heap.size wsp W ∧ Below wpc.heap.size wpc W ∧ Below waw.heap.size waw W) waw := ⟨hH9014.1, hH9014.2.1, hH9014.2.2, Below.refl _ _⟩
      refine wpAnyH_grow (S' := (fun W => Below wx.heap.size wx W ∧ Below wsp.heap.size wsp W ∧ Below wpc.heap.size wpc W ∧ Below waw.heap.size waw W)) (fun _ h => ⟨h.1, h.2.1, h.2.2.1⟩) _ _ _ _ ?_
      refine wpAnyH_take (i := 14) (oi := { dst := some 203, op := Op.pick (Operand.tmp 201) (Operand.tmp 202) (Operand.const (Value.bool false)), type := 4, pos := "law.go:139", after := #[{ on := 12, ground := Ground.data }, { on := 13, ground := Ground.data }], guard := none }) (v := ?tkv9015) rfl (by kernel_rfl) (by kernel_rfl) (by kernel_rfl) (fun _ _ _ h => h) (Or.inl ⟨by rfl, ?tky9015⟩) hG9014 ?tkr9015
      case tky9015 => (intro w' hSw; clear hSw; go_simp; try with_reducible rfl)
      try simp only [Act.put, List.setIfInBounds_toArray, List.set_cons_zero, List.set_cons_succ]
      refine wpAnyH_take (i := 15) (oi := { dst := some 8, op := Op.assign (Operand.tmp 203), type := 4, pos := "law.go:139", after := #[{ on := 14, ground := Ground.data }, { on := 13, ground := Ground.chain }, { on := 0, ground := Ground.phase }, { on := 1, ground := Ground.phase }, { on := 2, ground := Ground.phase }, { on := 3, ground := Ground.phase }, { on := 4, ground := Ground.phase }, { on := 5, ground := Ground.phase }, { on := 6, ground := Ground.phase }, { on := 7, ground := Ground.phase }, { on := 8, ground := Ground.phase }, { on := 9, ground := Ground.phase }, { on := 10, ground := Ground.phase }, { on := 11, ground := Ground.phase }, { on := 12, ground := Ground.phase }, { on := 13, ground := Ground.phase }, { on := 14, ground := Ground.phase }], guard := none }) (v := ?tkv9016) rfl (by kernel_rfl) (by kernel_rfl) (by kernel_rfl) (fun _ _ _ h => h) (Or.inl ⟨by rfl, ?tky9016⟩) hG9014 ?tkr9016
      case tky9016 => (intro w' hSw; clear hSw; go_simp; try with_reducible rfl)
      try simp only [Act.put, List.setIfInBounds_toArray, List.set_cons_zero, List.set_cons_succ]
      refine wpAnyH_done (by kernel_rfl) ?_ _
      refine NoPanic.normal ?_
      have hEnd : Below wx.heap.size wx _ := hG9014.1
      go_wp2_with fail
      go_ret
      exact ⟨rfl, HBX.out.trans (hEnd.mono HBX.out.size)⟩
end Go.Proofs.YtoblapnnpjgpnaaGreatDoor.Sto
