/- StoreAnew's walk. -/
import Derived.Deep.CutBlock
import Derived.Deep.DeepCutAuto
import Derived.Test.YtoblapnnpjgpnaaGreatDoorStoAnMQ
import Derived.Test.YtoblapnnpjgpnaaGreatDoorRDigQ
import Derived.Test.YtoblapnnpjgpnaaGreatDoorCdSoQ
namespace Go.Proofs.YtoblapnnpjgpnaaGreatDoor.Sto
open Go.RowKit
open VecM RdM Vc Sp Pc El Cd Dc
def IdsAt (w : World) (A : Option Addr) (n : Nat) (us : List Nat) : Prop := ∀ i, i < n → ∃ b o, A = some ⟨b, o, none⟩ ∧ b < w.heap.size ∧ w.cell? ⟨b, o + i, none⟩ = some (.int .u32 ((us.getD i 0 : Nat) : Int)) ∧ us.getD i 0 < 4294967296
set_option maxRecDepth 100000 in
set_option maxHeartbeats 12800000 in
theorem stoanew_walk (A : Option Addr) (n c : Nat) (l : List UInt8) (Z0 : Int) (Ai : Option Addr) (ni ci : Nat) (us : List Nat) (w : World) (hr : Row w w.heap.size A n (bv l)) (hn1 : n ≤ c) (hn2 : c ≤ 9223372036854775807) (hus : IdsAt w Ai ni us) (ht : DTab w) :
    Calls Tryz.prog 5 #[.slice A n c, .int .i64 Z0, .slice Ai ni ci] w fun e w' => e = .returned (.bool true) ∧ Below w.heap.size w w' := by
  obtain ⟨iu, hui, huz, hus0, hub⟩ := info_parts Tryz.info5
  have HT := Lib.hid ht
  have HUS := Lib.hid hus
  by_cases hni : 60 < ni
  · clear hr hus ht
    go_enter Tryz.func5, Tryz.ntmps5
    go_wp2_with fail
    refine (awake23_any w HT.out).mono ?_
    rintro e w1 ⟨rfl, hb1⟩
    go_wp2_with fail
    go_ret
    exact ⟨rfl, hb1.out⟩
  obtain ⟨z, hz, hzp⟩ := pick_in Z0 16 (by omega) (by omega)
  obtain ⟨q, hq⟩ : ∃ q : Nat, min n 200 = q := ⟨_, rfl⟩
  obtain ⟨zz, hzz⟩ : ∃ zz : Nat, max (1 + z) ((q + 1 + 64 - 1) / 64) = zz := ⟨_, rfl⟩
  have hd : ((q : Int) + 1 + 64 - 1) / 64 = (((q + 1 + 64 - 1) / 64 : Nat) : Int) := by omega
  have hz1 : 1 ≤ zz ∧ zz ≤ 16 := by omega
  have hN : q + 1 ≤ 64 * zz := by omega
  obtain ⟨K, hK⟩ : ∃ K, (q + 1 + zz - 1) / zz = K := ⟨_, rfl⟩
  have HQ : Hid (min (n : Int) 200 = (q : Int)) := Lib.hid (by omega)
  have HZP := Lib.hid hzp
  have HM : Hid (max (1 + (z : Int)) (((q : Int) + 1 + 64 - 1) / 64) = (zz : Int)) := Lib.hid (by rw [hd]; omega)
  have HF := Lib.hid (size_facts (q + 1) zz K (by omega) (by omega) hz1 hN hK)
  have HZZ := Lib.hid hz1
  have hqn : q ≤ n := by omega
  have hq200 : q ≤ 200 := by omega
  have hz15 : (z : Int) ≤ 15 := by omega
  have HR := Lib.hid (hr.head (k := q) (by omega))
  rw [bv_take] at HR
  have hl : (l.take q).length = q := by rw [List.length_take, hr.blen]; omega
  have HL := Lib.hid hl
  have OW0 := Lib.hid (own_lit (w := w) (base := w.heap.size) (g := w.heap.size) (n := 0) (e := 5) #[] rfl (Nat.le_refl _) rfl (by unfold maxLen; omega))
  have HBA : Hid (Below w.heap.size w (w.alloc (.cells #[] 5))) := Lib.hid ((Below.refl _ _).alloc (Nat.le_refl _) _)
  clear hr hus ht hzp hq hzz hd hN hK hl hz
  go_enter Tryz.func5, Tryz.ntmps5
  go_upto_region 4 with (first
    | rw [HQ.out]
    | (at_builtin; refine wpList_app rfl (.tmp 25) (.tmp 30) 23 rfl w.heap.size 5 iu (.int .u8 0) 1 Tryz.underlying23 hui huz hus0 hub rfl _ 0 [] rfl OW0.out w.heap.size A q c (bv (l.take q)) rfl (HR.out.below HBA.out) (bv_one _) (by unfold maxLen; omega) (by omega) HBA.out.size ?_; intro v2 w2 hown2 hg2 hat2; rw [Nat.zero_add, List.nil_append] at hown2; have O2 := Lib.hid hown2; have B2 := Lib.hid (below_app HBA.out HBA.out.size OW0.out (Nat.le_refl _) hg2); clear hown2 hg2 hat2)
    | (at_builtin; refine wpList_app rfl (.tmp 31) (.tmp 32) 23 rfl w.heap.size 5 iu (.int .u8 0) 1 Tryz.underlying23 hui huz hus0 hub rfl _ q _ rfl (own_below O2.out ((Below.refl _ _).alloc (Nat.le_refl _) _)) _ _ 1 1 (bv [9]) rfl (row_new w2 _ _ _) (bv_one _) (by unfold maxLen; omega) (by omega) (Nat.le_trans B2.out.size ((Below.refl _ _).alloc (Nat.le_refl _) _).size) ?_; intro v3 w3 hown3 hg3 hat3; have O3 := Lib.hid hown3; have B3 := Lib.hid (below_app (B2.out.alloc B2.out.size _) (B2.out.alloc B2.out.size _).size (own_below O2.out ((Below.refl _ _).alloc (Nat.le_refl _) _)) (Nat.le_refl _) hg3); clear hown3 hg3 hat3))
  obtain ⟨A3, c3, rfl, hc3, hc3m, _⟩ := own_slice O3.out
  have hzzb : (zz : Int) ≤ 16 ∧ 1 ≤ (zz : Int) := by have := HZZ.out; omega
  have hz1 := hzzb.1
  have hz2 := hzzb.2
  clear OW0 HBA O2 B2 HR hzzb
  go_upto_region 5 with (first | rw [HZP.out])
  rw [HM.out]
  clear HZP HM HQ hz15 hui huz hus0 hub
  obtain ⟨img, himg⟩ : ∃ img, l.take q ++ [9] = img := ⟨_, rfl⟩
  have hlen : img.length = q + 1 := by rw [← himg, List.length_append, HL.out]; rfl
  have O3' : Hid (w3.ownsRow w.heap.size 5 1 (.slice A3 (q + 1) c3) (q + 1) (bv img)) := Lib.hid (by rw [← himg, bv_append]; exact O3.out)
  have HIL := Lib.hid hlen
  obtain ⟨N, hNN⟩ : ∃ N, q + 1 = N := ⟨_, rfl⟩
  have hNi : (q : Int) + 1 = (N : Int) := by omega
  have hN201 : (N : Int) ≤ 201 := by omega
  rw [hNN] at O3' HIL HF
  rw [hNN] at hc3
  -- TAIL
  rw [hNN]
  have HDG := Lib.hid (Sh.rdig_any w3.heap.size N c3 A3 img w3 (Row.of_own O3'.out) (Nat.le_refl _) (by omega))
  clear O3 HL himg hlen
  go_wp2_with fail
  refine HDG.out.mono ?_
  rintro e w4 ⟨A4, c4, rfl, ho4, hb4⟩
  have HB4 : Hid (Below w.heap.size w w4) := Lib.hid (B3.out.trans (hb4.out.mono B3.out.size))
  have O4 : Hid (w4.ownsRow w.heap.size 5 1 (.slice A3 N c3) N (bv img)) := Lib.hid (own_below O3'.out hb4.out)
  clear HDG ho4 hb4 O3' B3
  have HX5 := Lib.hid (heap_alloc_new w4 (.cells #[.int .u32 3, .int .u32 1, .int .i64 (N : Int), .int .i64 (zz : Int), .int .i64 3, .slice A4 32 c4] 33))
  have HB45 : Hid (Below w4.heap.size w4 (w4.alloc (.cells #[.int .u32 3, .int .u32 1, .int .i64 (N : Int), .int .i64 (zz : Int), .int .i64 3, .slice A4 32 c4] 33))) := Lib.hid ((Below.refl _ _).alloc (Nat.le_refl _) _)
  have HL5 : Hid (w4.heap.size < (w4.alloc (.cells #[.int .u32 3, .int .u32 1, .int .i64 (N : Int), .int .i64 (zz : Int), .int .i64 3, .slice A4 32 c4] 33)).heap.size) := Lib.hid (by simp)
  go_upto_region 6 with fail
  generalize (w4.alloc (.cells #[.int .u32 3, .int .u32 1, .int .i64 (N : Int), .int .i64 (zz : Int), .int .i64 3, .slice A4 32 c4] 33)) = w5 at *
  obtain ⟨c0, c1, c2, d3, d4, d5⟩ := bx6 HX5.out
  have HCY := Lib.hid (count_yes HF.out.1 HF.out.2 (P := 3) (by omega) HZZ.out)
  have HOF := Lib.hid (of_all 3 1 (N : Int) (zz : Int) ((3 : Nat) : Int) A4 32 c4 w5)
  go_wp2_with fail
  refine HOF.out.mono ?_
  rintro e w6 ⟨sq, Kq, Pq, Zq, rfl, hb6, hval⟩
  obtain ⟨rfl, rfl, rfl, rfl⟩ := hval HCY.out
  rw [HCY.out, HF.out.1]
  have HB56 := Lib.hid hb6
  clear HOF HCY hval hb6 c0 c1 c2 d3 d4 d5
  have HX7 := Lib.hid (heap_alloc_new w6 (.cells #[.int .u32 3, .int .i64 (K : Int), .int .i64 3, .int .i64 (zz : Int)] 44))
  have HB67 : Hid (Below w6.heap.size w6 (w6.alloc (.cells #[.int .u32 3, .int .i64 (K : Int), .int .i64 3, .int .i64 (zz : Int)] 44))) := Lib.hid ((Below.refl _ _).alloc (Nat.le_refl _) _)
  have HL7 : Hid (w6.heap.size < (w6.alloc (.cells #[.int .u32 3, .int .i64 (K : Int), .int .i64 3, .int .i64 (zz : Int)] 44)).heap.size) := Lib.hid (by simp)
  go_upto_region 7 with fail
  generalize (w6.alloc (.cells #[.int .u32 3, .int .i64 (K : Int), .int .i64 3, .int .i64 (zz : Int)] 44)) = w7 at *
  have HS57 : Hid (w.heap.size ≤ w4.heap.size ∧ w4.heap.size < w5.heap.size ∧ w5.heap.size ≤ w6.heap.size ∧ w6.heap.size < w7.heap.size) := Lib.hid ⟨HB4.out.size, HL5.out, HB56.out.size, HL7.out⟩
  have HB47 : Hid (Below w4.heap.size w4 w7) := Lib.hid ((HB45.out.trans (HB56.out.mono HB45.out.size)).trans (HB67.out.mono (Nat.le_trans HB45.out.size HB56.out.size)))
  have HX57 : Hid (w7.heap[w4.heap.size]? = some (.cells #[.int .u32 3, .int .u32 1, .int .i64 (N : Int), .int .i64 (zz : Int), .int .i64 3, .slice A4 32 c4] 33 (0, 0))) := Lib.hid ((HB67.out.block w4.heap.size (by have := HS57.out; omega)).trans ((HB56.out.block w4.heap.size HL5.out).trans HX5.out))
  have HB7 : Hid (Below w.heap.size w w7) := Lib.hid (HB4.out.trans (HB47.out.mono HB4.out.size))
  have HNW := Lib.hid (new_yes 3 K 3 zz w7.heap.size c3 A3 img w7 HF.out.2 (by omega) HZZ.out (by rw [HIL.out]; exact Row.of_own (own_below O4.out HB47.out)) (Nat.le_refl _) (by rw [HIL.out]; omega) (by rw [HIL.out]; exact HF.out.1))
  rw [HIL.out] at HNW
  clear HX5 HB45 HB56 HB67 HL5 HL7 O4
  obtain ⟨⟨p0, p1, p2, p3⟩, -⟩ := bx4 HX7.out
  go_wp2_with fail
  refine HNW.out.mono ?_
  rintro e w8 ⟨gh, rfl, hgh1, hgh2, hh8, hb8⟩
  have HH8 := Lib.hid hh8.out
  have HB78 := Lib.hid hb8.out
  clear hh8 hb8 HNW p0 p1 p2 p3
  go_wp2_with fail
  refine (new_any 9 w8 (by omega)).mono ?_
  rintro e w9 ⟨gf, rfl, hgf, hf9, hb9⟩
  have HOK9 := Lib.hid (new_ok 9 (by decide))
  have HOT := Lib.hid (OtF.new zz)
  have HNX : Hid ((opW ((flNew 9).fill 0 3584) 1 zz 8).next = 0) := Lib.hid (by
    rw [blank_new HZZ.out.2 fun i _ hi => by
      show (if 0 ≤ i ∧ i < 0 + 3584 then (255 : UInt8) else _) = 255
      rw [if_pos (by omega)]])
  have HAN0 : Hid (AN 3 K 3 zz N 0 ((flNew 9).fill 0 3584)) := Lib.hid ⟨⟨0, Nat.le_refl _, HOT.out, HNX.out⟩, by omega, HF.out.2, by omega, HZZ.out, HOK9.out⟩
  generalize (flNew 9).fill 0 3584 = f0 at *
  have HB9 : Hid (Below w.heap.size w w9) := Lib.hid ((HB7.out.trans (HB78.out.mono HB7.out.size)).trans (hb9.out.mono (Nat.le_trans HB7.out.size HB78.out.size)))
  have HS9 : Hid (Sep3 (flO gf f0) (headO 3 K 3 zz img gh) (boxO w4.heap.size w6.heap.size (.cells #[.int .u32 3, .int .u32 1, .int .i64 (N : Int), .int .i64 (zz : Int), .int .i64 3, .slice A4 32 c4] 33 (0, 0)) (.cells #[.int .u32 3, .int .i64 (K : Int), .int .i64 3, .int .i64 (zz : Int)] 44 (0, 0))) w w9) := Lib.hid (by
    have q1 := HS57.out
    have q2 := HB78.out.size
    have q3 := hb9.out.size
    have q4 := hf9.out.lt
    have hd := head_new HH8.out hgh1
    refine ⟨(fun b => b = gf), (fun b => w7.heap.size ≤ b ∧ b < w8.heap.size), (fun b => b = w4.heap.size ∨ b = w6.heap.size), ⟨rfl, hf9.out⟩, keeps_head 3 K 3 zz img gh w8 w9 _ hd (fun q _ hl => hb9.out.block q hl) q3, ⟨.inl rfl, .inr rfl, ?_, ?_⟩, ?_, ?_, ?_, ?_, HB9.out⟩
    · exact (hb9.out.block w4.heap.size (by omega)).trans ((HB78.out.block w4.heap.size (by omega)).trans HX57.out)
    · exact (hb9.out.block w6.heap.size (by omega)).trans ((HB78.out.block w6.heap.size (by omega)).trans HX7.out)
    · intro b h1 h2; omega
    · intro b h1 h2; omega
    · intro b h1 h2; omega
    · intro b h; omega)
  clear hgh1 hgh2 hgf hf9 hb9 HOK9 HOT HNX HH8 HB78 HB47 HX57 HX7 HB4 HB7
  have HOP := Lib.hid (opens_any gf 1 3 1 N zz 3 K 32 c4 A4 f0 w9 (by obtain ⟨_, _, _, a, _⟩ := HS9.out; exact a.2) HAN0.out.down (by omega) (by omega) HF.out.1 HF.out.2 (by omega) HZZ.out (HT.out.grow HB9.out))
  obtain ⟨hx5, -⟩ := sep_box HS9.out
  obtain ⟨c0, c1, c2, d3, d4, d5⟩ := bx6 hx5
  clear hx5
  go_wp2_with fail
  refine HOP.out.mono ?_
  rintro e w10 ⟨gs, rfl, hs10, hb10⟩
  have HS10 : Hid (Sep3 (stoO gf gs (openQ 1 3 K 3 zz N f0)) (headO 3 K 3 zz img gh) (boxO w4.heap.size w6.heap.size (.cells #[.int .u32 3, .int .u32 1, .int .i64 (N : Int), .int .i64 (zz : Int), .int .i64 3, .slice A4 32 c4] 33 (0, 0)) (.cells #[.int .u32 3, .int .i64 (K : Int), .int .i64 3, .int .i64 (zz : Int)] 44 (0, 0))) w w10) := Lib.hid (sep_start HS9.out (keeps_head 3 K 3 zz img gh) (keeps_box _ _ _ _) hb10.out hs10.out)
  clear HOP hs10 hb10 HS9 HB9 c0 c1 c2 d3 d4 d5
  go_wp2_with fail
  go_loopw [74] (fun i wr => ∃ (k : Nat) (f : Fl), k ≤ ni ∧ i = .int .i64 (k : Int) ∧ Hid (AN 3 K 3 zz N k f) ∧ Hid (Sep3 (stoO gf gs (openQ 1 3 K 3 zz N f)) (headO 3 K 3 zz img gh) (boxO w4.heap.size w6.heap.size (.cells #[.int .u32 3, .int .u32 1, .int .i64 (N : Int), .int .i64 (zz : Int), .int .i64 3, .slice A4 32 c4] 33 (0, 0)) (.cells #[.int .u32 3, .int .i64 (K : Int), .int .i64 3, .int .i64 (zz : Int)] 44 (0, 0))) w wr)) (fun i _ => ni - (intOf i).toNat)
  case atStart => exact ⟨0, f0, by omega, rfl, HAN0, HS10⟩
  case round =>
    clear HAN0 HS10
    obtain ⟨k, f, hk, rfl, HAN, HS⟩ := hrel
    by_cases hlt : k < ni
    · obtain ⟨b, o, rfl, hbl, hcell, hidl⟩ := HUS.out k hlt
      have hcw : wr.cell? ⟨b, o + k, none⟩ = some (.int .u32 ((us.getD k 0 : Nat) : Int)) := (HS.out.b.cell (p := ⟨b, o + k, none⟩) hbl).trans hcell
      generalize us.getD k 0 = id at *
      have HID := Lib.hid hidl
      have HSY := Lib.hid (sym_sep (id := id) HS.out (keeps_sto gf gs (openQ 1 3 K 3 zz N f)) (keeps_box _ _ _ _) (by omega) hidl HF.out.2 (by omega) HZZ.out (by rw [HIL.out]; exact HF.out.1) HT.out)
      have hki : (k : Int) < (ni : Int) := by omega
      clear hcell hbl hidl
      go_wp2_with fail
      refine HSY.out.mono ?_
      rintro e w1 ⟨R, cR, rfl, hrow, hsr⟩
      obtain ⟨f2, r, hq, hr, hAN2, hker⟩ := HAN.out.put (by omega) hrow.out.blen HID.out
      have HPU : Hid (Calls Tryz.prog 9 #[.pointer (some ⟨gs, 0, none⟩), .int .u32 (id : Int), .slice R zz cR] w1 (fun e W' => e = .returned (.int .i64 r) ∧ Hid (Sep3 (stoO gf gs (openQ 1 3 K 3 zz N f2)) (headO 3 K 3 zz img gh) (boxO w4.heap.size w6.heap.size (.cells #[.int .u32 3, .int .u32 1, .int .i64 (N : Int), .int .i64 (zz : Int), .int .i64 3, .slice A4 32 c4] 33 (0, 0)) (.cells #[.int .u32 3, .int .i64 (K : Int), .int .i64 3, .int .i64 (zz : Int)] 44 (0, 0))) w W'))) := Lib.hid (put_sep (q := (openQ 1 3 K 3 zz N f)) (c := cR) hsr.out (keeps_head 3 K 3 zz img gh) (keeps_box _ _ _ _) HAN.out.ok (by omega) HID.out hrow.out HT.out hq)
      have HAN2 := Lib.hid hAN2
      have HKER := Lib.hid hker
      clear HSY hrow hsr hq hAN2 hker hcw
      go_wp2_with fail
      refine HPU.out.mono ?_
      rintro e w2 ⟨rfl, hs2⟩
      have HS2 := Lib.hid hs2.out
      clear HPU hs2 HS
      have HOP := Lib.hid (opens_any gf 1 3 1 N zz 3 K 32 c4 A4 f2 w2 (sep_fl HS2.out) HAN2.out.down (by omega) (by omega) HF.out.1 HF.out.2 (by omega) HZZ.out (HT.out.grow HS2.out.b))
      obtain ⟨hx5, -⟩ := sep_box HS2.out
      obtain ⟨c0, c1, c2, d3, d4, d5⟩ := bx6 hx5
      clear hx5
      go_wp2_with fail
      refine HOP.out.mono ?_
      rintro e wt ⟨gt, rfl, hst, hbt⟩
      have HS3 : Hid (Sep3 (stoO gf gs (openQ 1 3 K 3 zz N f2)) (headO 3 K 3 zz img gh) (tbO gf gt (openQ 1 3 K 3 zz N f2) w4.heap.size w6.heap.size (.cells #[.int .u32 3, .int .u32 1, .int .i64 (N : Int), .int .i64 (zz : Int), .int .i64 3, .slice A4 32 c4] 33 (0, 0)) (.cells #[.int .u32 3, .int .i64 (K : Int), .int .i64 3, .int .i64 (zz : Int)] 44 (0, 0))) w wt) := Lib.hid (sep_open HS2.out (keeps_sto gf gs (openQ 1 3 K 3 zz N f2)) (keeps_head 3 K 3 zz img gh) hbt.out (stT_of hst.out (fun b hb hne => by
        rcases hb with hb | hb
        · exact absurd hb hne
        · exact hb)))
      clear HOP hst hbt HS2 c0 c1 c2 d3 d4 d5
      have KT := Lib.hid (keeps_tb gf gt (openQ 1 3 K 3 zz N f2) w4.heap.size w6.heap.size (.cells #[.int .u32 3, .int .u32 1, .int .i64 (N : Int), .int .i64 (zz : Int), .int .i64 3, .slice A4 32 c4] 33 (0, 0)) (.cells #[.int .u32 3, .int .i64 (K : Int), .int .i64 3, .int .i64 (zz : Int)] 44 (0, 0)))
      have HKT := Lib.hid (kept_any gf gt (openQ 1 3 K 3 zz N f2) _ wt (sep_t HS3.out))
      have HKS := Lib.hid (kept_any gf gs (openQ 1 3 K 3 zz N f2) _ wt (sep_sto HS3.out))
      have HNT := Lib.hid (sneeds_any gf gt (openQ 1 3 K 3 zz N f2) (k + 1) _ wt (sep_t HS3.out) HAN2.out.ok)
      obtain ⟨kt, hkt⟩ : ∃ t : Nat, (openQ 1 3 K 3 zz N f2).t = t := ⟨_, rfl⟩
      rw [hkt] at HKT HKS
      obtain ⟨nd, hnd⟩ : ∃ t : Int, (((openQ 1 3 K 3 zz N f2).K : Int) + ((openQ 1 3 K 3 zz N f2).P : Int) - (rankM (openQ 1 3 K 3 zz N f2).M : Int)) = t := ⟨_, rfl⟩
      rw [hnd] at HNT
      have HNS := Lib.hid (fun W (hW : Sep3 (stoO gf gs (openQ 1 3 K 3 zz N f2)) (headO 3 K 3 zz img gh) (tbO gf gt (openQ 1 3 K 3 zz N f2) w4.heap.size w6.heap.size (.cells #[.int .u32 3, .int .u32 1, .int .i64 (N : Int), .int .i64 (zz : Int), .int .i64 3, .slice A4 32 c4] 33 (0, 0)) (.cells #[.int .u32 3, .int .i64 (K : Int), .int .i64 3, .int .i64 (zz : Int)] 44 (0, 0))) w W) => by
        have h := sneeds_any gf gs (openQ 1 3 K 3 zz N f2) (k + 1) _ W (sep_sto hW) HAN2.out.ok
        rw [hnd] at h
        exact h)
      have hkb : ((kt : Int) != (kt : Int)) = false := bne_self_eq_false _
      have hnb : ((nd : Int) != (nd : Int)) = false := bne_self_eq_false _
      clear hkt hnd
      rcases hr with rfl | rfl
      all_goals
        go_wp2_with fail
        refine HKT.out.mono ?_
        rintro e wt2 ⟨rfl, rfl⟩
        go_wp2_with fail
        refine HKS.out.mono ?_
        rintro e wt2 ⟨rfl, rfl⟩
        go_wp2_with fail
        refine HNT.out.mono ?_
        rintro e wn ⟨rfl, hbn⟩
        have HS4 := Lib.hid (HS3.out.below (keeps_sto gf gs (openQ 1 3 K 3 zz N f2)) (keeps_head 3 K 3 zz img gh) KT.out hbn.out)
        clear hbn HS3 HKT HKS HNT
        go_wp2_with fail
        refine (HNS.out wn HS4.out).mono ?_
        rintro e wn2 ⟨rfl, hbn⟩
        have HS5 := Lib.hid (HS4.out.below (keeps_sto gf gs (openQ 1 3 K 3 zz N f2)) (keeps_head 3 K 3 zz img gh) KT.out hbn.out)
        clear hbn HS4 HNS
        have HSY := Lib.hid (sym_sep (id := id) HS5.out (keeps_sto gf gs (openQ 1 3 K 3 zz N f2)) KT.out (by omega) HID.out HF.out.2 (by omega) HZZ.out (by rw [HIL.out]; exact HF.out.1) HT.out)
        go_wp2_with fail
        refine HSY.out.mono ?_
        rintro e ws ⟨R2, cR2, rfl, hrow2, hsr2⟩
        have HS6 := Lib.hid hsr2.out.sep
        clear hrow2 hsr2 HSY HS5
        have HPD : Hid (Calls Tryz.prog 9 #[.pointer (some ⟨gt, 0, none⟩), .int .u32 (id : Int), .slice R2 zz cR2] ws (fun e W' => e = .returned (.int .i64 8) ∧ Hid (Below ws.heap.size ws W'))) := Lib.hid (put_dup gf gt (openQ 1 3 K 3 zz N f2) _ (k + 1) id cR2 R2 ws (sep_t HS6.out) HAN2.out.ok (HT.out.grow HS6.out.b) HID.out HKER.out)
        go_wp2_with fail
        refine HPD.out.mono ?_
        rintro e wp ⟨rfl, hbp⟩
        have HS7 := Lib.hid (HS6.out.below (keeps_sto gf gs (openQ 1 3 K 3 zz N f2)) (keeps_head 3 K 3 zz img gh) KT.out hbp.out)
        clear hbp HPD HS6
        have HPF := Lib.hid (put_form gf gt (openQ 1 3 K 3 zz N f2) _ id 0 0 none wp (sep_t HS7.out) (fun e => by have h : 0 = zz := e; have := HZZ.out; omega))
        go_wp2_with fail
        refine HPF.out.mono ?_
        rintro e wp2 ⟨rfl, rfl⟩
        have HS8 := Lib.hid (sep_close HS7.out)
        clear HPF HS7
        go_wp2_with fail
        go_roundw
        case rel => exact ⟨k + 1, f2, by omega, by go_num, HAN2, HS8⟩
        case measure => simp [intOf]; omega
    · obtain rfl : ni = k := by omega
      have HOP := Lib.hid (opens_any gf 2 3 1 N zz 3 K 32 c4 A4 f wr (sep_fl HS.out) HAN.out.down (by omega) (by omega) HF.out.1 HF.out.2 (by omega) HZZ.out (HT.out.grow HS.out.b))
      obtain ⟨hx5, -⟩ := sep_box HS.out
      obtain ⟨c0, c1, c2, d3, d4, d5⟩ := bx6 hx5
      clear hx5
      go_wp2_with fail
      refine HOP.out.mono ?_
      rintro e wx ⟨gu, rfl, hsu, hbu⟩
      have HSX := Lib.hid (HS.out.below (keeps_sto gf gs (openQ 1 3 K 3 zz N f)) (keeps_head 3 K 3 zz img gh) (keeps_box _ _ _ _) hbu.out)
      have HOT := HAN.out.other
      have HOKU := openQ_ok 2 3 K 3 zz N ni f HAN.out.f (by omega) (by omega) HF.out.2 (by omega) HZZ.out
      obtain ⟨QU, hQU⟩ : ∃ Q, openQ 2 3 K 3 zz N f = Q := ⟨_, rfl⟩
      have hQK : QU.K = K ∧ QU.P = 3 := by rw [← hQU]; unfold openQ; exact ⟨rfl, rfl⟩
      rw [hQU] at hsu HOT HOKU
      have HKU := Lib.hid (fun W (hW : Below wx.heap.size wx W) => by
        have h := kept_any gf gu QU _ W (hsu.out.keep (fun b _ hl => hW.block b hl) hW.size)
        rw [HOT.1] at h
        exact h)
      have HNU := Lib.hid (fun W (hW : Below wx.heap.size wx W) => by
        have h := sneeds_any gf gu QU ni _ W (hsu.out.keep (fun b _ hl => hW.block b hl) hW.size) HOKU
        rw [HOT.2, hQK.1, hQK.2, show (K : Int) + ((3 : Nat) : Int) - ((3 : Nat) : Int) = (K : Int) by omega] at h
        exact h)
      have HAW := Lib.hid (fun W (hW : Below wx.heap.size wx W) => awake23_any W (HT.out.grow (HSX.out.b.trans (hW.mono HSX.out.b.size))))
      have HPX : Hid (∀ W, Below wx.heap.size wx W → W.cell? ⟨w6.heap.size, 1, none⟩ = some (.int .i64 (K : Int))) := Lib.hid (fun W hW => by
        have hx := (sep_box HSX.out).2
        have hx2 := (hW.block w6.heap.size (Array.getElem?_eq_some_iff.1 hx).1).trans hx
        exact (bx4 hx2).1.2.1)
      have HBX := Lib.hid HSX.out.b
      clear HOP hsu hbu HOT HOKU hQU hQK c0 c1 c2 d3 d4 d5 HSX HS
      have hKb : ((K : Int) == (K : Int)) = true := beq_self_eq_true _
      go_upto_region 21 with fail
      refine wp_region_noPanic ?_
      refine wp_region_held_drew (S := (fun W => Below wx.heap.size wx W)) (by kernel_rfl) (Below.refl _ _).drew (fun hH0 => ?_)
      have hH0 : Below wx.heap.size wx wx.drew := hH0
      generalize wx.drew = wd at *
      refine wpAnyH_take (i := 0) (oi := { dst := some 136, op := Op.move (Operand.tmp 20), type := 29, pos := "more.go:36", after := #[], guard := none }) (v := ?tkv7001) rfl (by kernel_rfl) (by kernel_rfl) (by kernel_rfl) (fun _ _ _ h => h) (Or.inl ⟨by rfl, ?tky7001⟩) hH0 ?tkr7001
      case tky7001 => (intro w' hSw; clear hSw; go_simp; try with_reducible rfl)
      try simp only [Act.put, List.setIfInBounds_toArray, List.set_cons_zero, List.set_cons_succ]
      refine wpAnyH_take (i := 1) (oi := { dst := some 137, op := Op.binOp BinOp.eql 29 (Operand.tmp 136) (Operand.const (Value.int IntKind.i64 0)) 29, type := 4, pos := "more.go:36", after := #[{ on := 0, ground := Ground.data }], guard := none }) (v := ?tkv7002) rfl (by kernel_rfl) (by kernel_rfl) (by kernel_rfl) (fun _ _ _ h => h) (Or.inl ⟨by rfl, ?tky7002⟩) hH0 ?tkr7002
      case tky7002 => (intro w' hSw; clear hSw; go_simp; try with_reducible rfl)
      try simp only [Act.put, List.setIfInBounds_toArray, List.set_cons_zero, List.set_cons_succ]
      refine wpAnyH_take (i := 2) (oi := { dst := some 138, op := Op.move (Operand.tmp 137), type := 4, pos := "more.go:36", after := #[{ on := 1, ground := Ground.data }], guard := none }) (v := ?tkv7003) rfl (by kernel_rfl) (by kernel_rfl) (by kernel_rfl) (fun _ _ _ h => h) (Or.inl ⟨by rfl, ?tky7003⟩) hH0 ?tkr7003
      case tky7003 => (intro w' hSw; clear hSw; go_simp; try with_reducible rfl)
      try simp only [Act.put, List.setIfInBounds_toArray, List.set_cons_zero, List.set_cons_succ]
      refine wpAnyH_take (i := 3) (oi := { dst := some 139, op := Op.move (Operand.tmp 19), type := 26, pos := "more.go:36", after := #[{ on := 2, ground := Ground.guard }], guard := some (2, true) }) (v := ?tkv7004) rfl (by kernel_rfl) (by kernel_rfl) (by kernel_rfl) (fun _ _ _ h => h) (Or.inl ⟨by rfl, ?tky7004⟩) hH0 ?tkr7004
      case tky7004 => (intro w' hSw; clear hSw; go_simp; try with_reducible rfl)
      try simp only [Act.put, List.setIfInBounds_toArray, List.set_cons_zero, List.set_cons_succ]
      refine wpAnyH_ready (rs := [4]) (by kernel_rfl) (by simp) ?_
      refine AllReadyH.cons (o := { dst := some 140, op := Op.call { callee := Callee.value (Operand.func 10), args := #[Operand.tmp 139], argTypes := #[26] }, type := 3, pos := "more.go:36", after := #[{ on := 3, ground := Ground.data }, { on := 2, ground := Ground.chain }, { on := 2, ground := Ground.guard }], guard := some (2, true) }) rfl (fun K hK => ?_) AllReadyH.nil
      go_simp
      refine (HKU.out _ hH0).mono ?_
      rintro e' wk ⟨rfl, rfl⟩
      go_simp
      refine hK.out _ _ hH0 (fun hH7005 => ?_)
      clear hK K
      try simp only [Act.put, List.setIfInBounds_toArray, List.set_cons_zero, List.set_cons_succ]
      refine wpAnyH_take (i := 5) (oi := { dst := some 141, op := Op.binOp BinOp.eql 3 (Operand.tmp 140) (Operand.const (Value.int IntKind.i64 0)) 3, type := 4, pos := "more.go:36", after := #[{ on := 4, ground := Ground.data }, { on := 2, ground := Ground.guard }], guard := some (2, true) }) (v := ?tkv7006) rfl (by kernel_rfl) (by kernel_rfl) (by kernel_rfl) (fun _ _ _ h => h) (Or.inl ⟨by rfl, ?tky7006⟩) hH7005 ?tkr7006
      case tky7006 => (intro w' hSw; clear hSw; go_simp; try with_reducible rfl)
      try simp only [Act.put, List.setIfInBounds_toArray, List.set_cons_zero, List.set_cons_succ]
      refine wpAnyH_take (i := 6) (oi := { dst := some 142, op := Op.pick (Operand.tmp 138) (Operand.tmp 141) (Operand.const (Value.bool false)), type := 4, pos := "more.go:36", after := #[{ on := 2, ground := Ground.data }, { on := 5, ground := Ground.data }], guard := none }) (v := ?tkv7007) rfl (by kernel_rfl) (by kernel_rfl) (by kernel_rfl) (fun _ _ _ h => h) (Or.inl ⟨by rfl, ?tky7007⟩) hH7005 ?tkr7007
      case tky7007 => (intro w' hSw; clear hSw; go_simp; try with_reducible rfl)
      try simp only [Act.put, List.setIfInBounds_toArray, List.set_cons_zero, List.set_cons_succ]
      refine wpAnyH_take (i := 7) (oi := { dst := some 143, op := Op.move (Operand.tmp 142), type := 4, pos := "more.go:36", after := #[{ on := 6, ground := Ground.data }, { on := 4, ground := Ground.chain }], guard := none }) (v := ?tkv7008) rfl (by kernel_rfl) (by kernel_rfl) (by kernel_rfl) (fun _ _ _ h => h) (Or.inl ⟨by rfl, ?tky7008⟩) hH7005 ?tkr7008
      case tky7008 => (intro w' hSw; clear hSw; go_simp; try with_reducible rfl)
      try simp only [Act.put, List.setIfInBounds_toArray, List.set_cons_zero, List.set_cons_succ]
      refine wpAnyH_take (i := 8) (oi := { dst := some 144, op := Op.move (Operand.tmp 19), type := 26, pos := "more.go:36", after := #[{ on := 7, ground := Ground.guard }], guard := some (7, true) }) (v := ?tkv7009) rfl (by kernel_rfl) (by kernel_rfl) (by kernel_rfl) (fun _ _ _ h => h) (Or.inl ⟨by rfl, ?tky7009⟩) hH7005 ?tkr7009
      case tky7009 => (intro w' hSw; clear hSw; go_simp; try with_reducible rfl)
      try simp only [Act.put, List.setIfInBounds_toArray, List.set_cons_zero, List.set_cons_succ]
      refine wpAnyH_take (i := 10) (oi := { dst := some 146, op := Op.fieldAddr 44 (Operand.tmp 8) 1, type := 0, pos := "more.go:36", after := #[{ on := 7, ground := Ground.guard }], guard := some (7, true) }) (v := ?tkv7010) rfl (by kernel_rfl) (by kernel_rfl) (by kernel_rfl) (fun _ _ _ h => h) (Or.inl ⟨by rfl, ?tky7010⟩) hH7005 ?tkr7010
      case tky7010 => (intro w' hSw; clear hSw; go_simp; try with_reducible rfl)
      try simp only [Act.put, List.setIfInBounds_toArray, List.set_cons_zero, List.set_cons_succ]
      refine wpAnyH_take (i := 11) (oi := { dst := some 147, op := Op.load 3 (Operand.tmp 146), type := 3, pos := "more.go:36", after := #[{ on := 10, ground := Ground.data }, { on := 7, ground := Ground.guard }], guard := some (7, true) }) (v := ?tkv7011) rfl (by kernel_rfl) (by kernel_rfl) (by kernel_rfl) (fun _ _ _ h => h) (Or.inl ⟨by rfl, ?tky7011⟩) hH7005 ?tkr7011
      case tky7011 => (intro w' hSw; have z0 := HPX.out _ hSw; clear hSw; go_simp; try with_reducible rfl)
      try simp only [Act.put, List.setIfInBounds_toArray, List.set_cons_zero, List.set_cons_succ]
      refine wpAnyH_ready (rs := [9]) (by kernel_rfl) (by simp) ?_
      refine AllReadyH.cons (o := { dst := some 145, op := Op.call { callee := Callee.value (Operand.func 11), args := #[Operand.tmp 144], argTypes := #[26] }, type := 3, pos := "more.go:36", after := #[{ on := 8, ground := Ground.data }, { on := 7, ground := Ground.chain }, { on := 7, ground := Ground.guard }], guard := some (7, true) }) rfl (fun K hK => ?_) AllReadyH.nil
      go_simp
      refine (HNU.out _ hH7005).mono ?_
      rintro e' wnu ⟨rfl, hb9'⟩
      have hb9 := hb9'.out
      go_simp
      refine hK.out _ _ ((hH7005).trans (hb9.mono (hH7005).size)) (fun hH7012 => ?_)
      clear hK K
      try simp only [Act.put, List.setIfInBounds_toArray, List.set_cons_zero, List.set_cons_succ]
      have hG7012 : (fun W => Below wx.heap.size wx W ∧ Below wnu.heap.size wnu W) wnu := ⟨hH7012, Below.refl _ _⟩
      refine wpAnyH_grow (S' := (fun W => Below wx.heap.size wx W ∧ Below wnu.heap.size wnu W)) (fun _ h => h.1) _ _ _ _ ?_
      refine wpAnyH_take (i := 12) (oi := { dst := some 148, op := Op.binOp BinOp.eql 3 (Operand.tmp 145) (Operand.tmp 147) 3, type := 4, pos := "more.go:36", after := #[{ on := 9, ground := Ground.data }, { on := 11, ground := Ground.data }, { on := 7, ground := Ground.guard }], guard := some (7, true) }) (v := ?tkv7013) rfl (by kernel_rfl) (by kernel_rfl) (by kernel_rfl) (fun _ _ _ h => h) (Or.inl ⟨by rfl, ?tky7013⟩) hG7012 ?tkr7013
      case tky7013 => (intro w' hSw; clear hSw; go_simp; try with_reducible rfl)
      try simp only [Act.put, List.setIfInBounds_toArray, List.set_cons_zero, List.set_cons_succ]
      refine wpAnyH_take (i := 13) (oi := { dst := some 149, op := Op.pick (Operand.tmp 143) (Operand.tmp 148) (Operand.const (Value.bool false)), type := 4, pos := "more.go:36", after := #[{ on := 7, ground := Ground.data }, { on := 12, ground := Ground.data }], guard := none }) (v := ?tkv7014) rfl (by kernel_rfl) (by kernel_rfl) (by kernel_rfl) (fun _ _ _ h => h) (Or.inl ⟨by rfl, ?tky7014⟩) hG7012 ?tkr7014
      case tky7014 => (intro w' hSw; clear hSw; go_simp; try with_reducible rfl)
      try simp only [Act.put, List.setIfInBounds_toArray, List.set_cons_zero, List.set_cons_succ]
      refine wpAnyH_take (i := 14) (oi := { dst := some 150, op := Op.move (Operand.tmp 149), type := 4, pos := "more.go:36", after := #[{ on := 13, ground := Ground.data }, { on := 9, ground := Ground.chain }], guard := none }) (v := ?tkv7015) rfl (by kernel_rfl) (by kernel_rfl) (by kernel_rfl) (fun _ _ _ h => h) (Or.inl ⟨by rfl, ?tky7015⟩) hG7012 ?tkr7015
      case tky7015 => (intro w' hSw; clear hSw; go_simp; try with_reducible rfl)
      try simp only [Act.put, List.setIfInBounds_toArray, List.set_cons_zero, List.set_cons_succ]
      refine wpAnyH_ready (rs := [15]) (by kernel_rfl) (by simp) ?_
      refine AllReadyH.cons (o := { dst := some 151, op := Op.call { callee := Callee.value (Operand.func 12), args := #[], argTypes := #[] }, type := 4, pos := "more.go:36", after := #[{ on := 14, ground := Ground.chain }, { on := 14, ground := Ground.guard }], guard := some (14, true) }) rfl (fun K hK => ?_) AllReadyH.nil
      go_simp
      refine (HAW.out _ hG7012.1).mono ?_
      rintro e' waw ⟨rfl, hb15'⟩
      have hb15 := hb15'.out
      go_simp
      refine hK.out _ _ (⟨(hG7012.1).trans (hb15.mono (hG7012.1).size), (hG7012.2).trans (hb15.mono (hG7012.2).size)⟩) (fun hH7016 => ?_)
      clear hK K
      try simp only [Act.put, List.setIfInBounds_toArray, List.set_cons_zero, List.set_cons_succ]
      have hG7016 : (fun W => Below wx.heap.size wx W ∧ Below wnu.heap.size wnu W ∧ Below waw.heap.size waw W) waw := ⟨hH7016.1, hH7016.2, Below.refl _ _⟩
      refine wpAnyH_grow (S' := (fun W => Below wx.heap.size wx W ∧ Below wnu.heap.size wnu W ∧ Below waw.heap.size waw W)) (fun _ h => ⟨h.1, h.2.1⟩) _ _ _ _ ?_
      refine wpAnyH_take (i := 16) (oi := { dst := some 152, op := Op.pick (Operand.tmp 150) (Operand.tmp 151) (Operand.const (Value.bool false)), type := 4, pos := "more.go:36", after := #[{ on := 14, ground := Ground.data }, { on := 15, ground := Ground.data }], guard := none }) (v := ?tkv7017) rfl (by kernel_rfl) (by kernel_rfl) (by kernel_rfl) (fun _ _ _ h => h) (Or.inl ⟨by rfl, ?tky7017⟩) hG7016 ?tkr7017
      case tky7017 => (intro w' hSw; clear hSw; go_simp; try with_reducible rfl)
      try simp only [Act.put, List.setIfInBounds_toArray, List.set_cons_zero, List.set_cons_succ]
      refine wpAnyH_take (i := 17) (oi := { dst := some 6, op := Op.assign (Operand.tmp 152), type := 4, pos := "more.go:36", after := #[{ on := 16, ground := Ground.data }, { on := 15, ground := Ground.chain }, { on := 0, ground := Ground.phase }, { on := 1, ground := Ground.phase }, { on := 2, ground := Ground.phase }, { on := 3, ground := Ground.phase }, { on := 4, ground := Ground.phase }, { on := 5, ground := Ground.phase }, { on := 6, ground := Ground.phase }, { on := 7, ground := Ground.phase }, { on := 8, ground := Ground.phase }, { on := 9, ground := Ground.phase }, { on := 10, ground := Ground.phase }, { on := 11, ground := Ground.phase }, { on := 12, ground := Ground.phase }, { on := 13, ground := Ground.phase }, { on := 14, ground := Ground.phase }, { on := 15, ground := Ground.phase }, { on := 16, ground := Ground.phase }], guard := none }) (v := ?tkv7018) rfl (by kernel_rfl) (by kernel_rfl) (by kernel_rfl) (fun _ _ _ h => h) (Or.inl ⟨by rfl, ?tky7018⟩) hG7016 ?tkr7018
      case tky7018 => (intro w' hSw; clear hSw; go_simp; try with_reducible rfl)
      try simp only [Act.put, List.setIfInBounds_toArray, List.set_cons_zero, List.set_cons_succ]
      refine wpAnyH_done (by kernel_rfl) ?_ _
      refine NoPanic.normal ?_
      have hEnd : Below wx.heap.size wx _ := hG7016.1
      go_wp2_with fail
      go_ret
      exact ⟨rfl, HBX.out.trans (hEnd.mono HBX.out.size)⟩
end Go.Proofs.YtoblapnnpjgpnaaGreatDoor.Sto
