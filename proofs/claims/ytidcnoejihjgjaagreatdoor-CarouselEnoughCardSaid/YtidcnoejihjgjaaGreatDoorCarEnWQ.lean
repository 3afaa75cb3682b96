/- CarouselEnough's walk. -/
import Derived.Test.YtidcnoejihjgjaaGreatDoorCarAwQ
namespace Go.Proofs.YtidcnoejihjgjaaGreatDoor.Car
open Go.RowKit
open VecM RdM Vc Sp Pc El Cd Dc
theorem size_facts3 (N zz K : Nat) (h1 : 1 ≤ N) (h2 : N ≤ 301) (hz : 1 ≤ zz ∧ zz ≤ 16) (hN : N ≤ 64 * zz) (hK : (N + zz - 1) / zz = K) : ((N : Int) + (zz : Int) - 1) / (zz : Int) = (K : Int) ∧ BlkM.count (N : Int) (zz : Int) = K ∧ 1 ≤ K ∧ K ≤ 64 := by
  have hq : ((N : Int) + (zz : Int) - 1) / (zz : Int) = (K : Int) := by
    rw [← hK]
    have : ((N : Int) + (zz : Int) - 1) = ((N + zz - 1 : Nat) : Int) := by omega
    rw [this]; rfl
  have hk1 : 1 ≤ K := by
    rw [← hK]
    exact Nat.div_pos (by omega) (by omega)
  have hk2 : K ≤ 64 := by
    rw [← hK]
    have : (N + zz - 1) / zz < 65 := (Nat.div_lt_iff_lt_mul (by omega)).2 (by omega)
    omega
  refine ⟨hq, ?_, hk1, hk2⟩
  unfold BlkM.count
  rw [if_neg (by omega), hq, if_neg (by omega)]
  rfl
theorem look_mix {B : Dc.Obj} {w0 : World} {g s v K gc nk ck ch n : Nat} {L : Int} {Z P : Nat} {Ak Ah U : Option Addr} {key hash : List UInt8} {us : List Nat} (hB : ∀ W F, B W F → ∃ G, carO g (carC Ak nk ck s v L (Z : Int) (P : Int) Ah ch K gc) Ak key Ah hash W G) (hr : Row w0 w0.heap.size U n (Dc.uv us)) : Look B w0 g s K P Z gc n U us := by
  intro W F h hb
  obtain ⟨G, hg⟩ := hB W F h
  exact look_arg hr W G hg hb
theorem first_snoc (us : List Nat) (j : Nat) : first us (j + 1) = first us j ++ [us.getD j 0] := by
  unfold first
  rw [List.range_succ, List.map_append]
  rfl
theorem first_lt {us : List Nat} {m : Nat} (hu : ∀ i, i < m → us.getD i 0 < 4294967296) (i : Nat) : (first us m).getD i 0 < 4294967296 := by
  by_cases h : i < m
  · have e : (first us m).getD i 0 = us.getD i 0 := by simp [first, List.getD, h]
    rw [e]; exact hu i h
  · rw [List.getD_eq_getElem?_getD, List.getElem?_eq_none (by rw [first_len]; omega)]
    show 0 < _
    omega
theorem all_lt2 {us : List Nat} {m K : Nat} (hu : ∀ i, i < m → us.getD i 0 < 4294967296) (hK : K ≤ 64) (i : Nat) : (first us m ++ List.range K).getD i 0 < 4294967296 := by
  by_cases h : i < m
  · rw [List.getD_eq_getElem?_getD, List.getElem?_append_left (by rw [first_len]; exact h), ← List.getD_eq_getElem?_getD]
    exact first_lt hu i
  · rw [List.getD_eq_getElem?_getD, List.getElem?_append_right (by rw [first_len]; omega), first_len]
    by_cases h2 : i - m < K
    · rw [List.getElem?_range h2]
      show i - m < _
      omega
    · rw [List.getElem?_eq_none (by rw [List.length_range]; omega)]
      show 0 < _
      omega
theorem all_has2 (us : List Nat) (m K i : Nat) (hi : i < K) : ∃ j, j < (first us m ++ List.range K).length ∧ (first us m ++ List.range K).getD j 0 = i := by
  refine ⟨m + i, by rw [List.length_append, first_len, List.length_range]; omega, ?_⟩
  rw [List.getD_eq_getElem?_getD, List.getElem?_append_right (by rw [first_len]; omega), first_len, show m + i - m = i by omega, List.getElem?_range hi]
  rfl
set_option maxRecDepth 100000 in
set_option maxHeartbeats 12800000 in
theorem carenough_walk (A : Option Addr) (n c : Nat) (l : List UInt8) (Z0 P0 : Int) (U : Option Addr) (m cu : Nat) (us : List Nat) (w : World) (ht : Sh.Tab w) (hd : DTab w) (hr : Row w w.heap.size A n (bv l)) (hmc : m ≤ cu) (hcu : cu ≤ 9223372036854775807)
    (hu : ∀ i, i < m → ∃ b o, U = some ⟨b, o, none⟩ ∧ b < w.heap.size ∧ w.cell? ⟨b, o + i, none⟩ = some (.int .u32 ((us.getD i 0 : Nat) : Int)) ∧ us.getD i 0 < 4294967296) :
    Calls Tryz.prog 4 #[.slice A n c, .int .i64 Z0, .int .i64 P0, .slice U m cu] w fun e w' => e = .returned (.bool true) ∧ Below w.heap.size w w' := by
  have HU := Lib.hid hu
  have HAW := Lib.hid (awake26_any w ht hd)
  have HT := Lib.hid ht
  have HD := Lib.hid hd
  have HR := Lib.hid hr
  clear hu ht hd hr
  by_cases h1 : n < 1
  · have h1i : (n : Int) < 1 := by omega
    go_enter Tryz.func4, Tryz.ntmps4
    go_wp2_with fail
    refine HAW.out.mono ?_
    rintro e w1 ⟨rfl, hb⟩
    have HB := Lib.hid hb
    clear hb
    go_wp2_with fail
    go_ret
    exact ⟨rfl, HB.out⟩
  by_cases h2 : 300 < n
  · have h1i : ¬ (n : Int) < 1 := by omega
    have h2i : (300 : Int) < (n : Int) := by omega
    go_enter Tryz.func4, Tryz.ntmps4
    go_wp2_with fail
    refine HAW.out.mono ?_
    rintro e w1 ⟨rfl, hb⟩
    have HB := Lib.hid hb
    clear hb
    go_wp2_with fail
    go_ret
    exact ⟨rfl, HB.out⟩
  have h1i : ¬ (n : Int) < 1 := by omega
  have h2i : ¬ (300 : Int) < (n : Int) := by omega
  by_cases h3 : 60 < m
  · have h3i : (60 : Int) < (m : Int) := by omega
    go_enter Tryz.func4, Tryz.ntmps4
    go_wp2_with fail
    refine HAW.out.mono ?_
    rintro e w1 ⟨rfl, hb⟩
    have HB := Lib.hid hb
    clear hb
    go_wp2_with fail
    go_ret
    exact ⟨rfl, HB.out⟩
  have h3i : ¬ (60 : Int) < (m : Int) := by omega
  have kc := fun (w : World) (C : Array Value) (n c : Nat) => Lib.run_convert_bytes_const (P := Tryz.prog) w 22 5 C n c Tryz.underlying22 Tryz.underlying5
  obtain ⟨p, hp, hpp⟩ := pick_in P0 17 (by omega) (by omega)
  have HPP := Lib.hid hpp
  have hp16 : p ≤ 16 := by omega
  obtain ⟨z, hz, hzp⟩ := pick_in Z0 16 (by omega) (by omega)
  have HZP := Lib.hid hzp
  obtain ⟨zz, hzz⟩ : ∃ zz : Nat, max (1 + z) ((n + 64 - 1) / 64) = zz := ⟨_, rfl⟩
  have hd6 : ((n : Int) + 64 - 1) / 64 = (((n + 64 - 1) / 64 : Nat) : Int) := by omega
  have hz1 : 1 ≤ zz ∧ zz ≤ 16 := by omega
  have hN : n ≤ 64 * zz := by omega
  obtain ⟨K, hK⟩ : ∃ K, (n + zz - 1) / zz = K := ⟨_, rfl⟩
  have HM : Hid (max (1 + (z : Int)) (((n : Int) + 64 - 1) / 64) = (zz : Int)) := Lib.hid (by rw [hd6]; omega)
  have hsf := size_facts3 n zz K (by omega) (by omega) hz1 hN hK
  have HKQ := Lib.hid hsf.1
  have HF := Lib.hid hsf.2
  have HZZ := Lib.hid hz1
  have hz15 : (z : Int) ≤ 15 := by omega
  have hz0 : 0 ≤ (z : Int) := by omega
  have hn300 : (n : Int) ≤ 300 := by omega
  have hn1 : 1 ≤ (n : Int) := by omega
  have hm60 : (m : Int) ≤ 60 := by omega
  have hzi1 : 1 ≤ (zz : Int) := by omega
  have hzi2 : (zz : Int) ≤ 16 := by omega
  have hb1 : Below w.heap.size w (w.alloc (.cells #[.int .u8 107, .int .u8 101, .int .u8 121] 5 (3, 4))) := (Below.refl _ _).alloc (Nat.le_refl _) _
  have HB1 := Lib.hid hb1
  have HNW := Lib.hid (cnew_any (some ⟨w.heap.size, 0, none⟩) 3 3 [107, 101, 121] 9 4 A n c l zz p K (w.alloc (.cells #[.int .u8 107, .int .u8 101, .int .u8 121] 5 (3, 4))) (HT.out.below hb1 HT.out.1) (keyRow w) (by omega) ((HR.out.below hb1).more hb1.size) (by omega) (by omega) HF.out.1 HF.out.2 hp16 HZZ.out)
  have HIL := Lib.hid HR.out.blen
  have HDT : Hid (DTab (w.alloc (.cells #[.int .u8 107, .int .u8 101, .int .u8 121] 5 (3, 4)))) := Lib.hid (HD.out.grow hb1)
  have HUR : Hid (∀ j, j ≤ m → Row (w.alloc (.cells #[.int .u8 107, .int .u8 101, .int .u8 121] 5 (3, 4))) (w.alloc (.cells #[.int .u8 107, .int .u8 101, .int .u8 121] 5 (3, 4))).heap.size U j (Dc.uv (first us j))) := Lib.hid (fun j hj => (first_row (W := (w.alloc (.cells #[.int .u8 107, .int .u8 101, .int .u8 121] 5 (3, 4)))) (B := w.heap.size) (fun i hi => by
    obtain ⟨b, o, e, hb, hc, _⟩ := HU.out i (by omega)
    exact ⟨b, o, e, hb, (hb1.cell (p := ⟨b, o + i, none⟩) hb).trans hc⟩)).more hb1.size)
  have HAWW : Hid (∀ W, Below (w.alloc (.cells #[.int .u8 107, .int .u8 101, .int .u8 121] 5 (3, 4))).heap.size (w.alloc (.cells #[.int .u8 107, .int .u8 101, .int .u8 121] 5 (3, 4))) W → Calls Tryz.prog 5 #[] W fun e w' => e = .returned (.bool true) ∧ Below W.heap.size W w') := Lib.hid (fun W hW => by
    have hw := hb1.trans (hW.mono hb1.size)
    exact awake26_any W (HT.out.below hw HT.out.1) (HD.out.grow hw))
  have HUL : Hid (∀ i, i < m → us.getD i 0 < 4294967296) := Lib.hid (fun i hi => by obtain ⟨_, _, _, _, _, h⟩ := HU.out i hi; exact h)
  clear hzp hpp hzz hd6 hN hK hsf hz hp hb1 HAW HT HD HR h1 h2 h3 hz1
  go_enter Tryz.func4, Tryz.ntmps4
  go_upto_region 4 with (first | rw [HZP.out])
  rw [HM.out]
  clear HZP HM
  go_wp2_with (rw [HPP.out])
  (try rw [HPP.out])
  generalize (w.alloc (.cells #[.int .u8 107, .int .u8 101, .int .u8 121] 5 (3, 4))) = w1 at *
  refine HNW.out.mono ?_
  rintro e w3 ⟨g, gc, Ak, ck, Ah, ch, rfl, hs3⟩
  have S3 : Hid (Sep3 noObj (headO 9 K p zz l gc) (carO g (carC Ak 3 ck 9 4 (n : Int) (zz : Int) (p : Int) Ah ch K gc) Ak [107, 101, 121] Ah (Sha.D l)) w1 w3) := Lib.hid hs3.out
  clear hs3 HNW HPP
  go_upto_region 8 with (first | rw [HKQ.out])
  (try rw [HKQ.out])
  clear HKQ
  have HB13 := Lib.hid S3.out.b
  have OW0 := Lib.hid (own_lit (w := w3) (base := w3.heap.size) (g := w3.heap.size) (n := 0) (e := 23) #[] rfl (Nat.le_refl _) rfl (by unfold maxLen; omega))
  have HBA : Hid (Below w3.heap.size w3 (w3.alloc (.cells #[] 23))) := Lib.hid ((Below.refl _ _).alloc (Nat.le_refl _) _)
  have HRU : Hid (Row (w3.alloc (.cells #[] 23)) w1.heap.size U m (Dc.uv (first us m))) := Lib.hid ((HUR.out m (Nat.le_refl _)).below (HB13.out.trans (HBA.out.mono HB13.out.size)))
  obtain ⟨iu, hui, huz, hus, hub⟩ := info_parts Tryz.info23
  go_upto_region 9 with (first
    | (at_builtin; refine wpList_app rfl (.tmp 61) (.tmp 62) 24 rfl w3.heap.size 23 iu (.int .u32 0) 4 Tryz.underlying24 hui huz hus hub rfl _ 0 [] rfl OW0.out w1.heap.size U m cu (Dc.uv (first us m)) rfl HRU.out (Dc.uv_one _) (by unfold maxLen; omega) (by omega) HBA.out.size ?_; intro v5 w5 hown5 hg5 hat5; rw [Nat.zero_add, List.nil_append] at hown5; have O5 := Lib.hid hown5; have B5 := Lib.hid (below_app HBA.out HBA.out.size OW0.out (Nat.le_refl _) hg5); clear hown5 hg5 hat5))
  have hk64 : (K : Int) ≤ 64 := by have := HF.out; omega
  have hk1 : 1 ≤ (K : Int) := by have := HF.out; omega
  have O6 : Hid (w5.ownsRow w3.heap.size 23 1 v5 (first us m ++ List.range 0).length (Dc.uv (first us m ++ List.range 0))) := Lib.hid (by
    rw [show List.range 0 = [] from rfl, List.append_nil, first_len]
    exact O5.out)
  clear OW0 HBA HRU O5
  go_wp2_with fail
  go_loopw [12, 65] (fun v i wr => ∃ k : Nat, k ≤ K ∧ i = .int .i64 (k : Int) ∧ Hid (wr.ownsRow w3.heap.size 23 1 v (first us m ++ List.range k).length (Dc.uv (first us m ++ List.range k))) ∧ Hid (Below w3.heap.size w3 wr)) (fun _ i _ => K - (intOf i).toNat)
  case atStart => exact ⟨0, by omega, rfl, O6, B5⟩
  case round =>
    obtain ⟨k, hk, rfl, OR, BR⟩ := hrel
    clear O6 B5
    by_cases hlt : k < K
    · have hki : (k : Int) < (K : Int) := by omega
      have hw3 : IntKind.u32.wrap (k : Int) = (k : Int) := by
        have e : IntKind.u32.wrap (k : Int) = (k : Int) % 4294967296 := by simp [IntKind.wrap, IntKind.bits, IntKind.signed]
        rw [e]; omega
      obtain ⟨Av, cv, rfl, _⟩ := own_slice OR.out
      have hll : (first us m ++ List.range k).length ≤ 164 := by rw [List.length_append, first_len, List.length_range]; omega
      have hex : first us m ++ List.range (k + 1) = (first us m ++ List.range k) ++ [k] := by rw [List.range_succ, List.append_assoc]
      have HEX := Lib.hid hex
      generalize first us m ++ List.range k = ls at *
      have bal : Below wr.heap.size wr (wr.alloc (.cells #[.int .u32 (k : Int)] 23)) := (Below.refl _ _).alloc (Nat.le_refl _) _
      have HBL := Lib.hid (BR.out.trans (bal.mono BR.out.size))
      have HOB := Lib.hid (own_below OR.out bal)
      have HRN : Hid (Row (wr.alloc (.cells #[.int .u32 (k : Int)] 23)) (wr.heap.size + 1) (some ⟨wr.heap.size, 0, none⟩) 1 (Dc.uv [k])) := Lib.hid (row_new wr #[.int .u32 (k : Int)] _ _)
      clear bal hex
      go_wp2_with (first
        | (at_builtin; refine wpList_app rfl (.tmp 68) (.tmp 71) 24 rfl w3.heap.size 23 iu (.int .u32 0) 4 Tryz.underlying24 hui huz hus hub rfl _ ls.length _ rfl HOB.out _ _ 1 1 (Dc.uv [k]) rfl HRN.out (Dc.uv_one _) (by unfold maxLen; omega) (by omega) HBL.out.size ?_; intro v6 w6' hown6 hg6 hat6; have B6 := Lib.hid (below_app HBL.out HBL.out.size HOB.out (Nat.le_refl _) hg6)))
      have O7 : Hid (w6'.ownsRow w3.heap.size 23 1 v6 (first us m ++ List.range (k + 1)).length (Dc.uv (first us m ++ List.range (k + 1)))) := Lib.hid (by rw [HEX.out, List.length_append, Dc.uv_append]; exact hown6)
      clear hown6 hg6 hat6
      go_wp2_with fail
      go_roundw
      case rel => exact ⟨k + 1, by omega, by go_num, O7, B6⟩
      case measure => simp [intOf]; omega
    · obtain rfl : K = k := by omega
      clear hlt hk
      obtain ⟨Aa, ca, rfl, hca, hcm, _⟩ := own_slice OR.out
      have HHAS := Lib.hid (all_has2 us m K)
      have HALT := Lib.hid (all_lt2 HUL.out HF.out.2.2)
      have HLEN : Hid ((first us m ++ List.range K).length ≤ 164) := Lib.hid (by rw [List.length_append, first_len, List.length_range]; have := HF.out; omega)
      obtain ⟨wb, rfl⟩ : ∃ x : World, x = wr := ⟨_, rfl⟩
      have SB0 := Lib.hid (S3.out.create4 keeps_no (keeps_head _ _ _ _ _ _) (keeps_car _ _ _ _ _ _) BR.out (all_own OR.out))
      obtain ⟨al, hal⟩ : ∃ al, first us m ++ List.range K = al := ⟨_, rfl⟩
      rw [hal] at SB0 HHAS HALT HLEN hca ⊢
      have SB : Hid (Sep3 noObj (headO 9 K p zz l gc) (pairO (carO g (carC Ak 3 ck 9 4 (n : Int) (zz : Int) (p : Int) Ah ch K gc) Ak [107, 101, 121] Ah (Sha.D l)) (allO Aa (Dc.uv al))) w1 wb) := SB0
      clear hal SB0 OR BR S3 HB13
      have HN80 : Hid (K + p ≤ 80) := Lib.hid (by have := HF.out; omega)
      have hB1 : ∀ W F, (pairO (carO g (carC Ak 3 ck 9 4 (n : Int) (zz : Int) (p : Int) Ah ch K gc) Ak [107, 101, 121] Ah (Sha.D l)) (allO Aa (Dc.uv al))) W F → ∃ G, (carO g (carC Ak 3 ck 9 4 (n : Int) (zz : Int) (p : Int) Ah ch K gc) Ak [107, 101, 121] Ah (Sha.D l)) W G := fun _ _ ⟨G, _, hg, _⟩ => ⟨G, hg⟩
      have hcn : BlkM.count (l.length : Int) (zz : Int) = K := by rw [HIL.out]; exact HF.out.1
      have HEA : Hid (∀ W, Sep3 noObj (headO 9 K p zz l gc) (pairO (carO g (carC Ak 3 ck 9 4 (n : Int) (zz : Int) (p : Int) Ah ch K gc) Ak [107, 101, 121] Ah (Sha.D l)) (allO Aa (Dc.uv al))) w1 W → Calls Tryz.prog 20 #[.pointer (some ⟨g, 0, none⟩), .slice Aa al.length ca] W fun e w' => e = .returned (.bool true) ∧ Hid (Sep3 noObj (headO 9 K p zz l gc) (pairO (carO g (carC Ak 3 ck 9 4 (n : Int) (zz : Int) (p : Int) Ah ch K gc) Ak [107, 101, 121] Ah (Sha.D l)) (allO Aa (Dc.uv al))) w1 w')) := Lib.hid (fun W S => by
        have h := enough_any (n := al.length) (c := ca) (us := al) S (keeps_pair (keeps_car _ _ _ _ _ _) (keeps_all _ _)) (look_all (fun W F h => ⟨hB1 W F h, by obtain ⟨_, H, _, hh, _⟩ := h; exact ⟨H, hh⟩⟩) (Nat.le_refl _)) (by omega) HF.out.2 hp16 HZZ.out hcn HDT.out rfl (fun i _ => HALT.out i) (by have := HLEN.out; omega) hca (fun h => by
          subst h
          exact Nat.eq_zero_of_not_pos fun hpos => by
            obtain ⟨_, hh⟩ := SB.out.look4
            obtain ⟨_, _, e, _⟩ := hh 0 _ (Dc.uv_get hpos)
            cases e) hcm
        rw [en_all HF.out.2.1 HN80.out HHAS.out] at h
        exact h)
      have HEN : Hid (∀ W, Sep3 noObj (headO 9 K p zz l gc) (pairO (carO g (carC Ak 3 ck 9 4 (n : Int) (zz : Int) (p : Int) Ah ch K gc) Ak [107, 101, 121] Ah (Sha.D l)) (allO Aa (Dc.uv al))) w1 W → Calls Tryz.prog 20 #[.pointer (some ⟨g, 0, none⟩), .slice none 0 0] W fun e w' => e = .returned (.bool false) ∧ Hid (Sep3 noObj (headO 9 K p zz l gc) (pairO (carO g (carC Ak 3 ck 9 4 (n : Int) (zz : Int) (p : Int) Ah ch K gc) Ak [107, 101, 121] Ah (Sha.D l)) (allO Aa (Dc.uv al))) w1 w')) := Lib.hid (fun W S => by
        have h := enough_any (U := none) (n := 0) (c := 0) (us := []) S (keeps_pair (keeps_car _ _ _ _ _ _) (keeps_all _ _)) (look_mix hB1 (Row.nil _ _ _)) (by omega) HF.out.2 hp16 HZZ.out hcn HDT.out rfl (fun i hi => absurd hi (Nat.not_lt_zero i)) (by omega) (by omega) (fun _ => rfl) (by omega)
        rw [en_nil HF.out.2.1 HN80.out] at h
        exact h)
      have HEJ : Hid (∀ j, j ≤ m → ∀ W, Sep3 noObj (headO 9 K p zz l gc) (pairO (carO g (carC Ak 3 ck 9 4 (n : Int) (zz : Int) (p : Int) Ah ch K gc) Ak [107, 101, 121] Ah (Sha.D l)) (allO Aa (Dc.uv al))) w1 W → Calls Tryz.prog 20 #[.pointer (some ⟨g, 0, none⟩), .slice U j cu] W fun e w' => e = .returned (.bool (en 9 K p zz l (first us j))) ∧ Hid (Sep3 noObj (headO 9 K p zz l gc) (pairO (carO g (carC Ak 3 ck 9 4 (n : Int) (zz : Int) (p : Int) Ah ch K gc) Ak [107, 101, 121] Ah (Sha.D l)) (allO Aa (Dc.uv al))) w1 w')) := Lib.hid (fun j hj W S =>
        enough_any (n := j) (c := cu) (us := first us j) S (keeps_pair (keeps_car _ _ _ _ _ _) (keeps_all _ _)) (look_mix hB1 (HUR.out j hj)) (by omega) HF.out.2 hp16 HZZ.out hcn HDT.out (first_len _ _) (fun i hi => by
          have e : (first us j).getD i 0 = us.getD i 0 := by simp [first, List.getD, hi]
          rw [e]; exact HUL.out i (by omega)) (by omega) (by omega) (fun h => Nat.eq_zero_of_not_pos fun hpos => by
          obtain ⟨_, _, e, _⟩ := HU.out 0 (by omega)
          rw [h] at e; cases e) hcu)
      have HFEW : Hid (m < K → en 9 K p zz l (first us m) = false) := Lib.hid (fun h => en_few HF.out.2.1 HN80.out (by rw [first_len]; exact h))
      clear hB1 hcn
      rcases Nat.eq_zero_or_pos m with hm0 | hmp
      · subst hm0
        have hg0 : ¬ (K : Int) ≤ 0 := by omega
        have HE0 := Lib.hid (HEJ.out 0 (Nat.le_refl _))
        rw [HFEW.out (by omega)] at HE0
        clear HEJ HFEW
        go_wp2_with fail
        refine (HEA.out _ SB.out).mono ?_
        rintro e wa ⟨rfl, hs⟩
        have SA := Lib.hid hs.out
        clear hs
        go_wp2_with fail
        refine (HEN.out _ SA.out).mono ?_
        rintro e wc ⟨rfl, hs⟩
        have SC := Lib.hid hs.out
        clear hs
        go_wp2_with fail
        refine (HE0.out _ SC.out).mono ?_
        rintro e wd ⟨rfl, hs⟩
        have SD := Lib.hid hs.out
        clear hs
        go_wp2_with fail
        refine (HAWW.out _ SD.out.b).mono ?_
        rintro e wz ⟨rfl, hbz⟩
        have HEND := Lib.hid (HB1.out.trans ((SD.out.b.trans (hbz.mono SD.out.b.size)).mono HB1.out.size))
        clear hbz
        go_wp2_with fail
        go_ret
        exact ⟨rfl, HEND.out⟩
      · obtain ⟨j, hj⟩ : ∃ j, m - 1 = j := ⟨_, rfl⟩
        obtain ⟨bu, ou, rfl, _⟩ := HU.out 0 hmp
        have hmpi : 0 < (m : Int) := by omega
        have hwj : IntKind.i64.wrap ((m : Int) - 1) = (j : Int) := by rw [IntKind.wrap_i64]; omega
        have hj0 : 0 ≤ (j : Int) := by omega
        have hjc : (j : Int) ≤ (cu : Int) := by omega
        have HEF := Lib.hid (HEJ.out j (by omega))
        have HEI := Lib.hid (HEJ.out m (Nat.le_refl _))
        have HUP : Hid (en 9 K p zz l (first us j) = true → en 9 K p zz l (first us m) = true) := Lib.hid (fun h => by
          have e : m = j + 1 := by omega
          rw [e]
          exact en_more HF.out.2.1 HN80.out (first_snoc us j) h)
        obtain ⟨bf, hbf⟩ : ∃ b, en 9 K p zz l (first us j) = b := ⟨_, rfl⟩
        obtain ⟨bi, hbi⟩ : ∃ b, en 9 K p zz l (first us m) = b := ⟨_, rfl⟩
        rw [hbf] at HEF HUP
        rw [hbi] at HEI HUP HFEW
        clear hbf hbi HEJ
        go_wp2_with fail
        refine (HEF.out _ SB.out).mono ?_
        rintro e wf ⟨rfl, hs⟩
        have SF := Lib.hid hs.out
        clear hs
        cases bf with
        | true =>
          obtain rfl : bi = true := HUP.out rfl
          have hge : (K : Int) ≤ (m : Int) := by
            rcases Nat.lt_or_ge m K with h | h
            · have := HFEW.out h; cases this
            · omega
          go_wp2_with fail
          refine (HEA.out _ SF.out).mono ?_
          rintro e wa ⟨rfl, hs⟩
          have SA := Lib.hid hs.out
          clear hs
          go_wp2_with fail
          refine (HEN.out _ SA.out).mono ?_
          rintro e wc ⟨rfl, hs⟩
          have SC := Lib.hid hs.out
          clear hs
          go_wp2_with fail
          refine (HEI.out _ SC.out).mono ?_
          rintro e wd ⟨rfl, hs⟩
          have SD := Lib.hid hs.out
          clear hs
          go_wp2_with fail
          refine (HAWW.out _ SD.out.b).mono ?_
          rintro e wz ⟨rfl, hbz⟩
          have HEND := Lib.hid (HB1.out.trans ((SD.out.b.trans (hbz.mono SD.out.b.size)).mono HB1.out.size))
          clear hbz
          go_wp2_with fail
          go_ret
          exact ⟨rfl, HEND.out⟩
        | false =>
          by_cases hk : m < K
          · have hge : ¬ (K : Int) ≤ (m : Int) := by omega
            obtain rfl : bi = false := HFEW.out hk
            go_wp2_with fail
            refine (HEA.out _ SF.out).mono ?_
            rintro e wa ⟨rfl, hs⟩
            have SA := Lib.hid hs.out
            clear hs
            go_wp2_with fail
            refine (HEN.out _ SA.out).mono ?_
            rintro e wc ⟨rfl, hs⟩
            have SC := Lib.hid hs.out
            clear hs
            go_wp2_with fail
            refine (HEI.out _ SC.out).mono ?_
            rintro e wd ⟨rfl, hs⟩
            have SD := Lib.hid hs.out
            clear hs
            go_wp2_with fail
            refine (HAWW.out _ SD.out.b).mono ?_
            rintro e wz ⟨rfl, hbz⟩
            have HEND := Lib.hid (HB1.out.trans ((SD.out.b.trans (hbz.mono SD.out.b.size)).mono HB1.out.size))
            clear hbz
            go_wp2_with fail
            go_ret
            exact ⟨rfl, HEND.out⟩
          · have hge : (K : Int) ≤ (m : Int) := by omega
            go_wp2_with fail
            refine (HEA.out _ SF.out).mono ?_
            rintro e wa ⟨rfl, hs⟩
            have SA := Lib.hid hs.out
            clear hs
            go_wp2_with fail
            refine (HEN.out _ SA.out).mono ?_
            rintro e wc ⟨rfl, hs⟩
            have SC := Lib.hid hs.out
            clear hs
            go_wp2_with fail
            refine (HAWW.out _ SC.out.b).mono ?_
            rintro e wz ⟨rfl, hbz⟩
            have HEND := Lib.hid (HB1.out.trans ((SC.out.b.trans (hbz.mono SC.out.b.size)).mono HB1.out.size))
            clear hbz
            go_wp2_with fail
            go_ret
            exact ⟨rfl, HEND.out⟩
end Go.Proofs.YtidcnoejihjgjaaGreatDoor.Car
