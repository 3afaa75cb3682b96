/- Which symbols are enough: plain mathematics. -/
import Derived.Test.YtidcnoejihjgjaaGreatDoorZPQF
namespace Go.Proofs.YtidcnoejihjgjaaGreatDoor.Car
open Go.RowKit
open VecM RdM Vc Sp Pc El Cd Dc
variable {s K P Z : Nat} {img : List UInt8}
theorem matF_same {f g : Nat → Nat} : ∀ i, (∀ j, j < i → f j = g j) → matF s K P Z img f i = matF s K P Z img g i
  | 0, _ => rfl
  | i + 1, h => by
    show (addMx (K + P) (matF s K P Z img f i) (spX s K P (f i)) (symX s K P Z img (f i))).1 = (addMx (K + P) (matF s K P Z img g i) (spX s K P (g i)) (symX s K P Z img (g i))).1
    rw [matF_same i (fun j hj => h j (by omega)), h i (by omega)]
def en (s K P Z : Nat) (img : List UInt8) (us : List Nat) : Bool := decide (rankM (matF s K P Z img (fun i => us.getD i 0) us.length) = K + P)
theorem aw_yes : en 5 2 1 2 [110, 101, 119, 33] [1, 0] = true := by decide +kernel
theorem aw_no : en 5 2 1 2 [110, 101, 119, 33] [0, 0] = false := by decide +kernel
end Go.Proofs.YtidcnoejihjgjaaGreatDoor.Car
namespace Go.Proofs.YtidcnoejihjgjaaGreatDoor.Car
open Go.RowKit
open VecM RdM Vc Sp Pc El Cd Dc
theorem sym2 {C D : Dc.Obj} {s K P Z id gc : Nat} {img : List UInt8} {w0 W : World} (S : Sep3 (headO s K P Z img gc) C D w0 W) (kC : Keeps C) (kD : Keeps D) (hs : s < 4294967296) (hid : id < 4294967296) (hK : 1 ≤ K ∧ K ≤ 64) (hP : P ≤ 16) (hZ : 1 ≤ Z ∧ Z ≤ 16) (hc : BlkM.count (img.length : Int) (Z : Int) = K) (ht : DTab w0) :
    Calls Tryz.prog 50 #[.pointer (some ⟨gc, 0, none⟩), .int .u32 (id : Int)] W fun e w' => ∃ A c, e = .returned (.slice A Z c) ∧ Hid (Row w' w'.heap.size A Z (bv (symX s K P Z img id))) ∧ Hid (Sep3 (headO s K P Z img gc) C D w0 w') := by
  have hb := S.b
  obtain ⟨F, a, _, next⟩ := S.first kC kD
  refine (symH (id := id) a hs hid hK hP hZ hc (ht.grow hb)).mono ?_
  rintro e w' ⟨A, c, rfl, ho, hh, hf⟩
  exact ⟨A, c, rfl, Lib.hid (Row.of_own ho.out), Lib.hid (next w' _ hh.out hf.out)⟩
theorem take2 {C D : Dc.Obj} {s K P Z id gd t c : Nat} {A : Option Addr} {l : List UInt8} {M : Mx} {w0 W : World} (S : Sep3 (decO gd s K P Z M t) C D w0 W) (kC : Keeps C) (kD : Keeps D) (hi : Inv (K + P) Z M) (hs : s < 4294967296) (hid : id < 4294967296) (hK : 1 ≤ K ∧ K ≤ 64) (hP : P ≤ 16) (hZ : 1 ≤ Z ∧ Z ≤ 16) (hl : l.length = Z) (hr : Row W W.heap.size A Z (bv l)) (ht : DTab w0) (htb : t ≤ 1000000) :
    Calls Tryz.prog 53 #[.pointer (some ⟨gd, 0, none⟩), .int .u32 (id : Int), .slice A Z c] W fun e w' => e = .returned (.bool (addMx (K + P) M (spX s K P id) l).2) ∧ Hid (Sep3 (decO gd s K P Z (addMx (K + P) M (spX s K P id) l).1 (t + if (addMx (K + P) M (spX s K P id) l).2 then 1 else 0)) C D w0 w') := by
  have hb := S.b
  obtain ⟨F, a, _, next⟩ := S.first kC kD
  refine (take_any F gd s K P Z t id c A l M W a hi hs hid hK hP hZ hl hr (ht.grow hb) htb).mono ?_
  rintro e w' ⟨rfl, hd, hf⟩
  exact ⟨rfl, Lib.hid (next w' _ hd.out hf.out)⟩
theorem needs2 {C D : Dc.Obj} {s K P Z gd t : Nat} {M : Mx} {w0 W : World} (S : Sep3 (decO gd s K P Z M t) C D w0 W) (kC : Keeps C) (kD : Keeps D) (hi : Inv (K + P) Z M) (hK : 1 ≤ K ∧ K ≤ 64) (hP : P ≤ 16) (hZ : 1 ≤ Z ∧ Z ≤ 16) {dn : Int} (hd : (K : Int) + (P : Int) - (rankM M : Int) = dn) :
    Calls Tryz.prog 54 #[.pointer (some ⟨gd, 0, none⟩)] W fun e w' => e = .returned (.int .i64 dn) ∧ Hid (Sep3 (decO gd s K P Z M t) C D w0 w') := by
  subst hd
  obtain ⟨F, a, _, _⟩ := S.first kC kD
  refine (needs_any F gd s K P Z t M W a hi hK hP hZ).mono ?_
  rintro e w' ⟨rfl, hb⟩
  exact ⟨rfl, Lib.hid (S.below (keeps_dec _ _ _ _ _ _ _) kC kD hb.out)⟩
def Look (B : Dc.Obj) (w0 : World) (g s K P Z gc n : Nat) (U : Option Addr) (us : List Nat) : Prop := ∀ W F, B W F → Below w0.heap.size w0 W →
  (W.cell? ⟨g, 7, none⟩ = some (.int .u32 (s : Int)) ∧ W.cell? ⟨g, 8, none⟩ = some (.int .i64 (K : Int)) ∧ W.cell? ⟨g, 9, none⟩ = some (.int .i64 (P : Int)) ∧ W.cell? ⟨g, 10, none⟩ = some (.int .i64 (Z : Int)) ∧ W.cell? ⟨g, 11, none⟩ = some (.pointer (some ⟨gc, 0, none⟩))) ∧
  ∀ i, i < n → ∃ b o, U = some ⟨b, o, none⟩ ∧ W.cell? ⟨b, o + i, none⟩ = some (.int .u32 ((us.getD i 0 : Nat) : Int))
theorem Look.of {A B C : Dc.Obj} {w0 W : World} {g s K P Z gc n : Nat} {U : Option Addr} {us : List Nat} (h : Look B w0 g s K P Z gc n U us) (S : Sep3 A B C w0 W) :
    (W.cell? ⟨g, 7, none⟩ = some (.int .u32 (s : Int)) ∧ W.cell? ⟨g, 8, none⟩ = some (.int .i64 (K : Int)) ∧ W.cell? ⟨g, 9, none⟩ = some (.int .i64 (P : Int)) ∧ W.cell? ⟨g, 10, none⟩ = some (.int .i64 (Z : Int)) ∧ W.cell? ⟨g, 11, none⟩ = some (.pointer (some ⟨gc, 0, none⟩))) ∧
    ∀ i, i < n → ∃ b o, U = some ⟨b, o, none⟩ ∧ W.cell? ⟨b, o + i, none⟩ = some (.int .u32 ((us.getD i 0 : Nat) : Int)) := by
  have hb := S.b
  obtain ⟨F, G, H, a, b, c, r⟩ := S
  exact h W G b hb
theorem empty_no (g gc : Nat) (w : World) (h : w.cell? ⟨g, 11, none⟩ = some (.pointer (some ⟨gc, 0, none⟩))) :
    Calls Tryz.prog 46 #[.pointer (some ⟨g, 0, none⟩)] w fun e w' => e = .returned (.bool false) ∧ w = w' := by
  go_enter Tryz.func46, Tryz.ntmps46
  go_wp2_with fail
  go_ret
  exact ⟨rfl, rfl⟩
theorem firstU (U : Option Addr) (n c : Nat) (w : World) (hn : n ≤ 1000) (hc : n ≤ c) (hU : U = none → n = 0) (hc2 : c ≤ 9223372036854775807) :
    Calls Tryz.prog 52 #[.slice U n c] w fun e w' => e = .returned (.slice U n c) ∧ w = w' := by
  have hm : min (n : Int) 1000 = (n : Int) := by omega
  cases U with
  | none =>
    obtain rfl := hU rfl
    have hc0 : (0 : Int) ≤ (c : Int) := by omega
    clear hU hm hn hc
    go_enter Tryz.func52, Tryz.ntmps52
    go_wp2_with fail
    go_ret
    exact ⟨rfl, rfl⟩
  | some p =>
    clear hU
    go_enter Tryz.func52, Tryz.ntmps52
    go_wp2_with (rw [hm])
    go_ret
    exact ⟨rfl, rfl⟩
set_option maxRecDepth 100000 in
set_option maxHeartbeats 1600000 in
theorem enough_any {B : Dc.Obj} {s K P Z gc g n c : Nat} {img : List UInt8} {us : List Nat} {U : Option Addr} {w0 w : World} (S : Sep3 noObj (headO s K P Z img gc) B w0 w) (kB : Keeps B) (hlook : Look B w0 g s K P Z gc n U us) (hs : s < 4294967296) (hK : 1 ≤ K ∧ K ≤ 64) (hP : P ≤ 16) (hZ : 1 ≤ Z ∧ Z ≤ 16) (hc : BlkM.count (img.length : Int) (Z : Int) = K) (ht : DTab w0) (hul : us.length = n) (hu : ∀ i, i < n → us.getD i 0 < 4294967296) (hn : n ≤ 1000) (hnc : n ≤ c) (hU : U = none → n = 0) (hc2 : c ≤ 9223372036854775807) :
    Calls Tryz.prog 20 #[.pointer (some ⟨g, 0, none⟩), .slice U n c] w fun e w' => e = .returned (.bool (en s K P Z img us)) ∧ Hid (Sep3 noObj (headO s K P Z img gc) B w0 w') := by
  have HS := Lib.hid S
  have HLK := Lib.hid hlook
  have HUL := Lib.hid hul
  have HU := Lib.hid hu
  have HSS := Lib.hid hs
  have HK := Lib.hid hK
  have HP := Lib.hid hP
  have HZ := Lib.hid hZ
  have HC := Lib.hid hc
  have HT := Lib.hid ht
  have HN80 : Hid (K + P ≤ 80) := Lib.hid (by omega)
  obtain ⟨⟨c7, c8, c9, c10, c11⟩, _⟩ := Look.of hlook S.rot
  have HEM := Lib.hid (empty_no g gc w c11)
  have HFU := Lib.hid (fun W => firstU U n c W hn hnc hU hc2)
  have HND := Lib.hid (newD s K P Z w hs hK hP hZ (ht.grow S.b))
  unfold parV at HND
  clear S hlook hul hu hs hK hP hZ hc ht hU
  obtain ⟨f, hf⟩ : ∃ f : Nat → Nat, (fun i => us.getD i 0) = f := ⟨_, rfl⟩
  have HF := Lib.hid hf
  clear hf
  go_enter Tryz.func20, Tryz.ntmps20
  go_wp2_with fail
  refine HEM.out.mono ?_
  rintro e w1 ⟨rfl, rfl⟩
  go_wp2_with fail
  refine HND.out.mono ?_
  rintro e w1 ⟨gd, rfl, hd1, _, hb1⟩
  have HD1 : Hid (Sep3 (decO gd s K P Z (matF s K P Z img f 0) (tkF s K P Z img f 0)) (headO s K P Z img gc) B w0 w1) := Lib.hid (by
    rw [tkF_zero f HN80.out]
    exact HS.out.create (keeps_head _ _ _ _ _ _) kB hb1.out hd1.out)
  clear HND HEM hd1 hb1 HS c7 c8 c9 c10 c11
  go_wp2_with fail
  refine (HFU.out w1).mono ?_
  rintro e wf ⟨rfl, rfl⟩
  clear HFU
  go_wp2_with fail
  go_loopw [18] (fun i wr => ∃ k : Nat, k ≤ n ∧ i = .int .i64 (k : Int) ∧ Hid (Sep3 (decO gd s K P Z (matF s K P Z img f k) (tkF s K P Z img f k)) (headO s K P Z img gc) B w0 wr)) (fun i _ => n - (intOf i).toNat)
  case atStart => exact ⟨0, by omega, rfl, HD1⟩
  case round =>
    clear HD1
    obtain ⟨k, hk, rfl, HS⟩ := hrel
    by_cases hlt : k < n
    · obtain ⟨⟨_, _, _, _, c11⟩, hrow⟩ := Look.of HLK.out HS.out.rot
      obtain ⟨b, o, rfl, hcell⟩ := hrow k hlt
      have hidl := HU.out k hlt
      have hfk : f k = us.getD k 0 := by rw [← HF.out]
      rw [← hfk] at hcell hidl
      have HFK : Hid (matF s K P Z img f (k + 1) = (addMx (K + P) (matF s K P Z img f k) (spX s K P (f k)) (symX s K P Z img (f k))).1) := Lib.hid rfl
      have HTK := Lib.hid (tkF_step (s := s) (Z := Z) (img := img) f HK.out.1 HN80.out k)
      have HIV := Lib.hid (matF_got (s := s) (Z := Z) (img := img) f HK.out.1 HN80.out k).inv
      have HTL := Lib.hid (tkF_le (s := s) (Z := Z) (img := img) f HK.out.1 HN80.out k)
      obtain ⟨id, hid⟩ : ∃ id, f k = id := ⟨_, rfl⟩
      rw [hid] at hcell hidl HFK HTK
      have HSY := Lib.hid (sym2 (id := id) HS.out.rot kB (keeps_dec _ _ _ _ _ _ _) HSS.out hidl HK.out HP.out HZ.out HC.out HT.out)
      have HID := Lib.hid hidl
      clear hrow hid hidl hfk
      go_wp2_with fail
      refine HSY.out.mono ?_
      rintro e w2 ⟨R, cR, rfl, hr2, hs2⟩
      have HTA := Lib.hid (take2 (id := id) (c := cR) hs2.out.rot.rot (keeps_head _ _ _ _ _ _) kB HIV.out HSS.out HID.out HK.out HP.out HZ.out (symX_length HK.out.1 HN80.out) hr2.out HT.out (Nat.le_trans HTL.out (by omega)))
      rw [HTK.out, ← HFK.out] at HTA
      clear HSY hr2 hs2
      go_wp2_with fail
      refine HTA.out.mono ?_
      rintro e w3 ⟨rfl, hs3⟩
      have HS3 := Lib.hid hs3.out
      clear HTA hs3 HS
      go_wp2_with fail
      go_roundw
      case rel => exact ⟨k + 1, by omega, by go_num, HS3⟩
      case measure => simp [intOf]; omega
    · obtain rfl : n = k := by omega
      obtain ⟨dn, hdn⟩ : ∃ t : Int, (K : Int) + (P : Int) - (rankM (matF s K P Z img f n) : Int) = t := ⟨_, rfl⟩
      have HNE := Lib.hid (needs2 HS.out (keeps_head _ _ _ _ _ _) kB (matF_got (s := s) (Z := Z) (img := img) f HK.out.1 HN80.out n).inv HK.out HP.out HZ.out hdn)
      have HEN : Hid ((dn == 0) = en s K P Z img us) := Lib.hid (by
        unfold en
        rw [HF.out, HUL.out, Bool.eq_iff_iff, beq_iff_eq, decide_eq_true_eq]
        omega)
      clear hdn HS
      go_wp2_with fail
      refine HNE.out.mono ?_
      rintro e w2 ⟨rfl, hs2⟩
      have HS2 := Lib.hid hs2.out
      clear HNE hs2
      have hfin : Ending.returned (Value.bool (dn == 0)) = .returned (.bool (en s K P Z img us)) := by rw [HEN.out]
      have HFI := Lib.hid hfin
      clear hfin
      go_wp2_with fail
      go_ret
      refine ⟨HFI.out, Lib.hid ?_⟩
      obtain ⟨F, G, H, a, b, c, h1, h2, h3, h4, h5⟩ := HS2.out
      exact ⟨fun _ => False, G, H, trivial, b, c, fun _ h => h.elim, fun _ h => h.elim, h3, fun q hq => h4 q (by rcases hq with h | h | h; exact h.elim; exact .inr (.inl h); exact .inr (.inr h)), h5⟩
end Go.Proofs.YtidcnoejihjgjaaGreatDoor.Car
namespace Go.Proofs.YtidcnoejihjgjaaGreatDoor.Car
open Go.RowKit
open VecM RdM Vc Sp Pc El Cd Dc
variable {s K P Z : Nat} {img : List UInt8}
theorem symX_nought (id : Nat) (hK : 1 ≤ K) (hn : K + P ≤ 80) : symX s K P Z [] id = List.replicate Z 0 := by
  refine ext_z (symX_length hK hn) (List.length_replicate) fun j hj => ?_
  have h := symX_lin (s := s) (Z := Z) (id := id) (a := []) (b := []) (c := []) hK hn (fun j => by simp) j hj
  rw [h, UInt8.xor_self, List.getD_eq_getElem?_getD, List.getElem?_replicate, if_pos hj]
  rfl
theorem matZ_step (f : Nat → Nat) (hK : 1 ≤ K) (hn : K + P ≤ 80) (i : Nat) : matF s K P Z [] f (i + 1) = (addMx (K + P) (matF s K P Z [] f i) (spX s K P (f i)) (List.replicate Z 0)).1 := by
  show (addMx (K + P) (matF s K P Z [] f i) (spX s K P (f i)) (symX s K P Z [] (f i))).1 = _
  rw [symX_nought (f i) hK hn]
theorem rank_nought (f : Nat → Nat) (hK : 1 ≤ K) (hn : K + P ≤ 80) (i : Nat) : rankM (matF s K P Z [] f i) = rankM (matF s K P Z img f i) := by
  rw [← matG_rank (s := s) (Z := Z) (img := []) f hK hn i, ← matG_rank (s := s) (Z := Z) (img := img) f hK hn i]
theorem en_nought (hK : 1 ≤ K) (hn : K + P ≤ 80) (us : List Nat) : ((((K + P : Nat) : Int) - (rankM (matF s K P Z [] (fun i => us.getD i 0) us.length) : Int)) == 0) = en s K P Z img us := by
  unfold en
  rw [rank_nought (img := img) _ hK hn, Bool.eq_iff_iff, beq_iff_eq, decide_eq_true_eq]
  omega
end Go.Proofs.YtidcnoejihjgjaaGreatDoor.Car
