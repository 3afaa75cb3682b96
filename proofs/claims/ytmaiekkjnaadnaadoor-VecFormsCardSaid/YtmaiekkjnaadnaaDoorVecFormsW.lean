/- VecForms: any row, any place, any bytes. -/
import Derived.Test.YtmaiekkjnaadnaaDoorVecAwake
import Derived.Test.YtmaiekkjnaadnaaDoorLawNums
import Derived.Test.YtmaiekkjnaadnaaDoorVecMore
import Derived.Test.YtmaiekkjnaadnaaDoorR1BitsX
import Derived.Test.YtmaiekkjnaadnaaDoorLike
import Derived.Deep.RegionHeld3
import Derived.Deep.DeepCutAuto
namespace Go.Proofs.YtmaiekkjnaadnaaDoor.Vc
open Go.RowKit
open VecM
theorem own_kept {w w' : World} {base : Nat} {e : TypeId} {v : Value} {n : Nat} {row : Option Nat} {xs : List Value} (h : w.ownsRow base e 1 v n xs) (hg : w.grownBy w' row) (hr : ∀ g, v.ownBlock = some g → row ≠ some g) : w'.ownsRow base e 1 v n xs := by
  refine ⟨h.1, ?_⟩
  rcases h.2 with h0 | ⟨g, cap, cur, rfl, hbg, hgb, r⟩
  · exact .inl h0
  · refine .inr ⟨g, cap, cur, rfl, hbg, ?_, r⟩
    rw [hg.block g (Array.getElem?_eq_some_iff.1 hgb).1 (fun e => hr g rfl e.symm)]; exact hgb
theorem lk_next {wc W W' : World} (h : Hid (Below wc.heap.size wc W)) (hb : Below W.heap.size W W') : Hid (Below wc.heap.size wc W') := Lib.hid (h.out.trans (hb.mono h.out.size))
theorem lk_alloc {wc W : World} (h : Hid (Below wc.heap.size wc W)) (o : Obj) : Hid (Below wc.heap.size wc (W.alloc o)) := Lib.hid (h.out.alloc h.out.size o)
theorem lk_drew {wc W : World} (h : Hid (Below wc.heap.size wc W)) : Hid (Below wc.heap.size wc W.drew) := Lib.hid h.out.drew
def FromAny (n X : Nat) (F : Bool) (w : World) (e : Ending) (w' : World) : Prop :=
  ∃ P : Option Addr, e = .returned (.tuple #[.pointer P, .bool F]) ∧ Hid (Below w.heap.size w w') ∧ Hid (F = true → ∃ g h, P = some ⟨g, 0, none⟩ ∧ VecAt w' g h n X) ∧ Hid (F = false → P = none)
def UnpackAny (n X : Nat) (F : Bool) (w : World) (e : Ending) (w' : World) : Prop :=
  ∃ A m c, e = .returned (.tuple #[.slice A m c, .bool F]) ∧ Hid (Below w.heap.size w w') ∧ Hid (F = true → m = n ∧ Row w' w'.heap.size A n (vb X n))
theorem from_all {F : Bool} (n : Nat) (A : Option Addr) (m c B : Nat) (l : List UInt8) (w : World) (hr : Row w B A m (bv l)) (hB : B ≤ w.heap.size) (hm : m ≤ 4611686018427387904) (hn : n ≤ 256) (hF : F = true ↔ fits n l) : Calls Tryd.prog 10 #[.int .i64 (n : Int), .slice A m c] w (FromAny n (frN l (bw n)) F w) := by
  cases F with
  | true =>
    refine (from_ok n A m c B l w hr hB hm hn (hF.1 rfl)).mono ?_
    rintro e w' ⟨g, h, rfl, _, _, hv, hb⟩
    exact ⟨_, rfl, hb, Lib.hid (fun _ => ⟨g, h, rfl, hv.out⟩), Lib.hid (fun h => Bool.noConfusion h)⟩
  | false =>
    refine (from_no n A m c B l w hr hB hm hn (fun h => by cases hF.2 h)).mono ?_
    rintro e w' ⟨rfl, hb⟩
    exact ⟨_, rfl, hb, Lib.hid (fun h => Bool.noConfusion h), Lib.hid (fun _ => rfl)⟩
theorem unpack_all {F : Bool} (n : Nat) (A : Option Addr) (m c B : Nat) (l : List UInt8) (w : World) (hr : Row w B A m (bv l)) (hB : B ≤ w.heap.size) (hn : n ≤ 256) (hF : F = true ↔ fits n l) : Calls Tryd.prog 11 #[.int .i64 (n : Int), .slice A m c] w (UnpackAny n (frN l (bw n)) F w) := by
  cases F with
  | true =>
    refine (unpack_yes n A m c B l w hr hB hn (hF.1 rfl)).mono ?_
    rintro e w' ⟨g, rfl, ho, hb⟩
    exact ⟨_, _, _, rfl, hb, Lib.hid (fun _ => ⟨rfl, Row.of_own ho.out⟩)⟩
  | false =>
    refine (unpack_no n A m c B l w hr hB hn (fun h => by cases hF.2 h)).mono ?_
    rintro e w' ⟨rfl, hb⟩
    exact ⟨_, _, _, rfl, hb, Lib.hid (fun h => Bool.noConfusion h)⟩
set_option maxRecDepth 100000 in
set_option maxHeartbeats 3200000 in
theorem vecForms_bad (n0 : Int) (hbad : n0 < 0 ∨ 256 < n0) (A1 : Option Addr) (n1 c1 : Nat) (l1 : List Int) (A2 : Option Addr) (n2 c2 : Nat) (i : Int) (on : Bool) (A3 : Option Addr) (n3 c3 : Nat) (w : World) (ht : DTab w)
    (hr1 : Row w w.heap.size A1 n1 (nv l1)) (hn1 : ¬ 600 < n1) (hn2 : ¬ 600 < n2) (hn3 : ¬ 100 < n3) :
    Calls Tryd.prog 3 #[.int .i64 n0, .slice A1 n1 c1, .slice A2 n2 c2, .int .i64 i, .bool on, .slice A3 n3 c3] w fun e w' => e = .returned (.bool true) ∧ Below w.heap.size w w' := by
  have HOF := Lib.hid (of_bad n0 A1 n1 c1 w.heap.size l1 w hr1 (by omega) hbad)
  have HFR := Lib.hid (fun W => from_bad n0 A3 n3 c3 W hbad)
  have HUN := Lib.hid (fun W => unpack_bad n0 A3 n3 c3 W hbad)
  have HNE := Lib.hid (fun W => new_bad n0 W hbad)
  have HAW := Lib.hid (fun W (hW : Below w.heap.size w W) => awake5_any W (ht.grow hW))
  have hd : (decide (n0 < 0) = true) ∨ (decide (n0 < 0) = false ∧ decide (256 < n0) = true) := by
    by_cases h : n0 < 0
    · left; simp [h]
    · right; refine ⟨by simp [h], ?_⟩; simp; omega
  clear hr1 ht hbad
  rcases hd with hd | ⟨hd, hd2⟩
  all_goals
    simp only [decide_eq_true_eq, decide_eq_false_iff_not] at hd
    try simp only [decide_eq_true_eq] at hd2
    go_enter Tryd.func3, Tryd.ntmps3
    go_wp2_with fail
    refine HOF.out.mono ?_
    rintro e w' ⟨rfl, rfl⟩
    go_wp2_with fail
    refine (HFR.out _).mono ?_
    rintro e w2 ⟨rfl, hb2⟩
    have HB2 := Lib.hid hb2
    clear hb2
    go_wp2_with fail
    refine (HUN.out _).mono ?_
    rintro e w3 ⟨rfl, hb3⟩
    have HB3 := Lib.hid (HB2.out.trans (hb3.out.mono HB2.out.size))
    clear hb3
    go_wp2_with fail
    refine (HNE.out _).mono ?_
    rintro e w' ⟨rfl, rfl⟩
    go_wp2_with fail
    refine (HAW.out _ HB3.out).mono ?_
    rintro e w4 ⟨rfl, hb4⟩
    have HB4 := Lib.hid (HB3.out.trans (hb4.out.mono HB3.out.size))
    clear hb4
    go_wp2_with fail
    go_ret
    exact ⟨rfl, HB4.out⟩
set_option maxRecDepth 100000 in
set_option maxHeartbeats 3200000 in
theorem vecForms_good (n : Nat) (hn : n ≤ 256) (A1 : Option Addr) (n1 c1 : Nat) (l1 : List Int) (A2 : Option Addr) (n2 c2 : Nat) (l2 : List Int) (i : Int) (on : Bool) (A3 : Option Addr) (n3 c3 : Nat) (l3 : List UInt8) (w : World) (ht : DTab w)
    (hr1 : Row w w.heap.size A1 n1 (nv l1)) (hr2 : Row w w.heap.size A2 n2 (nv l2)) (hr3 : Row w w.heap.size A3 n3 (bv l3)) (hn1 : ¬ 600 < n1) (hn2 : ¬ 600 < n2) (hn3 : ¬ 100 < n3) :
    Calls Tryd.prog 3 #[.int .i64 (n : Int), .slice A1 n1 c1, .slice A2 n2 c2, .int .i64 i, .bool on, .slice A3 n3 c3] w fun e w' => e = .returned (.bool true) ∧ Below w.heap.size w w' := by
  obtain ⟨F, hF⟩ : ∃ F : Bool, F = true ↔ fits n l3 := by
    by_cases h : fits n l3
    · exact ⟨true, by simp [h]⟩
    · exact ⟨false, by simp [h]⟩
  have HO1 := Lib.hid (of_any n A1 n1 c1 w.heap.size l1 w hr1 (Nat.le_refl _) (by omega) hn)
  have HO2 := Lib.hid (fun W (hW : Below w.heap.size w W) => of_any n A2 n2 c2 w.heap.size l2 W (hr2.below hW) hW.size (by omega) hn)
  have HBA := Lib.hid (fun W (hW : Below w.heap.size w W) => r1bits_any n A1 n1 c1 w.heap.size l1 W (hr1.below hW) hW.size (by omega) hn)
  have HBB := Lib.hid (fun W (hW : Below w.heap.size w W) => r1bits_any n A2 n2 c2 w.heap.size l2 W (hr2.below hW) hW.size (by omega) hn)
  have HFR := Lib.hid (fun W (hW : Below w.heap.size w W) => from_all n A3 n3 c3 w.heap.size l3 W (hr3.below hW) hW.size (by omega) hn hF)
  have HUN := Lib.hid (fun W (hW : Below w.heap.size w W) => unpack_all n A3 n3 c3 w.heap.size l3 W (hr3.below hW) hW.size hn hF)
  have HAW := Lib.hid (fun W (hW : Below w.heap.size w W) => awake5_any W (ht.grow hW))
  have HT := Lib.hid (fun W (hW : Below w.heap.size w W) => ht.grow hW)
  have HLX := Lib.hid (ofL_lt (n := n) l1)
  have HLY := Lib.hid (ofL_lt (n := n) l2)
  generalize ofL n l1 = X at *
  generalize ofL n l2 = Y at *
  generalize frN l3 (bw n) = Z at *
  have HLK := Lib.hid (fun (W : World) (g h V c : Nat) (A : Option Addr) (hW : Below w.heap.size w W) (v : VecAt W g h n V) (r : Row W W.heap.size A n (vb V n)) => like_yes g h n V W.heap.size c A W v r (Nat.le_refl _) (ht.grow hW))
  have HN := Lib.hid hn
  clear ht hr1 hr2 hr3 hF
  go_enter Tryd.func3, Tryd.ntmps3
  go_wp2_with fail
  refine HO1.out.mono ?_
  rintro e w1 ⟨g, h, rfl, hg, hh, hv, hb⟩
  have HB1 := hb
  have HV := hv
  have HG : Hid (w.heap.size ≤ g ∧ w.heap.size ≤ h) := ⟨hg, hh⟩
  clear hb hv hg hh HO1
  go_wp2_with fail
  refine (HFR.out _ HB1.out).mono ?_
  rintro e w2 ⟨P, rfl, hb2, hp1, hp2⟩
  have HB2 := Lib.hid (HB1.out.trans (hb2.out.mono HB1.out.size))
  have HS2 := hb2
  clear hb2 HFR
  go_wp2_with fail
  refine (HUN.out _ HB2.out).mono ?_
  rintro e w3 ⟨A, m, c, rfl, hb3, hq⟩
  have HB3 := Lib.hid (HB2.out.trans (hb3.out.mono HB2.out.size))
  have HS3 := Lib.hid (HS2.out.trans (hb3.out.mono HS2.out.size))
  have HD3 := hb3
  clear hb3 HUN
  go_upto_region 6 with fail
  go_cut [68] (fun s wx => s = .bool false ∧ Hid (Below w3.heap.size w3 wx))
  case first =>
    cases F with
    | true =>
      obtain ⟨g2, h2, rfl, hv2⟩ := hp1.out rfl
      obtain ⟨rfl, hr⟩ := hq.out rfl
      have HL := Lib.hid (HLK.out w3 g2 h2 Z c A HB3.out (hv2.below HD3.out) hr)
      clear hp1 hp2 hq hv2 hr
      go_wp2_with fail
      refine HL.out.mono ?_
      rintro e w4 ⟨rfl, hb4⟩
      go_wp2_with fail
      go_meet
      exact ⟨rfl, hb4⟩
    | false =>
      obtain rfl := hp2.out rfl
      clear hp1 hp2 hq
      go_wp2_with fail
      go_meet
      exact ⟨rfl, Below.refl _ _⟩
  case rest =>
    obtain ⟨rfl, hbc⟩ := hcut
    have HBC := Lib.hid (HB3.out.trans (hbc.out.mono HB3.out.size))
    have HVC := Lib.hid (HV.out.below (HS3.out.trans (hbc.out.mono HS3.out.size)))
    clear hbc hp1 hp2 hq HV HB1 HB2 HB3 HS2 HS3 HD3
    go_wp2_with fail
    refine (HBA.out _ HBC.out).mono ?_
    rintro e wa ⟨ga, rfl, hoa, hba⟩
    have HBa := Lib.hid (HBC.out.trans (hba.out.mono HBC.out.size))
    have HVa := Lib.hid (HVC.out.below hba.out)
    go_wp2_with fail
    refine (HBB.out _ HBa.out).mono ?_
    rintro e wb ⟨gb, rfl, hob, hbb⟩
    have HBb := Lib.hid (HBa.out.trans (hbb.out.mono HBa.out.size))
    have HVb := Lib.hid (HVa.out.below hbb.out)
    have HOa := Lib.hid (own_below hoa.out hbb.out)
    have HOb := hob
    have HGA : Hid (w.heap.size ≤ ga ∧ g ≠ ga ∧ h ≠ ga) := by
      have h1 := (hoa.out.lt ga rfl).1
      have h2 := HVC.out.lt
      have h3 := HBC.out.size
      exact ⟨by omega, by omega, by omega⟩
    clear hba hbb hoa hob HBa HVa HVC HBC HBA HBB
    have HL1 := Lib.hid (fun W (hW : Hid (Below wb.heap.size wb W)) => HLK.out W g h X n (some ⟨ga, 0, none⟩) (HBb.out.trans (hW.out.mono HBb.out.size)) (HVb.out.below hW.out) (Row.of_own (own_below HOa.out hW.out)))
    have HL2 := Lib.hid (fun W g' h' (A : Option Addr) (hW : Hid (Below wb.heap.size wb W)) (v : VecAt W g' h' n 0) (r : Row W W.heap.size A n (vb 0 n)) => HLK.out W g' h' 0 n A (HBb.out.trans (hW.out.mono HBb.out.size)) v r)
    have HNW := Lib.hid (fun W => new_ok n W HN.out)
    have HM := Lib.hid (fun W W1 (hb : Below (W.alloc (.cells (Array.replicate n (.bool false)) 4)).heap.size (W.alloc (.cells (Array.replicate n (.bool false)) 4)) W1) => Row.of_own (own_below (vb_own W n (by have := HN.out; omega)) hb))
    have hmk := madeBool n (by omega)
    go_upto_region 11 with fail
    go_cut [102] (fun s wx => s = .bool false ∧ Hid (Below wb.heap.size wb wx))
    case first =>
      go_region_held3 (fun W => Hid (Below wb.heap.size wb W))
        (first | assumption | exact lk_next (by assumption) (by assumption) | exact lk_alloc (by assumption) _ | exact lk_drew (by assumption) | exact Lib.hid (Below.refl _ _).drew | exact Lib.hid (Below.refl _ _))
        (first
          | (go_at_call 12; (with_reducible refine (HL1.out _ (by assumption)).mono ?_); rintro e w' ⟨rfl, hbel'⟩; have hbel := hbel'.out)
          | (go_at_call 13; refine (HNW.out _).mono ?_; rintro e w' ⟨g', h', rfl, _, _, hv', hbel2'⟩; have hbel2 := hbel2'.out)
          | (go_at_call 12; (with_reducible refine (HL2.out _ _ _ _ (by assumption) hv'.out (HM.out _ _ hbel2)).mono ?_); rintro e w' ⟨rfl, hbel3'⟩; have hbel3 := hbel3'.out)
          | (go_at_call 12; (with_reducible refine (HL2.out _ _ _ _ (by assumption) (hv'.out.below ((Below.refl _ _).alloc (Nat.le_refl _) _)) (HM.out _ _ (Below.refl _ _))).mono ?_); rintro e w' ⟨rfl, hbel3'⟩; have hbel3 := hbel3'.out))
      all_goals
        go_wp2_with fail
        go_meet
        exact ⟨rfl, by assumption⟩
    case rest =>
      obtain ⟨rfl, hbc2⟩ := hcut
      clear HL2 HNW HM hmk
      have HV2 := Lib.hid (HVb.out.below hbc2.out)
      have HO2b := Lib.hid (HO2.out _ (HBb.out.trans (hbc2.out.mono HBb.out.size)))
      go_wp2_with fail
      refine (copy_any g h n X _ HV2.out).mono ?_
      rintro e w5 ⟨g5, h5, rfl, hg5, hh5, hv5, hb5⟩
      have HB5 := Lib.hid (hbc2.out.trans (hb5.out.mono hbc2.out.size))
      have HS5 : Hid (wb.heap.size ≤ g5 ∧ wb.heap.size ≤ h5) := by
        have h1 := hbc2.out.size
        exact ⟨by omega, by omega⟩
      have HV5 := hv5
      clear hb5 hbc2 hg5 hh5 hv5 HO2b HV2
      go_wp2_with fail
      refine (HO2.out _ (HBb.out.trans (HB5.out.mono HBb.out.size))).mono ?_
      rintro e w6 ⟨g6, h6, rfl, hg6, hh6, hv6, hb6⟩
      have HB6 := Lib.hid (HB5.out.trans (hb6.out.mono HB5.out.size))
      have HV56 := Lib.hid (HV5.out.below hb6.out)
      have HX := Lib.hid (xor_any g5 h5 n X g6 h6 Y w6 HV56.out hv6.out (by have := HV5.out.lt; omega) (by have := HV5.out.lt; omega))
      clear hg6 hh6 hv6 hb6 HV56 HV5 HB5
      go_wp2_with fail
      refine HX.out.mono ?_
      rintro e w7 ⟨rfl, hv7, hgr⟩
      have HB7 := Lib.hid (HB6.out.grown hgr.out HB6.out.size (by intro r hr; injection hr with hr; have := HS5.out; omega))
      clear HX hgr HB6
      have HRX := Lib.hid (r1xor_any w7.heap.size n n n X Y (some ⟨ga, 0, none⟩) (some ⟨gb, 0, none⟩) w7 (Row.of_own (own_below HOa.out HB7.out)) (Row.of_own (own_below HOb.out HB7.out)) HLX.out HLY.out (by have := HN.out; omega) (Nat.le_refl _))
      go_wp2_with fail
      refine HRX.out.mono ?_
      rintro e w8 ⟨g8, rfl, ho8, hb8⟩
      have HB8 := Lib.hid (HB7.out.trans (hb8.out.mono HB7.out.size))
      have HL8 := Lib.hid (HLK.out w8 g5 h5 (X ^^^ Y) n (some ⟨g8, 0, none⟩) (HBb.out.trans (HB8.out.mono HBb.out.size)) (hv7.out.below hb8.out) (Row.of_own ho8.out))
      clear HRX hv7 ho8 hb8 HB7 HS5
      go_wp2_with fail
      refine HL8.out.mono ?_
      rintro e w9 ⟨rfl, hb9⟩
      have HB9 := Lib.hid (HB8.out.trans (hb9.out.mono HB8.out.size))
      clear HL8 HB8 hb9
      go_wp2_with fail
      refine (HL1.out _ HB9).mono ?_
      rintro e w10 ⟨rfl, hb10⟩
      have HB10 := Lib.hid (HB9.out.trans (hb10.out.mono HB9.out.size))
      have HV10 := Lib.hid (HVb.out.below HB10.out)
      have HO10 := Lib.hid (own_below HOa.out HB10.out)
      have HBW := Lib.hid (HBb.out.trans (HB10.out.mono HBb.out.size))
      clear HB9 HB10 hb10 HL1 HVb HOa HOb HBb HO2
      by_cases hin : 0 ≤ i ∧ i < (n : Int)
      · obtain ⟨j, rfl⟩ : ∃ j : Nat, i = (j : Int) := ⟨i.toNat, by omega⟩
        have hj : j < n := by omega
        have hji : (j : Int) < (n : Int) := by omega
        have HIN := Lib.hid (has_in g h n X j w10 HV10.out hj)
        clear hin
        go_wp2_with fail
        refine HIN.out.mono ?_
        rintro e w' ⟨rfl, rfl⟩
        clear HIN
        have hca := (HO10.out.cellAt j (by omega)).trans (vb_get X n j hj)
        go_wp2_with fail
        refine (set_in g h n X j on w10 HV10.out hj).mono ?_
        rintro e w11 ⟨rfl, hv11, hg11⟩
        clear hca
        have hoa := own_kept HO10.out hg11.out (fun g' e e2 => by have e3 : some ga = some g' := e; injection e3 with e3; injection e2 with e2; have := HGA.out.2.2; omega)
        have hb11 := HBW.out.grown hg11.out HBW.out.size (by intro r hr; injection hr with hr; have := HG.out.2; omega)
        have hfz := hoa.frozenAt j
        have hcs := (hoa.cellAt j (by omega)).trans (vb_get X n j hj)
        have hst := Lib.hid ((hoa.stored j (.bool on)).1)
        have hset := vb_put X n j on hj
        rw [hset] at hst
        have HVS := Lib.hid (hv11.out.grown (grown_set1 w11 ga j (.bool on)) (Ne.symm HGA.out.2.1) (Ne.symm HGA.out.2.2))
        have HB12 := Lib.hid (hb11.setCell (p := ⟨ga, j, none⟩) HGA.out.1 (.bool on))
        clear hset hb11 hoa HBW HO10 HV10 hv11 hg11
        have HLZ := Lib.hid (HLK.out _ g h (put X j on) n (some ⟨ga, 0, none⟩) HB12.out HVS.out (Row.of_own hst.out))
        clear hst HVS HG HGA
        go_wp2_with fail
        refine HLZ.out.mono ?_
        rintro e w13 ⟨rfl, hb13⟩
        have HB13 := Lib.hid (HB12.out.trans (hb13.out.mono HB12.out.size))
        clear HLZ hb13 HB12 hfz hcs
        go_wp2_with fail
        refine (HAW.out _ HB13.out).mono ?_
        rintro e w14 ⟨rfl, hb14⟩
        have HB14 := Lib.hid (HB13.out.trans (hb14.out.mono HB13.out.size))
        clear hb14
        go_wp2_with fail
        go_ret
        exact ⟨rfl, HB14.out⟩
      · by_cases hi0 : 0 ≤ i
        · have hi1 : ¬ i < (n : Int) := fun h => hin ⟨hi0, h⟩
          have HOUT := Lib.hid (within_out g h n X i w10 HV10.out (by omega))
          clear hin
          go_wp2_with fail
          refine (has_no _ i w10 HOUT.out).mono ?_
          rintro e w' ⟨rfl, rfl⟩
          go_wp2_with fail
          refine (set_no _ i on w10 HOUT.out).mono ?_
          rintro e w' ⟨rfl, rfl⟩
          go_wp2_with fail
          have HLZ := Lib.hid (HLK.out w10 g h X n (some ⟨ga, 0, none⟩) HBW.out HV10.out (Row.of_own HO10.out))
          refine HLZ.out.mono ?_
          rintro e w11 ⟨rfl, hb11⟩
          have HB11 := Lib.hid (HBW.out.trans (hb11.out.mono HBW.out.size))
          clear HLZ HOUT hb11
          go_wp2_with fail
          refine (HAW.out _ HB11.out).mono ?_
          rintro e w12 ⟨rfl, hb12⟩
          have HB12 := Lib.hid (HB11.out.trans (hb12.out.mono HB11.out.size))
          clear hb12
          go_wp2_with fail
          go_ret
          exact ⟨rfl, HB12.out⟩
        · have HOUT := Lib.hid (within_out g h n X i w10 HV10.out (by omega))
          clear hin
          go_wp2_with fail
          refine (has_no _ i w10 HOUT.out).mono ?_
          rintro e w' ⟨rfl, rfl⟩
          go_wp2_with fail
          refine (set_no _ i on w10 HOUT.out).mono ?_
          rintro e w' ⟨rfl, rfl⟩
          go_wp2_with fail
          have HLZ := Lib.hid (HLK.out w10 g h X n (some ⟨ga, 0, none⟩) HBW.out HV10.out (Row.of_own HO10.out))
          refine HLZ.out.mono ?_
          rintro e w11 ⟨rfl, hb11⟩
          have HB11 := Lib.hid (HBW.out.trans (hb11.out.mono HBW.out.size))
          clear HLZ HOUT hb11
          go_wp2_with fail
          refine (HAW.out _ HB11.out).mono ?_
          rintro e w12 ⟨rfl, hb12⟩
          have HB12 := Lib.hid (HB11.out.trans (hb12.out.mono HB11.out.size))
          clear hb12
          go_wp2_with fail
          go_ret
          exact ⟨rfl, HB12.out⟩
set_option maxRecDepth 100000 in
theorem vecForms_walk (n0 : Int) (_ : -9223372036854775808 ≤ n0) (_ : n0 ≤ 9223372036854775807) (A1 : Option Addr) (n1 c1 : Nat) (zs1 : List Int) (A2 : Option Addr) (n2 c2 : Nat) (zs2 : List Int) (i : Int) (_ : -9223372036854775808 ≤ i) (_ : i ≤ 9223372036854775807) (on : Bool) (A3 : Option Addr) (n3 c3 : Nat) (l3 : List UInt8) (w : World) (ht : DTab w)
    (_ : n1 ≤ c1) (_ : c1 ≤ 9223372036854775807) (h1 : NumsIn w A1 n1 zs1) (_ : n2 ≤ c2) (_ : c2 ≤ 9223372036854775807) (h2 : NumsIn w A2 n2 zs2) (hr3 : Row w w.heap.size A3 n3 (bv l3)) (_ : n3 ≤ c3) (_ : c3 ≤ 9223372036854775807) :
    Calls Tryd.prog 3 #[.int .i64 n0, .slice A1 n1 c1, .slice A2 n2 c2, .int .i64 i, .bool on, .slice A3 n3 c3] w fun e w' => e = .returned (.bool true) ∧ Below w.heap.size w w' := by
  have HAW := Lib.hid (awake5_any w ht)
  by_cases hb1 : 600 < n1
  · go_enter Tryd.func3, Tryd.ntmps3
    go_wp2_with fail
    refine HAW.out.mono ?_
    rintro e w1 ⟨rfl, hb⟩
    go_wp2_with fail
    go_ret
    exact ⟨rfl, hb.out⟩
  by_cases hb2 : 600 < n2
  · go_enter Tryd.func3, Tryd.ntmps3
    go_wp2_with fail
    refine HAW.out.mono ?_
    rintro e w1 ⟨rfl, hb⟩
    go_wp2_with fail
    go_ret
    exact ⟨rfl, hb.out⟩
  by_cases hb3 : 100 < n3
  · go_enter Tryd.func3, Tryd.ntmps3
    go_wp2_with fail
    refine HAW.out.mono ?_
    rintro e w1 ⟨rfl, hb⟩
    go_wp2_with fail
    go_ret
    exact ⟨rfl, hb.out⟩
  by_cases hn : n0 < 0 ∨ 256 < n0
  · exact vecForms_bad n0 hn A1 n1 c1 _ A2 n2 c2 i on A3 n3 c3 w ht (row_of_nums h1) hb1 hb2 hb3
  · obtain ⟨n, rfl⟩ : ∃ n : Nat, n0 = (n : Int) := ⟨n0.toNat, by omega⟩
    exact vecForms_good n (by omega) A1 n1 c1 _ A2 n2 c2 _ i on A3 n3 c3 l3 w ht (row_of_nums h1) (row_of_nums h2) hr3 hb1 hb2 hb3
end Go.Proofs.YtmaiekkjnaadnaaDoor.Vc
