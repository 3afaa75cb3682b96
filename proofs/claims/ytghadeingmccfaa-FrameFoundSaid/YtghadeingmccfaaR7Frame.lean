/- The reference's Unwrap: by contract, as far as it refuses. -/
import Derived.Test.YtghadeingmccfaaFrameScan
import Derived.Test.YtghadeingmccfaaR1Right
namespace Go.Proofs.Ytghadeingmccfaa
open Go.RowKit
open FrM (flen inner frame)
set_option maxHeartbeats 400000 in
theorem r1number2 (B cap : Nat) (A : Option Addr) (l : List UInt8) (w : World) (hl : Row w B A 2 (bv l)) :
    Calls Try.prog 19 #[.slice A 2 cap] w fun e w' => e = .returned (.int .u32 (CrcM.number l : Nat)) ∧ w = w' := by
  have HS : Hid (isNum 0 0 l) := ⟨rfl, by decide⟩
  have HN := Lib.hid hl.blen
  go_enter Try.func19, Try.ntmps19
  go_wp2
  go_loop [3, 8] (fun v i => ∃ (k x : Nat), k ≤ 2 ∧ Hid (isNum k x l) ∧ i = .int .i64 k ∧ v = .int .u32 x) (fun _ i => 2 - (intOf i).toNat)
  case atStart => exact ⟨0, 0, by omega, HS, rfl, rfl⟩
  case round =>
    obtain ⟨k, x, hk, hx, rfl, rfl⟩ := hrel
    by_cases hlt : k < 2
    · obtain ⟨b, o, rfl, _, hkl, hcell⟩ := hl.byteAt hlt
      obtain ⟨y, hy, hr⟩ := isNum_next hx.out hkl (by omega)
      have HY := Lib.hid hy
      clear hy
      have hb : (l[k].toNat : Int) ≤ 255 := by have := CrcM.b_lt l[k]; omega
      go_wp2
      go_round
      case rel => exact ⟨k + 1, y, by omega, hr, by go_num, HY.out⟩
      case measure => simp [intOf]; omega
    · have : k = 2 := by omega
      subst this
      go_wp2
      go_ret
      refine ⟨?_, rfl⟩
      have e := hx.out.1
      rw [List.take_of_length_le (by rw [HN.out]; omega)] at e
      rw [e]; rfl
theorem number_two (l : List UInt8) (h : 5 ≤ l.length) : CrcM.number ((l.drop 3).take 2) + 9 = flen l := by
  match l, h with
  | a :: b :: c :: d :: e :: t, _ => simp [CrcM.number, flen]
/-JOIN1-/
theorem join1 (n1 c1 : Nat) (A1 : Option Addr) (l1 : List UInt8) (W : World) (h1 : Row W W.heap.size A1 n1 (bv l1)) (ha : n1 ≤ 1000) (g : Nat) (hg : g = W.heap.size) :
    Calls Try.prog 13 #[.slice (some ⟨g, 0, none⟩) 1 1] (W.alloc (.cells #[.slice A1 n1 c1] 22)) (FreshBytes (W.alloc (.cells #[.slice A1 n1 c1] 22)).heap.size l1 (W.alloc (.cells #[.slice A1 n1 c1] 22))) := by
  subst hg
  have hr := row_new W #[.slice A1 n1 c1] 22 (0, 0)
  have hf : flat [⟨A1, n1, c1, l1⟩] = l1 := by simp [flat]
  have := join_any (W.heap.size + 1) 1 1 (some ⟨W.heap.size, 0, none⟩) [⟨A1, n1, c1, l1⟩] (W.alloc (.cells #[.slice A1 n1 c1] 22))
    ⟨hr, by
      intro r hr
      simp at hr
      subst hr
      exact (h1.alloc (Nat.le_refl _) _).more (by omega)⟩ (by omega) (by rw [hf, h1.blen]; omega) (by simp)
  rwa [hf] at this
theorem r7unwrap_long (n cap : Nat) (A : Option Addr) (w : World) (hn : 300 < n) : Calls Try.prog 10 #[.slice A n cap] w (UnErr 3 w) := by
  go_enter Try.func10, Try.ntmps10
  go_wp2_with fail
  go_ret3
  exact ⟨rfl, Below.refl _ _⟩
theorem r7unwrap_short (n cap : Nat) (A : Option Addr) (w : World) (hn : n < 9) : Calls Try.prog 10 #[.slice A n cap] w (UnErr 2 w) := by
  have h3 : n ≤ 300 := by omega
  go_enter Try.func10, Try.ntmps10
  go_wp2_with fail
  go_ret3
  exact ⟨rfl, Below.refl _ _⟩
theorem take2_iff (l : List UInt8) (h : 2 ≤ l.length) : l.take 2 = [68, 80] ↔ l.getD 0 0 = 68 ∧ l.getD 1 0 = 80 := by
  match l, h with
  | a :: b :: t, _ => simp
set_option maxHeartbeats 800000 in
theorem r7unwrap_head (B n cap : Nat) (A : Option Addr) (l : List UInt8) (w : World) (hl : Row w B A n (bv l)) (h9 : 9 ≤ n) (h300 : n ≤ 300) (hn : n ≤ cap) (hcap : cap ≤ 9223372036854775807) (hh : ¬ headOk l) :
    Calls Try.prog 10 #[.slice A n cap] w (UnErr 3 w) := by
  obtain ⟨b, o, rfl, _⟩ := hl.byteAt (k := 0) (by omega)
  have hbl := hl.blen
  have hrow2 : Row w B (some ⟨b, o, none⟩) 2 (bv (l.take 2)) := by rw [← bv_take]; exact hl.head (by omega)
  have hk := run_string_row (P := Try.prog) hrow2 cap 22 9 5 Try.underlying22 Try.underlying5 Try.underlying9
  have hc2 : (2 : Int) ≤ (cap : Int) := by omega
  by_cases hdp : l.take 2 = [68, 80]
  · rw [hdp] at hk
    have hrow3 : Row w B (some ⟨b, o + 3, none⟩) 2 (bv ((l.drop 3).take 2)) := by
      rw [← bv_take, ← bv_drop]
      exact hl.sub (k := 3) (m := 2) (by omega) (fun b' o' e _ => by injection e with e; injection e with e1 e2; subst e1 e2; rfl)
    have hnum := number_two l (by omega)
    have hf : flen l ≠ n := fun e => hh ⟨((take2_iff l (by omega)).1 hdp).1, ((take2_iff l (by omega)).1 hdp).2, by rw [hbl]; exact e⟩
    obtain ⟨q, hq⟩ : ∃ q, CrcM.number ((l.drop 3).take 2) = q := ⟨_, rfl⟩
    have hq3 : q ≤ 65535 := by
      have h1 := CrcM.b_lt (l.getD 3 0)
      have h2 := CrcM.b_lt (l.getD 4 0)
      unfold flen at hnum
      omega
    have hne : ((q : Int) == (n : Int) - 9) = false := by simp; omega
    have HN := Lib.hid (fun c => r1number2 B c _ _ w hrow3)
    rw [hq] at HN
    clear hdp hh hf hnum hq hrow2 hrow3 hbl
    go_enter Try.func10, Try.ntmps10
    go_wp2_with fail
    refine (HN.out _).mono ?_
    rintro e w' ⟨rfl, rfl⟩
    go_wp2_with fail
    go_ret3
    exact ⟨rfl, Below.refl _ _⟩
  · generalize l.take 2 = p at *
    clear hh hbl hrow2
    go_enter Try.func10, Try.ntmps10
    go_wp2_with fail
    go_ret3
    exact ⟨rfl, Below.refl _ _⟩
set_option maxHeartbeats 800000 in
theorem r7unwrap_check (B n cap : Nat) (A : Option Addr) (l : List UInt8) (w : World) (hl : Row w B A n (bv l)) (h9 : 9 ≤ n) (h300 : n ≤ 300) (hn : n ≤ cap) (hcap : cap ≤ 9223372036854775807) (hB : B ≤ w.heap.size) (hh : headOk l) (hR : ¬ isRight (l.drop 2)) :
    Calls Try.prog 10 #[.slice A n cap] w (UnErr 4 w) := by
  obtain ⟨b, o, rfl, _⟩ := hl.byteAt (k := 0) (by omega)
  have hbl := hl.blen
  have hrow2 : Row w B (some ⟨b, o, none⟩) 2 (bv (l.take 2)) := by rw [← bv_take]; exact hl.head (by omega)
  have hk := run_string_row (P := Try.prog) hrow2 cap 22 9 5 Try.underlying22 Try.underlying5 Try.underlying9
  have hc2 : (2 : Int) ≤ (cap : Int) := by omega
  have hdp : l.take 2 = [68, 80] := (take2_iff l (by omega)).2 ⟨hh.1, hh.2.1⟩
  rw [hdp] at hk
  have hrow3 : Row w B (some ⟨b, o + 3, none⟩) 2 (bv ((l.drop 3).take 2)) := by
    rw [← bv_take, ← bv_drop]
    exact hl.sub (k := 3) (m := 2) (by omega) (fun b' o' e _ => by injection e with e; injection e with e1 e2; subst e1 e2; rfl)
  have hnum := number_two l (by omega)
  have hf : flen l = n := by rw [hh.2.2, hbl]
  obtain ⟨q, hq⟩ : ∃ q, CrcM.number ((l.drop 3).take 2) = q := ⟨_, rfl⟩
  have hne : ((q : Int) == (n : Int) - 9) = true := by simp; omega
  have HN := Lib.hid (fun c => r1number2 B c _ _ w hrow3)
  rw [hq] at HN
  have hq3 : q ≤ 300 := by omega
  have HFR := Lib.hid (row_from2 hl (by omega))
  have hcap2 : ¬ cap = 2 := by omega
  have hd2 : (l.drop 2).length = n - 2 := by rw [List.length_drop, hbl]
  have HR := Lib.hid hR
  clear hdp hh hf hnum hrow2 hrow3 hbl hR hd2
  go_enter Try.func10, Try.ntmps10
  go_wp2_with fail
  refine (HN.out _).mono ?_
  rintro e w' ⟨rfl, rfl⟩
  go_wp2_with fail
  refine (r1right_no B (n - 2) (cap - 2) (some ⟨b, o + 2, none⟩) (l.drop 2) w HFR.out (by omega) (by omega) (by omega) hB HR.out).mono ?_
  rintro e w' ⟨rfl, hb⟩
  go_wp2_with fail
  go_ret3
  exact ⟨rfl, hb⟩
set_option maxHeartbeats 800000 in
theorem r7unwrap_ok (B n cap : Nat) (A : Option Addr) (l : List UInt8) (w : World) (hl : Row w B A n (bv l)) (h9 : 9 ≤ n) (h300 : n ≤ 300) (hn : n ≤ cap) (hcap : cap ≤ 9223372036854775807) (hB : B ≤ w.heap.size) (hh : headOk l) (hR : isRight (l.drop 2)) :
    Calls Try.prog 10 #[.slice A n cap] w (UnOk (l.getD 2 0).toNat (FrM.load l) w) := by
  obtain ⟨b, o, rfl, _⟩ := hl.byteAt (k := 0) (by omega)
  have hbl := hl.blen
  have hrow2 : Row w B (some ⟨b, o, none⟩) 2 (bv (l.take 2)) := by rw [← bv_take]; exact hl.head (by omega)
  have hk := run_string_row (P := Try.prog) hrow2 cap 22 9 5 Try.underlying22 Try.underlying5 Try.underlying9
  have hc2 : (2 : Int) ≤ (cap : Int) := by omega
  have hdp : l.take 2 = [68, 80] := (take2_iff l (by omega)).2 ⟨hh.1, hh.2.1⟩
  rw [hdp] at hk
  have hrow3 : Row w B (some ⟨b, o + 3, none⟩) 2 (bv ((l.drop 3).take 2)) := by
    rw [← bv_take, ← bv_drop]
    exact hl.sub (k := 3) (m := 2) (by omega) (fun b' o' e _ => by injection e with e; injection e with e1 e2; subst e1 e2; rfl)
  have hnum := number_two l (by omega)
  have hf : flen l = n := by rw [hh.2.2, hbl]
  obtain ⟨q, hq⟩ : ∃ q, CrcM.number ((l.drop 3).take 2) = q := ⟨_, rfl⟩
  have hne : ((q : Int) == (n : Int) - 9) = true := by simp; omega
  have HN := Lib.hid (fun c => r1number2 B c _ _ w hrow3)
  rw [hq] at HN
  have hq3 : q ≤ 300 := by omega
  have HFR := Lib.hid (row_from2 hl (by omega))
  have hcap2 : ¬ cap = 2 := by omega
  have hd2 : (l.drop 2).length = n - 2 := by rw [List.length_drop, hbl]
  have HR := Lib.hid hR
  clear hdp hh hf hnum hrow2 hrow3 hbl hR
  go_enter Try.func10, Try.ntmps10
  go_wp2_with fail
  refine (HN.out _).mono ?_
  rintro e w' ⟨rfl, rfl⟩
  go_wp2_with fail
  refine (r1right_yes B (n - 2) (cap - 2) (some ⟨b, o + 2, none⟩) (l.drop 2) w HFR.out (by omega) (by omega) (by omega) hB HR.out).mono ?_
  rintro e w1 ⟨A1, n1, c1, rfl, hn1, hown1, hb1⟩
  obtain ⟨ml, hml⟩ : ∃ ml, (l.drop 2).take ((l.drop 2).length - 4) = ml := ⟨_, rfl⟩
  rw [hml] at hn1 hown1
  have hmll : ml.length = n - 6 := by rw [← hml, List.length_take, hd2]; omega
  have hld : FrM.load l = ml.drop 3 := by rw [← hml]; rfl
  have hm2 : ml.getD 0 0 = l.getD 2 0 := by
    rw [← hml]
    simp [List.getD, List.getElem?_take]
    rw [if_pos (by have h := hd2; rw [List.length_drop] at h; omega)]
  obtain rfl : n1 = n - 6 := hn1.out.trans hmll
  obtain ⟨g, cg, hv, hg1, hg2⟩ := hown1.form (by omega)
  injection hv with e1 e2 e3
  subst e1 e3
  have hc1 := own_cap hown1
  have hR1 := Row.of_own hown1
  obtain ⟨b2, o2, e, _, hk0, hcl⟩ := hR1.byteAt (k := 0) (by omega)
  injection e with e
  injection e with e1 e2
  subst e1 e2
  rw [show ml[0] = l.getD 2 0 by rw [← hm2]; simp [List.getD, hk0]] at hcl
  generalize l.getD 2 0 = kd at *
  have hkb : (kd.toNat : Int) ≤ 255 := by have := CrcM.b_lt kd; omega
  have hcell : ∀ W, Below w1.heap.size w1 W → W.cell? ⟨g, 0, none⟩ = some (.int .u8 (kd.toNat : Int)) := fun W hW => by
    rw [World.cell?_of_block (w := w1) (w' := W) (a := ⟨g, 0, none⟩) (hW.block g hg2)]; exact hcl
  have hkw : IntKind.i64.wrap (kd.toNat : Int) = (kd.toNat : Int) := IntWalk.i64_in _ ⟨by omega, by omega⟩
  have HCELL := Lib.hid hcell
  have HRL : Hid (Row w1 w1.heap.size (if c1 = 3 then some ⟨g, 0, none⟩ else some ⟨g, 3, none⟩) (n - 6 - 3) (bv (FrM.load l))) := by
    show Row _ _ _ _ _
    rw [hld, ← bv_drop]
    have h1 := hR1.sub (k := 3) (m := n - 6 - 3) (A' := if c1 = 3 then some ⟨g, 0, none⟩ else some ⟨g, 3, none⟩) (by omega) (fun b' o' e hp => by
      injection e with e; injection e with e1 e2; subst e1 e2
      have := hc1.1
      rw [if_neg (by omega), Nat.zero_add])
    rwa [List.take_of_length_le (by rw [List.length_drop, bv_length, hmll]; exact Nat.le_refl _)] at h1
  have HLL : Hid ((FrM.load l).length = n - 9) := by show _ = _; rw [hld, List.length_drop, hmll]; omega
  have HB1 := Lib.hid hb1
  have hc1i : (3 : Int) ≤ (c1 : Int) := by omega
  have hn3i : (3 : Int) ≤ ((n - 6 : Nat) : Int) := by omega
  have hn0 : 0 < n - 6 := by omega
  generalize FrM.load l = ld at *
  clear hn1 hmll hld hm2 hml hR1 hcl hk0 hcell hown1 hb1 hd2
  by_cases hc3 : c1 = 3
  · subst hc3
    have HRL2 : Hid (Row w1 w1.heap.size (some ⟨g, 0, none⟩) 0 (bv ld)) := by have := HRL.out; rwa [if_pos rfl, show n - 6 - 3 = 0 by have := hc1.1; omega] at this
    clear HRL
    go_upto_region 10 with fail
    refine wp_region_noPanic ?_
    refine wp_region_held_drew (S := (fun W => Below w1.heap.size w1 W)) (by kernel_rfl) (Below.refl _ _).drew (fun hH0 => ?_)
    have hH0 : (fun W => Below w1.heap.size w1 W) w1.drew := hH0
    generalize w1.drew = wd at *
    have hWD : Below w1.heap.size w1 wd := hH0
    refine wpAnyH_take (i := 0) (oi := { dst := some 35, op := Op.move (Operand.tmp 5), type := 22, pos := "ref.go:248", after := #[], guard := none }) (v := ?tkv501) rfl (by kernel_rfl) (by kernel_rfl) (by kernel_rfl) (fun _ _ _ h => h) (Or.inl ⟨by rfl, ?tky501⟩) hH0 ?tkr501
    case tky501 => (intro w' hSw; clear hSw; go_simp; try with_reducible rfl)
    try simp only [Act.put, List.setIfInBounds_toArray, List.set_cons_zero, List.set_cons_succ]
    refine wpAnyH_take (i := 1) (oi := { dst := some 36, op := Op.indexAddr 22 (Operand.tmp 35) (Operand.const (Value.int IntKind.i64 0)), type := 0, pos := "ref.go:248", after := #[{ on := 0, ground := Ground.data }], guard := none }) (v := ?tkv502) rfl (by kernel_rfl) (by kernel_rfl) (by kernel_rfl) (fun _ _ _ h => h) (Or.inl ⟨by rfl, ?tky502⟩) hH0 ?tkr502
    case tky502 => (intro w' hSw; clear hSw; go_simp; try with_reducible rfl)
    try simp only [Act.put, List.setIfInBounds_toArray, List.set_cons_zero, List.set_cons_succ]
    refine wpAnyH_take (i := 2) (oi := { dst := some 37, op := Op.load 5 (Operand.tmp 36), type := 5, pos := "ref.go:248", after := #[{ on := 1, ground := Ground.data }], guard := none }) (v := ?tkv503) rfl (by kernel_rfl) (by kernel_rfl) (by kernel_rfl) (fun _ _ _ h => h) (Or.inl ⟨by rfl, ?tky503⟩) hH0 ?tkr503
    case tky503 => (intro w' hSw; have z0 := HCELL.out _ hSw; clear hSw; go_simp; try with_reducible rfl)
    try simp only [Act.put, List.setIfInBounds_toArray, List.set_cons_zero, List.set_cons_succ]
    refine wpAnyH_take (i := 3) (oi := { dst := some 38, op := Op.convert 5 3 (Operand.tmp 37), type := 3, pos := "ref.go:248", after := #[{ on := 2, ground := Ground.data }], guard := none }) (v := ?tkv504) rfl (by kernel_rfl) (by kernel_rfl) (by kernel_rfl) (fun _ _ _ h => h) (Or.inl ⟨by rfl, ?tky504⟩) hH0 ?tkr504
    case tky504 => (intro w' hSw; have z0 := HCELL.out _ hSw; clear hSw; go_simp; try with_reducible rfl)
    try simp only [Act.put, List.setIfInBounds_toArray, List.set_cons_zero, List.set_cons_succ]
    refine wpAnyH_take (i := 4) (oi := { dst := some 39, op := Op.move (Operand.tmp 5), type := 22, pos := "ref.go:248", after := #[], guard := none }) (v := ?tkv505) rfl (by kernel_rfl) (by kernel_rfl) (by kernel_rfl) (fun _ _ _ h => h) (Or.inl ⟨by rfl, ?tky505⟩) hH0 ?tkr505
    case tky505 => (intro w' hSw; clear hSw; go_simp; try with_reducible rfl)
    try simp only [Act.put, List.setIfInBounds_toArray, List.set_cons_zero, List.set_cons_succ]
    refine wpAnyH_take (i := 5) (oi := { dst := some 40, op := Op.slice 22 (Operand.tmp 39) (some (Operand.const (Value.int IntKind.i64 3))) none none, type := 22, pos := "ref.go:248", after := #[{ on := 4, ground := Ground.data }], guard := none }) (v := ?tkv506) rfl (by kernel_rfl) (by kernel_rfl) (by kernel_rfl) (fun _ _ _ h => h) (Or.inl ⟨by rfl, ?tky506⟩) hH0 ?tkr506
    case tky506 => (intro w' hSw; have z0 := HCELL.out _ hSw; clear hSw; go_simp; try with_reducible rfl)
    try simp only [Act.put, List.setIfInBounds_toArray, List.set_cons_zero, List.set_cons_succ]
    refine wpAnyH_ready (rs := [6]) (by kernel_rfl) (by simp) ?_
    refine AllReadyH.cons (o := { dst := some 41, op := Op.buildSlice 32 1 #[(0, Operand.tmp 40)], type := 32, pos := "ref.go:248", after := #[{ on := 5, ground := Ground.data }], guard := none }) rfl (fun K hK => ?_) AllReadyH.nil
    go_simp
    have hS507 : (fun W => Below w1.heap.size w1 W) (wd.alloc (.cells #[.slice (some ⟨g, 0, none⟩) 0 0] 22)) := (hH0).alloc (hH0).size _
    refine hK.out _ _ hS507 (fun hH507 => ?_)
    clear hK K
    try simp only [Act.put, List.setIfInBounds_toArray, List.set_cons_zero, List.set_cons_succ]
    refine wpAnyH_ready (rs := [7]) (by kernel_rfl) (by simp) ?_
    refine AllReadyH.cons (o := { dst := some 42, op := Op.call { callee := Callee.value (Operand.func 13), args := #[Operand.tmp 41], argTypes := #[32] }, type := 22, pos := "ref.go:248", after := #[{ on := 6, ground := Ground.data }], guard := none }) rfl (fun K hK => ?_) AllReadyH.nil
    go_simp
    refine (join1 0 0 _ ld wd ((HRL2.out.below hWD).more hWD.size) (by omega) wd.heap.size rfl).mono ?_
    rintro e w7 ⟨A7, n7, c7, rfl, hn7, hown7, hb7⟩
    go_wp2_with fail
    have hS508 : (fun W => Below w1.heap.size w1 W) w7 := (hH507).trans (hb7.mono (hH507).size)
    refine hK.out _ _ hS508 (fun hH508 => ?_)
    clear hK K
    try simp only [Act.put, List.setIfInBounds_toArray, List.set_cons_zero, List.set_cons_succ]
    refine wpAnyH_take (i := 8) (oi := { dst := some 2, op := Op.assign (Operand.tmp 38), type := 3, pos := "ref.go:248", after := #[{ on := 3, ground := Ground.data }, { on := 7, ground := Ground.chain }, { on := 0, ground := Ground.phase }, { on := 1, ground := Ground.phase }, { on := 2, ground := Ground.phase }, { on := 3, ground := Ground.phase }, { on := 4, ground := Ground.textOnly Departure.lateStores }, { on := 5, ground := Ground.textOnly Departure.lateStoresUnsure }, { on := 6, ground := Ground.textOnly Departure.lateStores }, { on := 7, ground := Ground.textOnly Departure.lateStoresUnsure }], guard := none }) (v := ?tkv509) rfl (by kernel_rfl) (by kernel_rfl) (by kernel_rfl) (fun _ _ _ h => h) (Or.inl ⟨by rfl, ?tky509⟩) hH508 ?tkr509
    case tky509 => (intro w' hSw; clear hSw; go_simp; try with_reducible rfl)
    try simp only [Act.put, List.setIfInBounds_toArray, List.set_cons_zero, List.set_cons_succ]
    refine wpAnyH_take (i := 9) (oi := { dst := some 3, op := Op.assign (Operand.tmp 42), type := 22, pos := "ref.go:248", after := #[{ on := 7, ground := Ground.data }, { on := 8, ground := Ground.chain }, { on := 0, ground := Ground.phase }, { on := 1, ground := Ground.phase }, { on := 2, ground := Ground.phase }, { on := 3, ground := Ground.phase }, { on := 4, ground := Ground.phase }, { on := 5, ground := Ground.phase }, { on := 6, ground := Ground.phase }, { on := 7, ground := Ground.phase }, { on := 8, ground := Ground.phase }], guard := none }) (v := ?tkv510) rfl (by kernel_rfl) (by kernel_rfl) (by kernel_rfl) (fun _ _ _ h => h) (Or.inl ⟨by rfl, ?tky510⟩) hH508 ?tkr510
    case tky510 => (intro w' hSw; clear hSw; go_simp; try with_reducible rfl)
    try simp only [Act.put, List.setIfInBounds_toArray, List.set_cons_zero, List.set_cons_succ]
    refine wpAnyH_take (i := 10) (oi := { dst := some 4, op := Op.assign (Operand.const (Value.int IntKind.i64 0)), type := 24, pos := "ref.go:248", after := #[{ on := 9, ground := Ground.chain }, { on := 0, ground := Ground.phase }, { on := 1, ground := Ground.phase }, { on := 2, ground := Ground.phase }, { on := 3, ground := Ground.phase }, { on := 4, ground := Ground.phase }, { on := 5, ground := Ground.phase }, { on := 6, ground := Ground.phase }, { on := 7, ground := Ground.phase }, { on := 8, ground := Ground.phase }, { on := 9, ground := Ground.phase }], guard := none }) (v := ?tkv511) rfl (by kernel_rfl) (by kernel_rfl) (by kernel_rfl) (fun _ _ _ h => h) (Or.inl ⟨by rfl, ?tky511⟩) hH508 ?tkr511
    case tky511 => (intro w' hSw; clear hSw; go_simp; try with_reducible rfl)
    try simp only [Act.put, List.setIfInBounds_toArray, List.set_cons_zero, List.set_cons_succ]
    refine wpAnyH_done (by kernel_rfl) ?_ _
    refine NoPanic.normal ?_
    have hEnd : Below w1.heap.size w1 w7 := hH508
    go_wp2_with fail
    go_ret3
    exact ⟨A7, n7, c7, rfl, hn7, Row.of_own hown7, own_cap hown7, HB1.out.trans (hEnd.mono HB1.out.size)⟩
  · have HRL2 : Hid (Row w1 w1.heap.size (some ⟨g, 3, none⟩) (n - 6 - 3) (bv ld)) := by have := HRL.out; rwa [if_neg hc3] at this
    clear HRL
    go_upto_region 10 with fail
    refine wp_region_noPanic ?_
    refine wp_region_held_drew (S := (fun W => Below w1.heap.size w1 W)) (by kernel_rfl) (Below.refl _ _).drew (fun hH0 => ?_)
    have hH0 : (fun W => Below w1.heap.size w1 W) w1.drew := hH0
    generalize w1.drew = wd at *
    have hWD : Below w1.heap.size w1 wd := hH0
    refine wpAnyH_take (i := 0) (oi := { dst := some 35, op := Op.move (Operand.tmp 5), type := 22, pos := "ref.go:248", after := #[], guard := none }) (v := ?tkv601) rfl (by kernel_rfl) (by kernel_rfl) (by kernel_rfl) (fun _ _ _ h => h) (Or.inl ⟨by rfl, ?tky601⟩) hH0 ?tkr601
    case tky601 => (intro w' hSw; clear hSw; go_simp; try with_reducible rfl)
    try simp only [Act.put, List.setIfInBounds_toArray, List.set_cons_zero, List.set_cons_succ]
    refine wpAnyH_take (i := 1) (oi := { dst := some 36, op := Op.indexAddr 22 (Operand.tmp 35) (Operand.const (Value.int IntKind.i64 0)), type := 0, pos := "ref.go:248", after := #[{ on := 0, ground := Ground.data }], guard := none }) (v := ?tkv602) rfl (by kernel_rfl) (by kernel_rfl) (by kernel_rfl) (fun _ _ _ h => h) (Or.inl ⟨by rfl, ?tky602⟩) hH0 ?tkr602
    case tky602 => (intro w' hSw; clear hSw; go_simp; try with_reducible rfl)
    try simp only [Act.put, List.setIfInBounds_toArray, List.set_cons_zero, List.set_cons_succ]
    refine wpAnyH_take (i := 2) (oi := { dst := some 37, op := Op.load 5 (Operand.tmp 36), type := 5, pos := "ref.go:248", after := #[{ on := 1, ground := Ground.data }], guard := none }) (v := ?tkv603) rfl (by kernel_rfl) (by kernel_rfl) (by kernel_rfl) (fun _ _ _ h => h) (Or.inl ⟨by rfl, ?tky603⟩) hH0 ?tkr603
    case tky603 => (intro w' hSw; have z0 := HCELL.out _ hSw; clear hSw; go_simp; try with_reducible rfl)
    try simp only [Act.put, List.setIfInBounds_toArray, List.set_cons_zero, List.set_cons_succ]
    refine wpAnyH_take (i := 3) (oi := { dst := some 38, op := Op.convert 5 3 (Operand.tmp 37), type := 3, pos := "ref.go:248", after := #[{ on := 2, ground := Ground.data }], guard := none }) (v := ?tkv604) rfl (by kernel_rfl) (by kernel_rfl) (by kernel_rfl) (fun _ _ _ h => h) (Or.inl ⟨by rfl, ?tky604⟩) hH0 ?tkr604
    case tky604 => (intro w' hSw; have z0 := HCELL.out _ hSw; clear hSw; go_simp; try with_reducible rfl)
    try simp only [Act.put, List.setIfInBounds_toArray, List.set_cons_zero, List.set_cons_succ]
    refine wpAnyH_take (i := 4) (oi := { dst := some 39, op := Op.move (Operand.tmp 5), type := 22, pos := "ref.go:248", after := #[], guard := none }) (v := ?tkv605) rfl (by kernel_rfl) (by kernel_rfl) (by kernel_rfl) (fun _ _ _ h => h) (Or.inl ⟨by rfl, ?tky605⟩) hH0 ?tkr605
    case tky605 => (intro w' hSw; clear hSw; go_simp; try with_reducible rfl)
    try simp only [Act.put, List.setIfInBounds_toArray, List.set_cons_zero, List.set_cons_succ]
    refine wpAnyH_take (i := 5) (oi := { dst := some 40, op := Op.slice 22 (Operand.tmp 39) (some (Operand.const (Value.int IntKind.i64 3))) none none, type := 22, pos := "ref.go:248", after := #[{ on := 4, ground := Ground.data }], guard := none }) (v := ?tkv606) rfl (by kernel_rfl) (by kernel_rfl) (by kernel_rfl) (fun _ _ _ h => h) (Or.inl ⟨by rfl, ?tky606⟩) hH0 ?tkr606
    case tky606 => (intro w' hSw; have z0 := HCELL.out _ hSw; clear hSw; go_simp; try with_reducible rfl)
    try simp only [Act.put, List.setIfInBounds_toArray, List.set_cons_zero, List.set_cons_succ]
    refine wpAnyH_ready (rs := [6]) (by kernel_rfl) (by simp) ?_
    refine AllReadyH.cons (o := { dst := some 41, op := Op.buildSlice 32 1 #[(0, Operand.tmp 40)], type := 32, pos := "ref.go:248", after := #[{ on := 5, ground := Ground.data }], guard := none }) rfl (fun K hK => ?_) AllReadyH.nil
    go_simp
    have hS607 : (fun W => Below w1.heap.size w1 W) (wd.alloc (.cells #[.slice (some ⟨g, 3, none⟩) (n - 6 - 3) (c1 - 3)] 22)) := (hH0).alloc (hH0).size _
    refine hK.out _ _ hS607 (fun hH607 => ?_)
    clear hK K
    try simp only [Act.put, List.setIfInBounds_toArray, List.set_cons_zero, List.set_cons_succ]
    refine wpAnyH_ready (rs := [7]) (by kernel_rfl) (by simp) ?_
    refine AllReadyH.cons (o := { dst := some 42, op := Op.call { callee := Callee.value (Operand.func 13), args := #[Operand.tmp 41], argTypes := #[32] }, type := 22, pos := "ref.go:248", after := #[{ on := 6, ground := Ground.data }], guard := none }) rfl (fun K hK => ?_) AllReadyH.nil
    go_simp
    refine (join1 (n - 6 - 3) (c1 - 3) _ ld wd ((HRL2.out.below hWD).more hWD.size) (by omega) wd.heap.size rfl).mono ?_
    rintro e w7 ⟨A7, n7, c7, rfl, hn7, hown7, hb7⟩
    go_wp2_with fail
    have hS608 : (fun W => Below w1.heap.size w1 W) w7 := (hH607).trans (hb7.mono (hH607).size)
    refine hK.out _ _ hS608 (fun hH608 => ?_)
    clear hK K
    try simp only [Act.put, List.setIfInBounds_toArray, List.set_cons_zero, List.set_cons_succ]
    refine wpAnyH_take (i := 8) (oi := { dst := some 2, op := Op.assign (Operand.tmp 38), type := 3, pos := "ref.go:248", after := #[{ on := 3, ground := Ground.data }, { on := 7, ground := Ground.chain }, { on := 0, ground := Ground.phase }, { on := 1, ground := Ground.phase }, { on := 2, ground := Ground.phase }, { on := 3, ground := Ground.phase }, { on := 4, ground := Ground.textOnly Departure.lateStores }, { on := 5, ground := Ground.textOnly Departure.lateStoresUnsure }, { on := 6, ground := Ground.textOnly Departure.lateStores }, { on := 7, ground := Ground.textOnly Departure.lateStoresUnsure }], guard := none }) (v := ?tkv609) rfl (by kernel_rfl) (by kernel_rfl) (by kernel_rfl) (fun _ _ _ h => h) (Or.inl ⟨by rfl, ?tky609⟩) hH608 ?tkr609
    case tky609 => (intro w' hSw; clear hSw; go_simp; try with_reducible rfl)
    try simp only [Act.put, List.setIfInBounds_toArray, List.set_cons_zero, List.set_cons_succ]
    refine wpAnyH_take (i := 9) (oi := { dst := some 3, op := Op.assign (Operand.tmp 42), type := 22, pos := "ref.go:248", after := #[{ on := 7, ground := Ground.data }, { on := 8, ground := Ground.chain }, { on := 0, ground := Ground.phase }, { on := 1, ground := Ground.phase }, { on := 2, ground := Ground.phase }, { on := 3, ground := Ground.phase }, { on := 4, ground := Ground.phase }, { on := 5, ground := Ground.phase }, { on := 6, ground := Ground.phase }, { on := 7, ground := Ground.phase }, { on := 8, ground := Ground.phase }], guard := none }) (v := ?tkv610) rfl (by kernel_rfl) (by kernel_rfl) (by kernel_rfl) (fun _ _ _ h => h) (Or.inl ⟨by rfl, ?tky610⟩) hH608 ?tkr610
    case tky610 => (intro w' hSw; clear hSw; go_simp; try with_reducible rfl)
    try simp only [Act.put, List.setIfInBounds_toArray, List.set_cons_zero, List.set_cons_succ]
    refine wpAnyH_take (i := 10) (oi := { dst := some 4, op := Op.assign (Operand.const (Value.int IntKind.i64 0)), type := 24, pos := "ref.go:248", after := #[{ on := 9, ground := Ground.chain }, { on := 0, ground := Ground.phase }, { on := 1, ground := Ground.phase }, { on := 2, ground := Ground.phase }, { on := 3, ground := Ground.phase }, { on := 4, ground := Ground.phase }, { on := 5, ground := Ground.phase }, { on := 6, ground := Ground.phase }, { on := 7, ground := Ground.phase }, { on := 8, ground := Ground.phase }, { on := 9, ground := Ground.phase }], guard := none }) (v := ?tkv611) rfl (by kernel_rfl) (by kernel_rfl) (by kernel_rfl) (fun _ _ _ h => h) (Or.inl ⟨by rfl, ?tky611⟩) hH608 ?tkr611
    case tky611 => (intro w' hSw; clear hSw; go_simp; try with_reducible rfl)
    try simp only [Act.put, List.setIfInBounds_toArray, List.set_cons_zero, List.set_cons_succ]
    refine wpAnyH_done (by kernel_rfl) ?_ _
    refine NoPanic.normal ?_
    have hEnd : Below w1.heap.size w1 w7 := hH608
    go_wp2_with fail
    go_ret3
    exact ⟨A7, n7, c7, rfl, hn7, Row.of_own hown7, own_cap hown7, HB1.out.trans (hEnd.mono HB1.out.size)⟩
end Go.Proofs.Ytghadeingmccfaa
