/- ManifestKeys' walk. -/
import Derived.Test.YtofkopjjgdfliaaDoorManSp
namespace Go.Proofs.YtofkopjjgdfliaaDoor
open Go.RowKit
open Sh
theorem par_len (key : List UInt8) {l : List UInt8} (h : l.length ≠ 76) : parE key l = 3 := by unfold parE; rw [if_neg h]
theorem or8 {a b L : Nat} (ha : a ≤ 2) (hb : b < 256) (h : a * 256 + b = L) : bits .or .i64 ((a : Int) * 256) (b : Int) = (L : Int) := by
  have k : ∀ a : Nat, a < 3 → ∀ b : Nat, b < 256 → bits .or .i64 ((a : Int) * 256) (b : Int) = ((a * 256 + b : Nat) : Int) := by decide +kernel
  rw [k a (by omega) b hb, h]
theorem keys_at {s v L Z P : Nat} {h t : List UInt8} (hL : L ≤ 512) (hZ : Z ≤ 16) (hP : P ≤ 16) :
    (bv (plainB s v L Z P h ++ t))[3]? = some (.int .u8 (IntKind.u8.wrap (s : Int))) ∧ (bv (plainB s v L Z P h ++ t))[7]? = some (.int .u8 (IntKind.u8.wrap (v : Int))) ∧ (bv (plainB s v L Z P h ++ t))[8]? = some (.int .u8 ((L / 256 : Nat) : Int)) ∧ (bv (plainB s v L Z P h ++ t))[9]? = some (.int .u8 ((L % 256 : Nat) : Int)) ∧ (bv (plainB s v L Z P h ++ t))[10]? = some (.int .u8 (Z : Int)) ∧ (bv (plainB s v L Z P h ++ t))[11]? = some (.int .u8 (P : Int)) := by
  have e1 : L / 256 % 256 = L / 256 := by omega
  have e2 : Z % 256 = Z := by omega
  have e3 : P % 256 = P := by omega
  have w : ∀ x : Nat, IntKind.u8.wrap (x : Int) = ((x % 256 : Nat) : Int) := fun x => by rw [IntKind.wrap_u8]; omega
  refine ⟨?_, ?_, ?_, ?_, ?_, ?_⟩ <;> simp [bv, plainB, CrcM.four, w, e1, e2, e3]
theorem keys_drop {s v L Z P : Nat} {h t : List UInt8} (hh : h.length = 32) : ((plainB s v L Z P h ++ t).drop 12).take 32 = h := by
  have : (plainB s v L Z P h ++ t).drop 12 = h ++ t := by simp [plainB, CrcM.four]
  rw [this, List.take_append_of_le_length (by omega), List.take_of_length_le (by omega)]
set_option maxRecDepth 100000 in
set_option maxHeartbeats 3200000 in
theorem manKeys_walk (s v : Nat) (l z p : Int) (A : Option Addr) (n c : Nat) (d : List UInt8) (KA : Option Addr) (kn kc : Nat) (key : List UInt8) (cut : Int) (w : World) (ht : Tab w) (hr : Row w w.heap.size A n (bv d)) (hnc : n ≤ c) (hs32 : s < 4294967296) (hv32 : v < 4294967296) (hk : Row w w.heap.size KA kn (bv key)) (hkc : kn ≤ kc) :
    Calls Tryd.prog 6 #[.agg #[.int .u32 (s : Int), .int .u32 (v : Int), .int .i64 l, .int .i64 z, .int .i64 p, .slice A n c], .slice KA kn kc, .int .i64 cut] w fun e w' => e = .returned (.bool true) ∧ Below w.heap.size w w' := by
  obtain ⟨i0, hi, hz0, hz1, hz2⟩ := info_parts Tryd.info5
  have hs := man_in (s := s) (v := v) (l := l) (z := z) (p := p) (c := c) hr
  have hlen := hr.blen
  have HT := Lib.hid ht
  have HK := Lib.hid hk
  have HR := Lib.hid hr
  have HWM : Hid ((⟨s, v, l, z, p, d⟩ : LMan).w32) := Lib.hid ⟨hs32, hv32⟩
  have e0 := ((Env.start w).addMan hs).alloc #[.int .u32 (s : Int), .int .u32 (v : Int), .int .i64 l, .int .i64 z, .int .i64 p, .slice A n c] 25
  have E0 := Lib.hid e0
  have k5 := e0.cell (.head _) 5
  have IN : Hid ((Tryd.prog.info? 25).map (·.size) = some (#[.int .u32 (s : Int), .int .u32 (v : Int), .int .i64 l, .int .i64 z, .int .i64 p, .slice A n c] : Array Value).size) := Lib.hid (by kernel_rfl)
  clear e0 hs ht hk hr hs32 hv32
  by_cases h100 : 100 < n
  · go_enter Tryd.func6, Tryd.ntmps6
    go_wp2_with fail
    generalize w.alloc (.cells #[.int .u32 (s : Int), .int .u32 (v : Int), .int .i64 l, .int .i64 z, .int .i64 p, .slice A n c] 25) = w0 at *
    refine (awake14_any _ (HT.out.below E0.out.b HT.out.1)).mono ?_
    rintro e wz ⟨rfl, hbz⟩
    have hb := (E0.out.below hbz).b
    go_wp2_with fail
    go_ret
    exact ⟨rfl, hb⟩
  have q1 : decide ((100 : Int) < (n : Int)) = false := by simp; omega
  have q1b : ¬ (100 : Int) < (n : Int) := by omega
  by_cases h200 : 200 < kn
  · go_enter Tryd.func6, Tryd.ntmps6
    go_wp2_with fail
    generalize w.alloc (.cells #[.int .u32 (s : Int), .int .u32 (v : Int), .int .i64 l, .int .i64 z, .int .i64 p, .slice A n c] 25) = w0 at *
    refine (awake14_any _ (HT.out.below E0.out.b HT.out.1)).mono ?_
    rintro e wz ⟨rfl, hbz⟩
    have hb := (E0.out.below hbz).b
    go_wp2_with fail
    go_ret
    exact ⟨rfl, hb⟩
  have q2 : decide ((200 : Int) < (kn : Int)) = false := by simp; omega
  have q2b : ¬ (200 : Int) < (kn : Int) := by omega
  cases hmay : (⟨s, v, l, z, p, d⟩ : LMan).may with
  | false =>
    go_enter Tryd.func6, Tryd.ntmps6
    go_wp2_with ((with_reducible show wpList _ _ _ _ _ _); refine wpList_load_rowG (o := ⟨some 23, _, _, _, _, _⟩) (by rfl) _ (.tmp 3) rfl w.heap.size rfl _ _ _ _ (E0.out.bx _ _ _ (.head _)) Tryd.underlying25 rfl IN.out ?_)
    generalize w.alloc (.cells #[.int .u32 (s : Int), .int .u32 (v : Int), .int .i64 l, .int .i64 z, .int .i64 p, .slice A n c] 25) = w0 at *
    refine (mayM (E0.out.mn _ _ (.head _))).mono ?_
    rintro e w1 ⟨rfl, hb1⟩
    rw [hmay]
    have E1 := Lib.hid (E0.out.below hb1)
    clear hb1 E0 hmay k5
    go_wp2_with fail
    refine (awake14_any _ (HT.out.below E1.out.b HT.out.1)).mono ?_
    rintro e wz ⟨rfl, hbz⟩
    have hb := (E1.out.below hbz).b
    go_wp2_with fail
    go_ret
    exact ⟨rfl, hb⟩
  | true =>
    have hu : 0 ≤ IntKind.u64.wrap cut := by rw [IntKind.wrap_u64]; omega
    obtain ⟨J, hJ⟩ : ∃ J : Nat, (IntKind.u64.wrap cut) % 76 = (J : Int) := ⟨((IntKind.u64.wrap cut) % 76).toNat, by omega⟩
    have hJ76 : J < 76 := by omega
    have HJ : Hid ((IntKind.u64.wrap cut).tmod 76 = (J : Int)) := Lib.hid (by rw [Int.tmod_eq_emod_of_nonneg hu]; exact hJ)
    have HJ2 := Lib.hid hJ
    have eJ : IntKind.i64.wrap (J : Int) = (J : Int) := IntWalk.i64_in _ (by omega)
    clear hu hJ
    have h32 : d.length = 32 := may_32 hmay
    obtain ⟨L, Z, P, e1, e2, e3, h1, h2, h3, h4, h5, h6⟩ := man_bounds hmay
    dsimp only at e1 e2 e3
    subst e1 e2 e3
    obtain rfl : n = 32 := by omega
    have HM := Lib.hid hmay
    have HD := Lib.hid h32
    have HLB := Lib.hid h2
    have HZB := Lib.hid h4
    have HPB := Lib.hid h5
    obtain ⟨x8, hx8⟩ : ∃ x, x = L / 256 := ⟨_, rfl⟩
    obtain ⟨x9, hx9⟩ : ∃ x, x = L % 256 := ⟨_, rfl⟩
    have HX8 := Lib.hid hx8
    have HX9 := Lib.hid hx9
    have b8 : x8 ≤ 2 := by omega
    have b9 : x9 < 256 := by omega
    have e8 : IntKind.i64.wrap (x8 : Int) = (x8 : Int) := IntWalk.i64_in _ (by omega)
    have e8b : IntKind.i64.wrap ((x8 : Int) * 256) = (x8 : Int) * 256 := IntWalk.i64_in _ (by omega)
    have e9 : IntKind.i64.wrap (x9 : Int) = (x9 : Int) := IntWalk.i64_in _ (by omega)
    have eZ : IntKind.i64.wrap (Z : Int) = (Z : Int) := IntWalk.i64_in _ (by omega)
    have eP : IntKind.i64.wrap (P : Int) = (P : Int) := IntWalk.i64_in _ (by omega)
    have eor : bits .or .i64 ((x8 : Int) * 256) (x9 : Int) = (L : Int) := or8 b8 b9 (by omega)
    clear hx8 hx9 hmay h32 hlen h6
    go_enter Tryd.func6, Tryd.ntmps6
    go_wp2_with ((with_reducible show wpList _ _ _ _ _ _); refine wpList_load_rowG (o := ⟨some 23, _, _, _, _, _⟩) (by rfl) _ (.tmp 3) rfl w.heap.size rfl _ _ _ _ (E0.out.bx _ _ _ (.head _)) Tryd.underlying25 rfl IN.out ?_)
    generalize w.alloc (.cells #[.int .u32 (s : Int), .int .u32 (v : Int), .int .i64 (L : Int), .int .i64 (Z : Int), .int .i64 (P : Int), .slice A 32 c] 25) = w0 at *
    refine (mayM (E0.out.mn _ _ (.head _))).mono ?_
    rintro e w1 ⟨rfl, hb1⟩
    rw [HM.out]
    have E1 := Lib.hid (E0.out.below hb1)
    clear hb1 E0
    go_wp2_with ((with_reducible show wpList _ _ _ _ _ _); refine wpList_load_row (o := ⟨some 30, _, _, _, _, _⟩) rfl _ (.tmp 3) rfl w.heap.size rfl _ _ _ _ (E1.out.bx _ _ _ (.head _)) Tryd.underlying25 rfl IN.out ?_)
    refine (manBytes_yes KA kn kc key (HT.out.below E1.out.b HT.out.1) ((HK.out.below E1.out.b).more E1.out.b.size) (by omega) (E1.out.mn _ _ (.head _)) HM.out HWM.out).mono ?_
    rintro e w3 ⟨A5, c5, rfl, O5, hb5⟩
    obtain ⟨b5, o5, rfl, _⟩ := (Row.of_own O5.out).2 (by omega)
    have C5 := own_cap O5.out
    have HC5 := Lib.hid C5
    have E3 := Lib.hid (E1.out.below hb5.out)
    have R5 := Lib.hid (Row.of_own O5.out)
    obtain ⟨T, hT⟩ : ∃ T, (⟨s, v, (L : Int), (Z : Int), (P : Int), d⟩ : LMan).bytes ++ tagOf key (⟨s, v, (L : Int), (Z : Int), (P : Int), d⟩ : LMan).bytes = T := ⟨_, rfl⟩
    rw [hT] at R5
    have HTL : Hid (T.length = 76) := Lib.hid (by have := R5.out.1; rwa [bv_length] at this)
    have HTT := Lib.hid hT
    have qJ : (J : Int) ≤ c5 := by omega
    have q12 : (12 : Int) ≤ c5 := by omega
    have q44 : (44 : Int) ≤ c5 := by omega
    have n12 : ¬ (c5 : Int) = 12 := by omega
    have m12 : ¬ c5 = 12 := by omega
    clear O5 hb5 E1 C5 k5 hT
    go_wp2_with (first | rw [HJ.out] | rw [HJ2.out])
    refine (manPar_len kn kc KA key (some ⟨b5, o5, none⟩) _ _ (T.take J) w3 (by have := HTL.out; simp; omega) (by omega)).mono ?_
    rintro e w7 ⟨cs9, rfl, S7, hb7⟩
    rw [par_len key (by have := HTL.out; simp; omega)]
    have I9 := Lib.hid S7.out.inf
    have O9 := Lib.hid S7.out.one
    have Z9 : Hid (6 = cs9.size) := Lib.hid S7.out.size.symm
    have ba : Below w3.heap.size w3 (w7.alloc (.cells cs9 25)) := hb7.out.alloc hb7.out.size _
    have E7 := Lib.hid (((E3.out.below hb7.out).addMan S7.out).alloc cs9 25)
    have R7 := Lib.hid ((R5.out.below ba).more ba.size)
    clear hb7 S7 E3 R5 ba
    go_upto_region 7 with ((with_reducible show wpList _ _ _ _ _ _); refine wpList_store_new rfl rfl _ (.tmp 9) (.tmp 50) rfl _ _ cs9 _ rfl rfl I9.out Z9.out O9.out ?_)
    generalize w7.alloc (.cells cs9 25) = w8 at *
    generalize w7.heap.size = b9 at *
    have b4 : Below w8.heap.size w8 (w8.alloc (.cells #[] 5)) := (Below.refl _ _).alloc (Nat.le_refl _) _
    have RA := Lib.hid (R7.out.below b4)
    have OA : Hid ((w8.alloc (.cells #[] 5)).ownsRow w8.heap.size 5 1 (.slice (some ⟨w8.heap.size, 0, none⟩) 0 0) 0 (bv [])) := Lib.hid (own_lit #[] rfl (Nat.le_refl _) rfl (by unfold maxLen; omega))
    clear b4
    go_wp2_with (first
      | (at_builtin; go_loud (refine wpList_app rfl (.tmp 54) (.tmp 55) 23 rfl w8.heap.size 5 i0 (.int .u8 0) 1 Tryd.underlying23 hi hz0 hz1 hz2 rfl _ 0 (bv []) rfl OA.out w8.heap.size (some ⟨b5, o5, none⟩) 76 c5 (bv T) rfl RA.out (bv_one _) (by unfold maxLen; omega) (by omega) (by simp) ?_; intro v6 w6 hown6 hg6 hat6; rw [Nat.zero_add] at hown6; obtain ⟨A6, c6, rfl, _⟩ := own_slice hown6; have HW6 := Lib.hid (below_app ((Below.refl _ _).alloc (Nat.le_refl _) _) (by simp) OA.out (Nat.le_refl _) hg6); have O6 := Lib.hid hown6; clear hown6 hg6 hat6 OA RA))
      | (at_builtin; go_loud (refine wpList_app rfl (.tmp 56) (.tmp 57) 23 rfl w8.heap.size 5 i0 (.int .u8 0) 1 Tryd.underlying23 hi hz0 hz1 hz2 rfl _ 76 (bv [] ++ bv T) rfl (O6.out.alloc _) _ _ 1 1 _ rfl (row_new w6 _ _ _) (by intro u hu; simp at hu; subst hu; rfl) (by unfold maxLen; omega) (by omega) (by have := HW6.out.size; simp; omega) ?_; intro v7 wA hown7 hg7 hat7; obtain ⟨A7, c7, rfl, _⟩ := own_slice hown7; have HW7 := Lib.hid (below_app (HW6.out.alloc HW6.out.size _) (by have := HW6.out.size; simp; omega) (O6.out.alloc _) (Nat.le_refl _) hg7); clear hown7 hg7 hat7)))
    refine (manPar_len kn kc KA key A7 _ _ (T ++ [0]) wA (by simp [HTL.out]) (by omega)).mono ?_
    rintro e wP ⟨cs11, rfl, SP, hbP⟩
    rw [par_len key (by simp [HTL.out])]
    have I11 := Lib.hid SP.out.inf
    have O11 := Lib.hid SP.out.one
    have Z11 : Hid (6 = cs11.size) := Lib.hid SP.out.size.symm
    have ba : Below w8.heap.size w8 (wP.alloc (.cells cs11 25)) := (HW7.out.trans (hbP.out.mono HW7.out.size)).alloc (Nat.le_trans HW7.out.size hbP.out.size) _
    have EB := Lib.hid (E7.out.below ba)
    have RB := Lib.hid ((R7.out.below ba).more ba.size)
    clear hbP SP E7 R7 ba HW7 HW6 O6
    go_upto_region 8 with ((with_reducible show wpList _ _ _ _ _ _); refine wpList_store_new rfl rfl _ (.tmp 11) (.tmp 60) rfl _ _ cs11 _ rfl rfl I11.out Z11.out O11.out ?_)
    generalize wP.alloc (.cells cs11 25) = wB at *
    generalize wP.heap.size = b11 at *
    have HB8 : Hid (∀ W, Below wB.heap.size wB W → Below w.heap.size w W) := Lib.hid fun W hW => EB.out.b.trans (hW.mono EB.out.b.size)
    have HX : Hid (∀ W, Below wB.heap.size wB W → W.cell? ⟨w.heap.size, 0, none⟩ = some (.int .u32 (s : Int)) ∧ W.cell? ⟨w.heap.size, 1, none⟩ = some (.int .u32 (v : Int)) ∧ W.cell? ⟨w.heap.size, 2, none⟩ = some (.int .i64 (L : Int)) ∧ W.cell? ⟨w.heap.size, 3, none⟩ = some (.int .i64 (Z : Int)) ∧ W.cell? ⟨w.heap.size, 4, none⟩ = some (.int .i64 (P : Int)) ∧ W.cell? ⟨w.heap.size, 5, none⟩ = some (.slice A 32 c)) := Lib.hid fun W hW =>
      have e := (EB.out.below hW)
      ⟨e.cell (.tail _ (.head _)) 0, e.cell (.tail _ (.head _)) 1, e.cell (.tail _ (.head _)) 2, e.cell (.tail _ (.head _)) 3, e.cell (.tail _ (.head _)) 4, e.cell (.tail _ (.head _)) 5⟩
    have HC : Hid (∀ W, Below wB.heap.size wB W → W.cell? ⟨b5, o5 + 3, none⟩ = some (.int .u8 (IntKind.u8.wrap (s : Int))) ∧ W.cell? ⟨b5, o5 + 7, none⟩ = some (.int .u8 (IntKind.u8.wrap (v : Int))) ∧ W.cell? ⟨b5, o5 + 8, none⟩ = some (.int .u8 (x8 : Int)) ∧ W.cell? ⟨b5, o5 + 9, none⟩ = some (.int .u8 (x9 : Int)) ∧ W.cell? ⟨b5, o5 + 10, none⟩ = some (.int .u8 (Z : Int)) ∧ W.cell? ⟨b5, o5 + 11, none⟩ = some (.int .u8 (P : Int))) := Lib.hid fun W hW => by
      obtain ⟨b', o', e, _, hc⟩ := (RB.out.below hW).2 (by omega)
      injection e with e; injection e with e1 e3; subst e1 e3
      obtain ⟨g3, g7, g8, g9, g10, g11⟩ := keys_at (s := s) (v := v) (h := d) (t := tagOf key (⟨s, v, (L : Int), (Z : Int), (P : Int), d⟩ : LMan).bytes) HLB.out HZB.out HPB.out
      rw [show plainB s v L Z P d ++ tagOf key (⟨s, v, (L : Int), (Z : Int), (P : Int), d⟩ : LMan).bytes = T from HTT.out] at g3 g7 g8 g9 g10 g11
      rw [HX8.out, HX9.out]
      exact ⟨hc _ _ g3, hc _ _ g7, hc _ _ g8, hc _ _ g9, hc _ _ g10, hc _ _ g11⟩
    have R12 : Hid (Row wB wB.heap.size (some ⟨b5, o5 + 12, none⟩) 32 (bv d)) := Lib.hid (by
      have e : bv d = ((bv T).drop 12).take 32 := by
        rw [bv_drop, bv_take, ← HTT.out]
        show bv d = bv (((plainB s v L Z P d ++ tagOf key (⟨s, v, (L : Int), (Z : Int), (P : Int), d⟩ : LMan).bytes).drop 12).take 32)
        rw [keys_drop HD.out]
      rw [e]
      exact RB.out.sub (by omega) fun b' o' e _ => by injection e with e; injection e with e1 e2; subst e1 e2; rfl)
    have HRD := Lib.hid ((HR.out.below EB.out.b).more EB.out.b.size)
    have HS1 : Hid (∀ W, Below wB.heap.size wB W → ∀ c', (convert 23 9 (.slice (some ⟨b5, o5 + 12, none⟩) 32 c')).run Tryd.prog W = .ok (.string ⟨(d).toArray⟩) W) := Lib.hid fun W hW c' => run_string_row (P := Tryd.prog) (show Row W _ (some ⟨b5, o5 + 12, none⟩) 32 (bv d) from R12.out.below hW) c' 23 9 5 Tryd.underlying23 Tryd.underlying5 Tryd.underlying9
    have HS2 : Hid (∀ W, Below wB.heap.size wB W → (convert 23 9 (.slice A 32 c)).run Tryd.prog W = .ok (.string ⟨(d).toArray⟩) W) := Lib.hid fun W hW => run_string_row (P := Tryd.prog) (show Row W _ A 32 (bv d) from HRD.out.below hW) c 23 9 5 Tryd.underlying23 Tryd.underlying5 Tryd.underlying9
    clear EB RB R12 HRD
    refine wp_region_noPanic ?_
    refine wp_region_held_drew (S := (fun W => Below (wB.heap.size) wB W)) (by kernel_rfl) (Below.refl _ _).drew (fun hH0 => ?_)
    have hH0 : Below (wB.heap.size) wB wB.drew := hH0
    generalize wB.drew = wd3000 at *
    refine wpAnyH_take (i := 0) (oi := { dst := some 62, op := Op.move (Operand.tmp 10), type := 27, pos := "more.go:21", after := #[], guard := none }) (v := ?tkv3001) rfl (by kernel_rfl) (by kernel_rfl) (by kernel_rfl) (fun _ _ _ h => h) (Or.inl ⟨by rfl, ?tky3001⟩) hH0 ?tkr3001
    case tky3001 => (intro w' hSw; clear hSw; go_simp; try with_reducible rfl)
    try simp only [Act.put, List.setIfInBounds_toArray, List.set_cons_zero, List.set_cons_succ]
    refine wpAnyH_take (i := 1) (oi := { dst := some 63, op := Op.binOp BinOp.eql 27 (Operand.tmp 62) (Operand.const (Value.int IntKind.i64 3)) 27, type := 4, pos := "more.go:21", after := #[{ on := 0, ground := Ground.data }], guard := none }) (v := ?tkv3002) rfl (by kernel_rfl) (by kernel_rfl) (by kernel_rfl) (fun _ _ _ h => h) (Or.inl ⟨by rfl, ?tky3002⟩) hH0 ?tkr3002
    case tky3002 => (intro w' hSw; clear hSw; go_simp; try with_reducible rfl)
    try simp only [Act.put, List.setIfInBounds_toArray, List.set_cons_zero, List.set_cons_succ]
    refine wpAnyH_take (i := 2) (oi := { dst := some 64, op := Op.move (Operand.tmp 63), type := 4, pos := "more.go:21", after := #[{ on := 1, ground := Ground.data }], guard := none }) (v := ?tkv3003) rfl (by kernel_rfl) (by kernel_rfl) (by kernel_rfl) (fun _ _ _ h => h) (Or.inl ⟨by rfl, ?tky3003⟩) hH0 ?tkr3003
    case tky3003 => (intro w' hSw; clear hSw; go_simp; try with_reducible rfl)
    try simp only [Act.put, List.setIfInBounds_toArray, List.set_cons_zero, List.set_cons_succ]
    refine wpAnyH_take (i := 3) (oi := { dst := some 65, op := Op.move (Operand.tmp 12), type := 27, pos := "more.go:21", after := #[{ on := 2, ground := Ground.guard }], guard := some (2, true) }) (v := ?tkv3004) rfl (by kernel_rfl) (by kernel_rfl) (by kernel_rfl) (fun _ _ _ h => h) (Or.inl ⟨by rfl, ?tky3004⟩) hH0 ?tkr3004
    case tky3004 => (intro w' hSw; clear hSw; go_simp; try with_reducible rfl)
    try simp only [Act.put, List.setIfInBounds_toArray, List.set_cons_zero, List.set_cons_succ]
    refine wpAnyH_take (i := 4) (oi := { dst := some 66, op := Op.binOp BinOp.eql 27 (Operand.tmp 65) (Operand.const (Value.int IntKind.i64 3)) 27, type := 4, pos := "more.go:21", after := #[{ on := 3, ground := Ground.data }, { on := 2, ground := Ground.guard }], guard := some (2, true) }) (v := ?tkv3005) rfl (by kernel_rfl) (by kernel_rfl) (by kernel_rfl) (fun _ _ _ h => h) (Or.inl ⟨by rfl, ?tky3005⟩) hH0 ?tkr3005
    case tky3005 => (intro w' hSw; clear hSw; go_simp; try with_reducible rfl)
    try simp only [Act.put, List.setIfInBounds_toArray, List.set_cons_zero, List.set_cons_succ]
    refine wpAnyH_take (i := 5) (oi := { dst := some 67, op := Op.pick (Operand.tmp 64) (Operand.tmp 66) (Operand.const (Value.bool false)), type := 4, pos := "more.go:21", after := #[{ on := 2, ground := Ground.data }, { on := 4, ground := Ground.data }], guard := none }) (v := ?tkv3006) rfl (by kernel_rfl) (by kernel_rfl) (by kernel_rfl) (fun _ _ _ h => h) (Or.inl ⟨by rfl, ?tky3006⟩) hH0 ?tkr3006
    case tky3006 => (intro w' hSw; clear hSw; go_simp; try with_reducible rfl)
    try simp only [Act.put, List.setIfInBounds_toArray, List.set_cons_zero, List.set_cons_succ]
    refine wpAnyH_take (i := 6) (oi := { dst := some 68, op := Op.move (Operand.tmp 67), type := 4, pos := "more.go:21", after := #[{ on := 5, ground := Ground.data }, { on := 2, ground := Ground.chain }], guard := none }) (v := ?tkv3007) rfl (by kernel_rfl) (by kernel_rfl) (by kernel_rfl) (fun _ _ _ h => h) (Or.inl ⟨by rfl, ?tky3007⟩) hH0 ?tkr3007
    case tky3007 => (intro w' hSw; clear hSw; go_simp; try with_reducible rfl)
    try simp only [Act.put, List.setIfInBounds_toArray, List.set_cons_zero, List.set_cons_succ]
    refine wpAnyH_take (i := 7) (oi := { dst := some 69, op := Op.move (Operand.tmp 7), type := 23, pos := "more.go:21", after := #[{ on := 6, ground := Ground.guard }], guard := some (6, true) }) (v := ?tkv3008) rfl (by kernel_rfl) (by kernel_rfl) (by kernel_rfl) (fun _ _ _ h => h) (Or.inl ⟨by rfl, ?tky3008⟩) hH0 ?tkr3008
    case tky3008 => (intro w' hSw; clear hSw; go_simp; try with_reducible rfl)
    try simp only [Act.put, List.setIfInBounds_toArray, List.set_cons_zero, List.set_cons_succ]
    refine wpAnyH_take (i := 8) (oi := { dst := some 70, op := Op.indexAddr 23 (Operand.tmp 69) (Operand.const (Value.int IntKind.i64 3)), type := 0, pos := "more.go:21", after := #[{ on := 7, ground := Ground.data }, { on := 6, ground := Ground.guard }], guard := some (6, true) }) (v := ?tkv3009) rfl (by kernel_rfl) (by kernel_rfl) (by kernel_rfl) (fun _ _ _ h => h) (Or.inl ⟨by rfl, ?tky3009⟩) hH0 ?tkr3009
    case tky3009 => (intro w' hSw; clear hSw; go_simp; try with_reducible rfl)
    try simp only [Act.put, List.setIfInBounds_toArray, List.set_cons_zero, List.set_cons_succ]
    refine wpAnyH_take (i := 9) (oi := { dst := some 71, op := Op.load 5 (Operand.tmp 70), type := 5, pos := "more.go:21", after := #[{ on := 8, ground := Ground.data }, { on := 6, ground := Ground.guard }], guard := some (6, true) }) (v := ?tkv3010) rfl (by kernel_rfl) (by kernel_rfl) (by kernel_rfl) (fun _ _ _ h => h) (Or.inl ⟨by rfl, ?tky3010⟩) hH0 ?tkr3010
    case tky3010 => (intro w' hSw; have z0 := HC.out _ hSw; have z1 := HX.out _ hSw; have z2 := HS1.out _ hSw; have z3 := HS2.out _ hSw; clear hSw; go_simp; try with_reducible rfl)
    try simp only [Act.put, List.setIfInBounds_toArray, List.set_cons_zero, List.set_cons_succ]
    refine wpAnyH_take (i := 10) (oi := { dst := some 72, op := Op.fieldAddr 25 (Operand.tmp 3) 0, type := 0, pos := "more.go:21", after := #[{ on := 6, ground := Ground.guard }], guard := some (6, true) }) (v := ?tkv3011) rfl (by kernel_rfl) (by kernel_rfl) (by kernel_rfl) (fun _ _ _ h => h) (Or.inl ⟨by rfl, ?tky3011⟩) hH0 ?tkr3011
    case tky3011 => (intro w' hSw; clear hSw; go_simp; try with_reducible rfl)
    try simp only [Act.put, List.setIfInBounds_toArray, List.set_cons_zero, List.set_cons_succ]
    refine wpAnyH_take (i := 11) (oi := { dst := some 73, op := Op.load 22 (Operand.tmp 72), type := 22, pos := "more.go:21", after := #[{ on := 10, ground := Ground.data }, { on := 6, ground := Ground.guard }], guard := some (6, true) }) (v := ?tkv3012) rfl (by kernel_rfl) (by kernel_rfl) (by kernel_rfl) (fun _ _ _ h => h) (Or.inl ⟨by rfl, ?tky3012⟩) hH0 ?tkr3012
    case tky3012 => (intro w' hSw; have z0 := HC.out _ hSw; have z1 := HX.out _ hSw; have z2 := HS1.out _ hSw; have z3 := HS2.out _ hSw; clear hSw; go_simp; try with_reducible rfl)
    try simp only [Act.put, List.setIfInBounds_toArray, List.set_cons_zero, List.set_cons_succ]
    refine wpAnyH_take (i := 12) (oi := { dst := some 74, op := Op.convert 22 5 (Operand.tmp 73), type := 5, pos := "more.go:21", after := #[{ on := 11, ground := Ground.data }, { on := 6, ground := Ground.guard }], guard := some (6, true) }) (v := ?tkv3013) rfl (by kernel_rfl) (by kernel_rfl) (by kernel_rfl) (fun _ _ _ h => h) (Or.inl ⟨by rfl, ?tky3013⟩) hH0 ?tkr3013
    case tky3013 => (intro w' hSw; have z0 := HC.out _ hSw; have z1 := HX.out _ hSw; have z2 := HS1.out _ hSw; have z3 := HS2.out _ hSw; clear hSw; go_simp; try with_reducible rfl)
    try simp only [Act.put, List.setIfInBounds_toArray, List.set_cons_zero, List.set_cons_succ]
    refine wpAnyH_take (i := 13) (oi := { dst := some 75, op := Op.binOp BinOp.eql 5 (Operand.tmp 71) (Operand.tmp 74) 5, type := 4, pos := "more.go:21", after := #[{ on := 9, ground := Ground.data }, { on := 12, ground := Ground.data }, { on := 6, ground := Ground.guard }], guard := some (6, true) }) (v := ?tkv3014) rfl (by kernel_rfl) (by kernel_rfl) (by kernel_rfl) (fun _ _ _ h => h) (Or.inl ⟨by rfl, ?tky3014⟩) hH0 ?tkr3014
    case tky3014 => (intro w' hSw; clear hSw; go_simp; try with_reducible rfl)
    try simp only [Act.put, List.setIfInBounds_toArray, List.set_cons_zero, List.set_cons_succ]
    refine wpAnyH_take (i := 14) (oi := { dst := some 76, op := Op.pick (Operand.tmp 68) (Operand.tmp 75) (Operand.const (Value.bool false)), type := 4, pos := "more.go:21", after := #[{ on := 6, ground := Ground.data }, { on := 13, ground := Ground.data }], guard := none }) (v := ?tkv3015) rfl (by kernel_rfl) (by kernel_rfl) (by kernel_rfl) (fun _ _ _ h => h) (Or.inl ⟨by rfl, ?tky3015⟩) hH0 ?tkr3015
    case tky3015 => (intro w' hSw; clear hSw; go_simp; try with_reducible rfl)
    try simp only [Act.put, List.setIfInBounds_toArray, List.set_cons_zero, List.set_cons_succ]
    refine wpAnyH_take (i := 15) (oi := { dst := some 77, op := Op.move (Operand.tmp 76), type := 4, pos := "more.go:21", after := #[{ on := 14, ground := Ground.data }, { on := 6, ground := Ground.chain }], guard := none }) (v := ?tkv3016) rfl (by kernel_rfl) (by kernel_rfl) (by kernel_rfl) (fun _ _ _ h => h) (Or.inl ⟨by rfl, ?tky3016⟩) hH0 ?tkr3016
    case tky3016 => (intro w' hSw; clear hSw; go_simp; try with_reducible rfl)
    try simp only [Act.put, List.setIfInBounds_toArray, List.set_cons_zero, List.set_cons_succ]
    refine wpAnyH_take (i := 16) (oi := { dst := some 78, op := Op.move (Operand.tmp 7), type := 23, pos := "more.go:21", after := #[{ on := 15, ground := Ground.guard }], guard := some (15, true) }) (v := ?tkv3017) rfl (by kernel_rfl) (by kernel_rfl) (by kernel_rfl) (fun _ _ _ h => h) (Or.inl ⟨by rfl, ?tky3017⟩) hH0 ?tkr3017
    case tky3017 => (intro w' hSw; clear hSw; go_simp; try with_reducible rfl)
    try simp only [Act.put, List.setIfInBounds_toArray, List.set_cons_zero, List.set_cons_succ]
    refine wpAnyH_take (i := 17) (oi := { dst := some 79, op := Op.indexAddr 23 (Operand.tmp 78) (Operand.const (Value.int IntKind.i64 7)), type := 0, pos := "more.go:21", after := #[{ on := 16, ground := Ground.data }, { on := 15, ground := Ground.guard }], guard := some (15, true) }) (v := ?tkv3018) rfl (by kernel_rfl) (by kernel_rfl) (by kernel_rfl) (fun _ _ _ h => h) (Or.inl ⟨by rfl, ?tky3018⟩) hH0 ?tkr3018
    case tky3018 => (intro w' hSw; clear hSw; go_simp; try with_reducible rfl)
    try simp only [Act.put, List.setIfInBounds_toArray, List.set_cons_zero, List.set_cons_succ]
    refine wpAnyH_take (i := 18) (oi := { dst := some 80, op := Op.load 5 (Operand.tmp 79), type := 5, pos := "more.go:21", after := #[{ on := 17, ground := Ground.data }, { on := 15, ground := Ground.guard }], guard := some (15, true) }) (v := ?tkv3019) rfl (by kernel_rfl) (by kernel_rfl) (by kernel_rfl) (fun _ _ _ h => h) (Or.inl ⟨by rfl, ?tky3019⟩) hH0 ?tkr3019
    case tky3019 => (intro w' hSw; have z0 := HC.out _ hSw; have z1 := HX.out _ hSw; have z2 := HS1.out _ hSw; have z3 := HS2.out _ hSw; clear hSw; go_simp; try with_reducible rfl)
    try simp only [Act.put, List.setIfInBounds_toArray, List.set_cons_zero, List.set_cons_succ]
    refine wpAnyH_take (i := 19) (oi := { dst := some 81, op := Op.fieldAddr 25 (Operand.tmp 3) 1, type := 0, pos := "more.go:21", after := #[{ on := 15, ground := Ground.guard }], guard := some (15, true) }) (v := ?tkv3020) rfl (by kernel_rfl) (by kernel_rfl) (by kernel_rfl) (fun _ _ _ h => h) (Or.inl ⟨by rfl, ?tky3020⟩) hH0 ?tkr3020
    case tky3020 => (intro w' hSw; clear hSw; go_simp; try with_reducible rfl)
    try simp only [Act.put, List.setIfInBounds_toArray, List.set_cons_zero, List.set_cons_succ]
    refine wpAnyH_take (i := 20) (oi := { dst := some 82, op := Op.load 22 (Operand.tmp 81), type := 22, pos := "more.go:21", after := #[{ on := 19, ground := Ground.data }, { on := 15, ground := Ground.guard }], guard := some (15, true) }) (v := ?tkv3021) rfl (by kernel_rfl) (by kernel_rfl) (by kernel_rfl) (fun _ _ _ h => h) (Or.inl ⟨by rfl, ?tky3021⟩) hH0 ?tkr3021
    case tky3021 => (intro w' hSw; have z0 := HC.out _ hSw; have z1 := HX.out _ hSw; have z2 := HS1.out _ hSw; have z3 := HS2.out _ hSw; clear hSw; go_simp; try with_reducible rfl)
    try simp only [Act.put, List.setIfInBounds_toArray, List.set_cons_zero, List.set_cons_succ]
    refine wpAnyH_take (i := 21) (oi := { dst := some 83, op := Op.convert 22 5 (Operand.tmp 82), type := 5, pos := "more.go:21", after := #[{ on := 20, ground := Ground.data }, { on := 15, ground := Ground.guard }], guard := some (15, true) }) (v := ?tkv3022) rfl (by kernel_rfl) (by kernel_rfl) (by kernel_rfl) (fun _ _ _ h => h) (Or.inl ⟨by rfl, ?tky3022⟩) hH0 ?tkr3022
    case tky3022 => (intro w' hSw; have z0 := HC.out _ hSw; have z1 := HX.out _ hSw; have z2 := HS1.out _ hSw; have z3 := HS2.out _ hSw; clear hSw; go_simp; try with_reducible rfl)
    try simp only [Act.put, List.setIfInBounds_toArray, List.set_cons_zero, List.set_cons_succ]
    refine wpAnyH_take (i := 22) (oi := { dst := some 84, op := Op.binOp BinOp.eql 5 (Operand.tmp 80) (Operand.tmp 83) 5, type := 4, pos := "more.go:21", after := #[{ on := 18, ground := Ground.data }, { on := 21, ground := Ground.data }, { on := 15, ground := Ground.guard }], guard := some (15, true) }) (v := ?tkv3023) rfl (by kernel_rfl) (by kernel_rfl) (by kernel_rfl) (fun _ _ _ h => h) (Or.inl ⟨by rfl, ?tky3023⟩) hH0 ?tkr3023
    case tky3023 => (intro w' hSw; clear hSw; go_simp; try with_reducible rfl)
    try simp only [Act.put, List.setIfInBounds_toArray, List.set_cons_zero, List.set_cons_succ]
    refine wpAnyH_take (i := 23) (oi := { dst := some 85, op := Op.pick (Operand.tmp 77) (Operand.tmp 84) (Operand.const (Value.bool false)), type := 4, pos := "more.go:21", after := #[{ on := 15, ground := Ground.data }, { on := 22, ground := Ground.data }], guard := none }) (v := ?tkv3024) rfl (by kernel_rfl) (by kernel_rfl) (by kernel_rfl) (fun _ _ _ h => h) (Or.inl ⟨by rfl, ?tky3024⟩) hH0 ?tkr3024
    case tky3024 => (intro w' hSw; clear hSw; go_simp; try with_reducible rfl)
    try simp only [Act.put, List.setIfInBounds_toArray, List.set_cons_zero, List.set_cons_succ]
    refine wpAnyH_take (i := 24) (oi := { dst := some 86, op := Op.move (Operand.tmp 85), type := 4, pos := "more.go:21", after := #[{ on := 23, ground := Ground.data }, { on := 15, ground := Ground.chain }], guard := none }) (v := ?tkv3025) rfl (by kernel_rfl) (by kernel_rfl) (by kernel_rfl) (fun _ _ _ h => h) (Or.inl ⟨by rfl, ?tky3025⟩) hH0 ?tkr3025
    case tky3025 => (intro w' hSw; clear hSw; go_simp; try with_reducible rfl)
    try simp only [Act.put, List.setIfInBounds_toArray, List.set_cons_zero, List.set_cons_succ]
    refine wpAnyH_take (i := 25) (oi := { dst := some 87, op := Op.move (Operand.tmp 7), type := 23, pos := "more.go:21", after := #[{ on := 24, ground := Ground.guard }], guard := some (24, true) }) (v := ?tkv3026) rfl (by kernel_rfl) (by kernel_rfl) (by kernel_rfl) (fun _ _ _ h => h) (Or.inl ⟨by rfl, ?tky3026⟩) hH0 ?tkr3026
    case tky3026 => (intro w' hSw; clear hSw; go_simp; try with_reducible rfl)
    try simp only [Act.put, List.setIfInBounds_toArray, List.set_cons_zero, List.set_cons_succ]
    refine wpAnyH_take (i := 26) (oi := { dst := some 88, op := Op.indexAddr 23 (Operand.tmp 87) (Operand.const (Value.int IntKind.i64 8)), type := 0, pos := "more.go:21", after := #[{ on := 25, ground := Ground.data }, { on := 24, ground := Ground.guard }], guard := some (24, true) }) (v := ?tkv3027) rfl (by kernel_rfl) (by kernel_rfl) (by kernel_rfl) (fun _ _ _ h => h) (Or.inl ⟨by rfl, ?tky3027⟩) hH0 ?tkr3027
    case tky3027 => (intro w' hSw; clear hSw; go_simp; try with_reducible rfl)
    try simp only [Act.put, List.setIfInBounds_toArray, List.set_cons_zero, List.set_cons_succ]
    refine wpAnyH_take (i := 27) (oi := { dst := some 89, op := Op.load 5 (Operand.tmp 88), type := 5, pos := "more.go:21", after := #[{ on := 26, ground := Ground.data }, { on := 24, ground := Ground.guard }], guard := some (24, true) }) (v := ?tkv3028) rfl (by kernel_rfl) (by kernel_rfl) (by kernel_rfl) (fun _ _ _ h => h) (Or.inl ⟨by rfl, ?tky3028⟩) hH0 ?tkr3028
    case tky3028 => (intro w' hSw; have z0 := HC.out _ hSw; have z1 := HX.out _ hSw; have z2 := HS1.out _ hSw; have z3 := HS2.out _ hSw; clear hSw; go_simp; try with_reducible rfl)
    try simp only [Act.put, List.setIfInBounds_toArray, List.set_cons_zero, List.set_cons_succ]
    refine wpAnyH_take (i := 28) (oi := { dst := some 90, op := Op.convert 5 3 (Operand.tmp 89), type := 3, pos := "more.go:21", after := #[{ on := 27, ground := Ground.data }, { on := 24, ground := Ground.guard }], guard := some (24, true) }) (v := ?tkv3029) rfl (by kernel_rfl) (by kernel_rfl) (by kernel_rfl) (fun _ _ _ h => h) (Or.inl ⟨by rfl, ?tky3029⟩) hH0 ?tkr3029
    case tky3029 => (intro w' hSw; have z0 := HC.out _ hSw; have z1 := HX.out _ hSw; have z2 := HS1.out _ hSw; have z3 := HS2.out _ hSw; clear hSw; go_simp; try with_reducible rfl)
    try simp only [Act.put, List.setIfInBounds_toArray, List.set_cons_zero, List.set_cons_succ]
    refine wpAnyH_take (i := 29) (oi := { dst := some 91, op := Op.binOp BinOp.shl 3 (Operand.tmp 90) (Operand.const (Value.int IntKind.u64 8)) 43, type := 3, pos := "more.go:21", after := #[{ on := 28, ground := Ground.data }, { on := 24, ground := Ground.guard }], guard := some (24, true) }) (v := ?tkv3030) rfl (by kernel_rfl) (by kernel_rfl) (by kernel_rfl) (fun _ _ _ h => h) (Or.inl ⟨by rfl, ?tky3030⟩) hH0 ?tkr3030
    case tky3030 => (intro w' hSw; clear hSw; go_simp; try with_reducible rfl)
    try simp only [Act.put, List.setIfInBounds_toArray, List.set_cons_zero, List.set_cons_succ]
    refine wpAnyH_take (i := 30) (oi := { dst := some 92, op := Op.move (Operand.tmp 7), type := 23, pos := "more.go:21", after := #[{ on := 24, ground := Ground.guard }], guard := some (24, true) }) (v := ?tkv3031) rfl (by kernel_rfl) (by kernel_rfl) (by kernel_rfl) (fun _ _ _ h => h) (Or.inl ⟨by rfl, ?tky3031⟩) hH0 ?tkr3031
    case tky3031 => (intro w' hSw; clear hSw; go_simp; try with_reducible rfl)
    try simp only [Act.put, List.setIfInBounds_toArray, List.set_cons_zero, List.set_cons_succ]
    refine wpAnyH_take (i := 31) (oi := { dst := some 93, op := Op.indexAddr 23 (Operand.tmp 92) (Operand.const (Value.int IntKind.i64 9)), type := 0, pos := "more.go:21", after := #[{ on := 30, ground := Ground.data }, { on := 24, ground := Ground.guard }], guard := some (24, true) }) (v := ?tkv3032) rfl (by kernel_rfl) (by kernel_rfl) (by kernel_rfl) (fun _ _ _ h => h) (Or.inl ⟨by rfl, ?tky3032⟩) hH0 ?tkr3032
    case tky3032 => (intro w' hSw; clear hSw; go_simp; try with_reducible rfl)
    try simp only [Act.put, List.setIfInBounds_toArray, List.set_cons_zero, List.set_cons_succ]
    refine wpAnyH_take (i := 32) (oi := { dst := some 94, op := Op.load 5 (Operand.tmp 93), type := 5, pos := "more.go:21", after := #[{ on := 31, ground := Ground.data }, { on := 24, ground := Ground.guard }], guard := some (24, true) }) (v := ?tkv3033) rfl (by kernel_rfl) (by kernel_rfl) (by kernel_rfl) (fun _ _ _ h => h) (Or.inl ⟨by rfl, ?tky3033⟩) hH0 ?tkr3033
    case tky3033 => (intro w' hSw; have z0 := HC.out _ hSw; have z1 := HX.out _ hSw; have z2 := HS1.out _ hSw; have z3 := HS2.out _ hSw; clear hSw; go_simp; try with_reducible rfl)
    try simp only [Act.put, List.setIfInBounds_toArray, List.set_cons_zero, List.set_cons_succ]
    refine wpAnyH_take (i := 33) (oi := { dst := some 95, op := Op.convert 5 3 (Operand.tmp 94), type := 3, pos := "more.go:21", after := #[{ on := 32, ground := Ground.data }, { on := 24, ground := Ground.guard }], guard := some (24, true) }) (v := ?tkv3034) rfl (by kernel_rfl) (by kernel_rfl) (by kernel_rfl) (fun _ _ _ h => h) (Or.inl ⟨by rfl, ?tky3034⟩) hH0 ?tkr3034
    case tky3034 => (intro w' hSw; have z0 := HC.out _ hSw; have z1 := HX.out _ hSw; have z2 := HS1.out _ hSw; have z3 := HS2.out _ hSw; clear hSw; go_simp; try with_reducible rfl)
    try simp only [Act.put, List.setIfInBounds_toArray, List.set_cons_zero, List.set_cons_succ]
    refine wpAnyH_take (i := 34) (oi := { dst := some 96, op := Op.binOp BinOp.or 3 (Operand.tmp 91) (Operand.tmp 95) 3, type := 3, pos := "more.go:21", after := #[{ on := 29, ground := Ground.data }, { on := 33, ground := Ground.data }, { on := 24, ground := Ground.guard }], guard := some (24, true) }) (v := ?tkv3035) rfl (by kernel_rfl) (by kernel_rfl) (by kernel_rfl) (fun _ _ _ h => h) (Or.inl ⟨by rfl, ?tky3035⟩) hH0 ?tkr3035
    case tky3035 => (intro w' hSw; clear hSw; go_simp; try with_reducible rfl)
    try simp only [Act.put, List.setIfInBounds_toArray, List.set_cons_zero, List.set_cons_succ]
    refine wpAnyH_take (i := 35) (oi := { dst := some 97, op := Op.fieldAddr 25 (Operand.tmp 3) 2, type := 0, pos := "more.go:21", after := #[{ on := 24, ground := Ground.guard }], guard := some (24, true) }) (v := ?tkv3036) rfl (by kernel_rfl) (by kernel_rfl) (by kernel_rfl) (fun _ _ _ h => h) (Or.inl ⟨by rfl, ?tky3036⟩) hH0 ?tkr3036
    case tky3036 => (intro w' hSw; clear hSw; go_simp; try with_reducible rfl)
    try simp only [Act.put, List.setIfInBounds_toArray, List.set_cons_zero, List.set_cons_succ]
    refine wpAnyH_take (i := 36) (oi := { dst := some 98, op := Op.load 3 (Operand.tmp 97), type := 3, pos := "more.go:21", after := #[{ on := 35, ground := Ground.data }, { on := 24, ground := Ground.guard }], guard := some (24, true) }) (v := ?tkv3037) rfl (by kernel_rfl) (by kernel_rfl) (by kernel_rfl) (fun _ _ _ h => h) (Or.inl ⟨by rfl, ?tky3037⟩) hH0 ?tkr3037
    case tky3037 => (intro w' hSw; have z0 := HC.out _ hSw; have z1 := HX.out _ hSw; have z2 := HS1.out _ hSw; have z3 := HS2.out _ hSw; clear hSw; go_simp; try with_reducible rfl)
    try simp only [Act.put, List.setIfInBounds_toArray, List.set_cons_zero, List.set_cons_succ]
    refine wpAnyH_take (i := 37) (oi := { dst := some 99, op := Op.binOp BinOp.eql 3 (Operand.tmp 96) (Operand.tmp 98) 3, type := 4, pos := "more.go:21", after := #[{ on := 34, ground := Ground.data }, { on := 36, ground := Ground.data }, { on := 24, ground := Ground.guard }], guard := some (24, true) }) (v := ?tkv3038) rfl (by kernel_rfl) (by kernel_rfl) (by kernel_rfl) (fun _ _ _ h => h) (Or.inl ⟨by rfl, ?tky3038⟩) hH0 ?tkr3038
    case tky3038 => (intro w' hSw; clear hSw; go_simp; try with_reducible rfl)
    try simp only [Act.put, List.setIfInBounds_toArray, List.set_cons_zero, List.set_cons_succ]
    refine wpAnyH_take (i := 38) (oi := { dst := some 100, op := Op.pick (Operand.tmp 86) (Operand.tmp 99) (Operand.const (Value.bool false)), type := 4, pos := "more.go:21", after := #[{ on := 24, ground := Ground.data }, { on := 37, ground := Ground.data }], guard := none }) (v := ?tkv3039) rfl (by kernel_rfl) (by kernel_rfl) (by kernel_rfl) (fun _ _ _ h => h) (Or.inl ⟨by rfl, ?tky3039⟩) hH0 ?tkr3039
    case tky3039 => (intro w' hSw; clear hSw; go_simp; try with_reducible rfl)
    try simp only [Act.put, List.setIfInBounds_toArray, List.set_cons_zero, List.set_cons_succ]
    refine wpAnyH_take (i := 39) (oi := { dst := some 101, op := Op.move (Operand.tmp 100), type := 4, pos := "more.go:21", after := #[{ on := 38, ground := Ground.data }, { on := 24, ground := Ground.chain }], guard := none }) (v := ?tkv3040) rfl (by kernel_rfl) (by kernel_rfl) (by kernel_rfl) (fun _ _ _ h => h) (Or.inl ⟨by rfl, ?tky3040⟩) hH0 ?tkr3040
    case tky3040 => (intro w' hSw; clear hSw; go_simp; try with_reducible rfl)
    try simp only [Act.put, List.setIfInBounds_toArray, List.set_cons_zero, List.set_cons_succ]
    refine wpAnyH_take (i := 40) (oi := { dst := some 102, op := Op.move (Operand.tmp 7), type := 23, pos := "more.go:21", after := #[{ on := 39, ground := Ground.guard }], guard := some (39, true) }) (v := ?tkv3041) rfl (by kernel_rfl) (by kernel_rfl) (by kernel_rfl) (fun _ _ _ h => h) (Or.inl ⟨by rfl, ?tky3041⟩) hH0 ?tkr3041
    case tky3041 => (intro w' hSw; clear hSw; go_simp; try with_reducible rfl)
    try simp only [Act.put, List.setIfInBounds_toArray, List.set_cons_zero, List.set_cons_succ]
    refine wpAnyH_take (i := 41) (oi := { dst := some 103, op := Op.indexAddr 23 (Operand.tmp 102) (Operand.const (Value.int IntKind.i64 10)), type := 0, pos := "more.go:21", after := #[{ on := 40, ground := Ground.data }, { on := 39, ground := Ground.guard }], guard := some (39, true) }) (v := ?tkv3042) rfl (by kernel_rfl) (by kernel_rfl) (by kernel_rfl) (fun _ _ _ h => h) (Or.inl ⟨by rfl, ?tky3042⟩) hH0 ?tkr3042
    case tky3042 => (intro w' hSw; clear hSw; go_simp; try with_reducible rfl)
    try simp only [Act.put, List.setIfInBounds_toArray, List.set_cons_zero, List.set_cons_succ]
    refine wpAnyH_take (i := 42) (oi := { dst := some 104, op := Op.load 5 (Operand.tmp 103), type := 5, pos := "more.go:21", after := #[{ on := 41, ground := Ground.data }, { on := 39, ground := Ground.guard }], guard := some (39, true) }) (v := ?tkv3043) rfl (by kernel_rfl) (by kernel_rfl) (by kernel_rfl) (fun _ _ _ h => h) (Or.inl ⟨by rfl, ?tky3043⟩) hH0 ?tkr3043
    case tky3043 => (intro w' hSw; have z0 := HC.out _ hSw; have z1 := HX.out _ hSw; have z2 := HS1.out _ hSw; have z3 := HS2.out _ hSw; clear hSw; go_simp; try with_reducible rfl)
    try simp only [Act.put, List.setIfInBounds_toArray, List.set_cons_zero, List.set_cons_succ]
    refine wpAnyH_take (i := 43) (oi := { dst := some 105, op := Op.convert 5 3 (Operand.tmp 104), type := 3, pos := "more.go:21", after := #[{ on := 42, ground := Ground.data }, { on := 39, ground := Ground.guard }], guard := some (39, true) }) (v := ?tkv3044) rfl (by kernel_rfl) (by kernel_rfl) (by kernel_rfl) (fun _ _ _ h => h) (Or.inl ⟨by rfl, ?tky3044⟩) hH0 ?tkr3044
    case tky3044 => (intro w' hSw; have z0 := HC.out _ hSw; have z1 := HX.out _ hSw; have z2 := HS1.out _ hSw; have z3 := HS2.out _ hSw; clear hSw; go_simp; try with_reducible rfl)
    try simp only [Act.put, List.setIfInBounds_toArray, List.set_cons_zero, List.set_cons_succ]
    refine wpAnyH_take (i := 44) (oi := { dst := some 106, op := Op.fieldAddr 25 (Operand.tmp 3) 3, type := 0, pos := "more.go:21", after := #[{ on := 39, ground := Ground.guard }], guard := some (39, true) }) (v := ?tkv3045) rfl (by kernel_rfl) (by kernel_rfl) (by kernel_rfl) (fun _ _ _ h => h) (Or.inl ⟨by rfl, ?tky3045⟩) hH0 ?tkr3045
    case tky3045 => (intro w' hSw; clear hSw; go_simp; try with_reducible rfl)
    try simp only [Act.put, List.setIfInBounds_toArray, List.set_cons_zero, List.set_cons_succ]
    refine wpAnyH_take (i := 45) (oi := { dst := some 107, op := Op.load 3 (Operand.tmp 106), type := 3, pos := "more.go:21", after := #[{ on := 44, ground := Ground.data }, { on := 39, ground := Ground.guard }], guard := some (39, true) }) (v := ?tkv3046) rfl (by kernel_rfl) (by kernel_rfl) (by kernel_rfl) (fun _ _ _ h => h) (Or.inl ⟨by rfl, ?tky3046⟩) hH0 ?tkr3046
    case tky3046 => (intro w' hSw; have z0 := HC.out _ hSw; have z1 := HX.out _ hSw; have z2 := HS1.out _ hSw; have z3 := HS2.out _ hSw; clear hSw; go_simp; try with_reducible rfl)
    try simp only [Act.put, List.setIfInBounds_toArray, List.set_cons_zero, List.set_cons_succ]
    refine wpAnyH_take (i := 46) (oi := { dst := some 108, op := Op.binOp BinOp.eql 3 (Operand.tmp 105) (Operand.tmp 107) 3, type := 4, pos := "more.go:21", after := #[{ on := 43, ground := Ground.data }, { on := 45, ground := Ground.data }, { on := 39, ground := Ground.guard }], guard := some (39, true) }) (v := ?tkv3047) rfl (by kernel_rfl) (by kernel_rfl) (by kernel_rfl) (fun _ _ _ h => h) (Or.inl ⟨by rfl, ?tky3047⟩) hH0 ?tkr3047
    case tky3047 => (intro w' hSw; clear hSw; go_simp; try with_reducible rfl)
    try simp only [Act.put, List.setIfInBounds_toArray, List.set_cons_zero, List.set_cons_succ]
    refine wpAnyH_take (i := 47) (oi := { dst := some 109, op := Op.pick (Operand.tmp 101) (Operand.tmp 108) (Operand.const (Value.bool false)), type := 4, pos := "more.go:21", after := #[{ on := 39, ground := Ground.data }, { on := 46, ground := Ground.data }], guard := none }) (v := ?tkv3048) rfl (by kernel_rfl) (by kernel_rfl) (by kernel_rfl) (fun _ _ _ h => h) (Or.inl ⟨by rfl, ?tky3048⟩) hH0 ?tkr3048
    case tky3048 => (intro w' hSw; clear hSw; go_simp; try with_reducible rfl)
    try simp only [Act.put, List.setIfInBounds_toArray, List.set_cons_zero, List.set_cons_succ]
    refine wpAnyH_take (i := 48) (oi := { dst := some 110, op := Op.move (Operand.tmp 109), type := 4, pos := "more.go:21", after := #[{ on := 47, ground := Ground.data }, { on := 39, ground := Ground.chain }], guard := none }) (v := ?tkv3049) rfl (by kernel_rfl) (by kernel_rfl) (by kernel_rfl) (fun _ _ _ h => h) (Or.inl ⟨by rfl, ?tky3049⟩) hH0 ?tkr3049
    case tky3049 => (intro w' hSw; clear hSw; go_simp; try with_reducible rfl)
    try simp only [Act.put, List.setIfInBounds_toArray, List.set_cons_zero, List.set_cons_succ]
    refine wpAnyH_take (i := 49) (oi := { dst := some 111, op := Op.move (Operand.tmp 7), type := 23, pos := "more.go:21", after := #[{ on := 48, ground := Ground.guard }], guard := some (48, true) }) (v := ?tkv3050) rfl (by kernel_rfl) (by kernel_rfl) (by kernel_rfl) (fun _ _ _ h => h) (Or.inl ⟨by rfl, ?tky3050⟩) hH0 ?tkr3050
    case tky3050 => (intro w' hSw; clear hSw; go_simp; try with_reducible rfl)
    try simp only [Act.put, List.setIfInBounds_toArray, List.set_cons_zero, List.set_cons_succ]
    refine wpAnyH_take (i := 50) (oi := { dst := some 112, op := Op.indexAddr 23 (Operand.tmp 111) (Operand.const (Value.int IntKind.i64 11)), type := 0, pos := "more.go:21", after := #[{ on := 49, ground := Ground.data }, { on := 48, ground := Ground.guard }], guard := some (48, true) }) (v := ?tkv3051) rfl (by kernel_rfl) (by kernel_rfl) (by kernel_rfl) (fun _ _ _ h => h) (Or.inl ⟨by rfl, ?tky3051⟩) hH0 ?tkr3051
    case tky3051 => (intro w' hSw; clear hSw; go_simp; try with_reducible rfl)
    try simp only [Act.put, List.setIfInBounds_toArray, List.set_cons_zero, List.set_cons_succ]
    refine wpAnyH_take (i := 51) (oi := { dst := some 113, op := Op.load 5 (Operand.tmp 112), type := 5, pos := "more.go:21", after := #[{ on := 50, ground := Ground.data }, { on := 48, ground := Ground.guard }], guard := some (48, true) }) (v := ?tkv3052) rfl (by kernel_rfl) (by kernel_rfl) (by kernel_rfl) (fun _ _ _ h => h) (Or.inl ⟨by rfl, ?tky3052⟩) hH0 ?tkr3052
    case tky3052 => (intro w' hSw; have z0 := HC.out _ hSw; have z1 := HX.out _ hSw; have z2 := HS1.out _ hSw; have z3 := HS2.out _ hSw; clear hSw; go_simp; try with_reducible rfl)
    try simp only [Act.put, List.setIfInBounds_toArray, List.set_cons_zero, List.set_cons_succ]
    refine wpAnyH_take (i := 52) (oi := { dst := some 114, op := Op.convert 5 3 (Operand.tmp 113), type := 3, pos := "more.go:21", after := #[{ on := 51, ground := Ground.data }, { on := 48, ground := Ground.guard }], guard := some (48, true) }) (v := ?tkv3053) rfl (by kernel_rfl) (by kernel_rfl) (by kernel_rfl) (fun _ _ _ h => h) (Or.inl ⟨by rfl, ?tky3053⟩) hH0 ?tkr3053
    case tky3053 => (intro w' hSw; have z0 := HC.out _ hSw; have z1 := HX.out _ hSw; have z2 := HS1.out _ hSw; have z3 := HS2.out _ hSw; clear hSw; go_simp; try with_reducible rfl)
    try simp only [Act.put, List.setIfInBounds_toArray, List.set_cons_zero, List.set_cons_succ]
    refine wpAnyH_take (i := 53) (oi := { dst := some 115, op := Op.fieldAddr 25 (Operand.tmp 3) 4, type := 0, pos := "more.go:21", after := #[{ on := 48, ground := Ground.guard }], guard := some (48, true) }) (v := ?tkv3054) rfl (by kernel_rfl) (by kernel_rfl) (by kernel_rfl) (fun _ _ _ h => h) (Or.inl ⟨by rfl, ?tky3054⟩) hH0 ?tkr3054
    case tky3054 => (intro w' hSw; clear hSw; go_simp; try with_reducible rfl)
    try simp only [Act.put, List.setIfInBounds_toArray, List.set_cons_zero, List.set_cons_succ]
    refine wpAnyH_take (i := 54) (oi := { dst := some 116, op := Op.load 3 (Operand.tmp 115), type := 3, pos := "more.go:21", after := #[{ on := 53, ground := Ground.data }, { on := 48, ground := Ground.guard }], guard := some (48, true) }) (v := ?tkv3055) rfl (by kernel_rfl) (by kernel_rfl) (by kernel_rfl) (fun _ _ _ h => h) (Or.inl ⟨by rfl, ?tky3055⟩) hH0 ?tkr3055
    case tky3055 => (intro w' hSw; have z0 := HC.out _ hSw; have z1 := HX.out _ hSw; have z2 := HS1.out _ hSw; have z3 := HS2.out _ hSw; clear hSw; go_simp; try with_reducible rfl)
    try simp only [Act.put, List.setIfInBounds_toArray, List.set_cons_zero, List.set_cons_succ]
    refine wpAnyH_take (i := 55) (oi := { dst := some 117, op := Op.binOp BinOp.eql 3 (Operand.tmp 114) (Operand.tmp 116) 3, type := 4, pos := "more.go:21", after := #[{ on := 52, ground := Ground.data }, { on := 54, ground := Ground.data }, { on := 48, ground := Ground.guard }], guard := some (48, true) }) (v := ?tkv3056) rfl (by kernel_rfl) (by kernel_rfl) (by kernel_rfl) (fun _ _ _ h => h) (Or.inl ⟨by rfl, ?tky3056⟩) hH0 ?tkr3056
    case tky3056 => (intro w' hSw; clear hSw; go_simp; try with_reducible rfl)
    try simp only [Act.put, List.setIfInBounds_toArray, List.set_cons_zero, List.set_cons_succ]
    refine wpAnyH_take (i := 56) (oi := { dst := some 118, op := Op.pick (Operand.tmp 110) (Operand.tmp 117) (Operand.const (Value.bool false)), type := 4, pos := "more.go:21", after := #[{ on := 48, ground := Ground.data }, { on := 55, ground := Ground.data }], guard := none }) (v := ?tkv3057) rfl (by kernel_rfl) (by kernel_rfl) (by kernel_rfl) (fun _ _ _ h => h) (Or.inl ⟨by rfl, ?tky3057⟩) hH0 ?tkr3057
    case tky3057 => (intro w' hSw; clear hSw; go_simp; try with_reducible rfl)
    try simp only [Act.put, List.setIfInBounds_toArray, List.set_cons_zero, List.set_cons_succ]
    refine wpAnyH_take (i := 57) (oi := { dst := some 119, op := Op.move (Operand.tmp 118), type := 4, pos := "more.go:21", after := #[{ on := 56, ground := Ground.data }, { on := 48, ground := Ground.chain }], guard := none }) (v := ?tkv3058) rfl (by kernel_rfl) (by kernel_rfl) (by kernel_rfl) (fun _ _ _ h => h) (Or.inl ⟨by rfl, ?tky3058⟩) hH0 ?tkr3058
    case tky3058 => (intro w' hSw; clear hSw; go_simp; try with_reducible rfl)
    try simp only [Act.put, List.setIfInBounds_toArray, List.set_cons_zero, List.set_cons_succ]
    refine wpAnyH_take (i := 58) (oi := { dst := some 120, op := Op.move (Operand.tmp 7), type := 23, pos := "more.go:21", after := #[{ on := 57, ground := Ground.guard }], guard := some (57, true) }) (v := ?tkv3059) rfl (by kernel_rfl) (by kernel_rfl) (by kernel_rfl) (fun _ _ _ h => h) (Or.inl ⟨by rfl, ?tky3059⟩) hH0 ?tkr3059
    case tky3059 => (intro w' hSw; clear hSw; go_simp; try with_reducible rfl)
    try simp only [Act.put, List.setIfInBounds_toArray, List.set_cons_zero, List.set_cons_succ]
    refine wpAnyH_take (i := 59) (oi := { dst := some 121, op := Op.slice 23 (Operand.tmp 120) (some (Operand.const (Value.int IntKind.i64 12))) (some (Operand.const (Value.int IntKind.i64 44))) none, type := 23, pos := "more.go:21", after := #[{ on := 58, ground := Ground.data }, { on := 57, ground := Ground.guard }], guard := some (57, true) }) (v := ?tkv3060) rfl (by kernel_rfl) (by kernel_rfl) (by kernel_rfl) (fun _ _ _ h => h) (Or.inl ⟨by rfl, ?tky3060⟩) hH0 ?tkr3060
    case tky3060 => (intro w' hSw; have z0 := HC.out _ hSw; have z1 := HX.out _ hSw; have z2 := HS1.out _ hSw; have z3 := HS2.out _ hSw; clear hSw; go_simp; try with_reducible rfl)
    try simp only [Act.put, List.setIfInBounds_toArray, List.set_cons_zero, List.set_cons_succ]
    refine wpAnyH_take (i := 60) (oi := { dst := some 122, op := Op.convert 23 9 (Operand.tmp 121), type := 9, pos := "more.go:21", after := #[{ on := 59, ground := Ground.data }, { on := 57, ground := Ground.guard }], guard := some (57, true) }) (v := ?tkv3061) rfl (by kernel_rfl) (by kernel_rfl) (by kernel_rfl) (fun _ _ _ h => h) (Or.inl ⟨by rfl, ?tky3061⟩) hH0 ?tkr3061
    case tky3061 => (intro w' hSw; have z0 := HC.out _ hSw; have z1 := HX.out _ hSw; have z2 := HS1.out _ hSw; have z3 := HS2.out _ hSw; clear hSw; go_simp; try with_reducible rfl)
    try simp only [Act.put, List.setIfInBounds_toArray, List.set_cons_zero, List.set_cons_succ]
    refine wpAnyH_take (i := 61) (oi := { dst := some 123, op := Op.fieldAddr 25 (Operand.tmp 3) 5, type := 0, pos := "more.go:21", after := #[{ on := 57, ground := Ground.guard }], guard := some (57, true) }) (v := ?tkv3062) rfl (by kernel_rfl) (by kernel_rfl) (by kernel_rfl) (fun _ _ _ h => h) (Or.inl ⟨by rfl, ?tky3062⟩) hH0 ?tkr3062
    case tky3062 => (intro w' hSw; clear hSw; go_simp; try with_reducible rfl)
    try simp only [Act.put, List.setIfInBounds_toArray, List.set_cons_zero, List.set_cons_succ]
    refine wpAnyH_take (i := 62) (oi := { dst := some 124, op := Op.load 23 (Operand.tmp 123), type := 23, pos := "more.go:21", after := #[{ on := 61, ground := Ground.data }, { on := 57, ground := Ground.guard }], guard := some (57, true) }) (v := ?tkv3063) rfl (by kernel_rfl) (by kernel_rfl) (by kernel_rfl) (fun _ _ _ h => h) (Or.inl ⟨by rfl, ?tky3063⟩) hH0 ?tkr3063
    case tky3063 => (intro w' hSw; have z0 := HC.out _ hSw; have z1 := HX.out _ hSw; have z2 := HS1.out _ hSw; have z3 := HS2.out _ hSw; clear hSw; go_simp; try with_reducible rfl)
    try simp only [Act.put, List.setIfInBounds_toArray, List.set_cons_zero, List.set_cons_succ]
    refine wpAnyH_take (i := 63) (oi := { dst := some 125, op := Op.convert 23 9 (Operand.tmp 124), type := 9, pos := "more.go:21", after := #[{ on := 62, ground := Ground.data }, { on := 57, ground := Ground.guard }], guard := some (57, true) }) (v := ?tkv3064) rfl (by kernel_rfl) (by kernel_rfl) (by kernel_rfl) (fun _ _ _ h => h) (Or.inl ⟨by rfl, ?tky3064⟩) hH0 ?tkr3064
    case tky3064 => (intro w' hSw; have z0 := HC.out _ hSw; have z1 := HX.out _ hSw; have z2 := HS1.out _ hSw; have z3 := HS2.out _ hSw; clear hSw; go_simp; try with_reducible rfl)
    try simp only [Act.put, List.setIfInBounds_toArray, List.set_cons_zero, List.set_cons_succ]
    refine wpAnyH_take (i := 64) (oi := { dst := some 126, op := Op.binOp BinOp.eql 9 (Operand.tmp 122) (Operand.tmp 125) 9, type := 4, pos := "more.go:21", after := #[{ on := 60, ground := Ground.data }, { on := 63, ground := Ground.data }, { on := 57, ground := Ground.guard }], guard := some (57, true) }) (v := ?tkv3065) rfl (by kernel_rfl) (by kernel_rfl) (by kernel_rfl) (fun _ _ _ h => h) (Or.inl ⟨by rfl, ?tky3065⟩) hH0 ?tkr3065
    case tky3065 => (intro w' hSw; clear hSw; go_simp; try with_reducible rfl)
    try simp only [Act.put, List.setIfInBounds_toArray, List.set_cons_zero, List.set_cons_succ]
    refine wpAnyH_take (i := 65) (oi := { dst := some 127, op := Op.pick (Operand.tmp 119) (Operand.tmp 126) (Operand.const (Value.bool false)), type := 4, pos := "more.go:21", after := #[{ on := 57, ground := Ground.data }, { on := 64, ground := Ground.data }], guard := none }) (v := ?tkv3066) rfl (by kernel_rfl) (by kernel_rfl) (by kernel_rfl) (fun _ _ _ h => h) (Or.inl ⟨by rfl, ?tky3066⟩) hH0 ?tkr3066
    case tky3066 => (intro w' hSw; clear hSw; go_simp; try with_reducible rfl)
    try simp only [Act.put, List.setIfInBounds_toArray, List.set_cons_zero, List.set_cons_succ]
    refine wpAnyH_take (i := 66) (oi := { dst := some 128, op := Op.move (Operand.tmp 127), type := 4, pos := "more.go:21", after := #[{ on := 65, ground := Ground.data }, { on := 57, ground := Ground.chain }], guard := none }) (v := ?tkv3067) rfl (by kernel_rfl) (by kernel_rfl) (by kernel_rfl) (fun _ _ _ h => h) (Or.inl ⟨by rfl, ?tky3067⟩) hH0 ?tkr3067
    case tky3067 => (intro w' hSw; clear hSw; go_simp; try with_reducible rfl)
    try simp only [Act.put, List.setIfInBounds_toArray, List.set_cons_zero, List.set_cons_succ]
    refine wpAnyH_ready (rs := [67]) (by kernel_rfl) (by simp) ?_
    refine AllReadyH.cons (o := { dst := some 129, op := Op.call { callee := Callee.value (Operand.func 8), args := #[], argTypes := #[] }, type := 4, pos := "more.go:21", after := #[{ on := 66, ground := Ground.chain }, { on := 66, ground := Ground.guard }], guard := some (66, true) }) rfl (fun K hK => ?_) AllReadyH.nil
    go_simp
    refine (awake14_any wd3000 (HT.out.below (HB8.out _ (hH0)) HT.out.1)).mono ?_
    rintro e' wn3068 ⟨rfl, hb3068⟩
    go_simp
    have hS3068 : Below (wB.heap.size) wB wn3068 := (hH0).trans (hb3068.mono (hH0).size)
    refine hK.out _ _ hS3068 (fun hH3068 => ?_)
    have hH3068 : Below (wB.heap.size) wB wn3068 := hH3068
    clear hK K hS3068
    try simp only [Act.put, List.setIfInBounds_toArray, List.set_cons_zero, List.set_cons_succ]
    refine wpAnyH_take (i := 68) (oi := { dst := some 130, op := Op.pick (Operand.tmp 128) (Operand.tmp 129) (Operand.const (Value.bool false)), type := 4, pos := "more.go:21", after := #[{ on := 66, ground := Ground.data }, { on := 67, ground := Ground.data }], guard := none }) (v := ?tkv3069) rfl (by kernel_rfl) (by kernel_rfl) (by kernel_rfl) (fun _ _ _ h => h) (Or.inl ⟨by rfl, ?tky3069⟩) hH3068 ?tkr3069
    case tky3069 => (intro w' hSw; clear hSw; go_simp; try with_reducible rfl)
    try simp only [Act.put, List.setIfInBounds_toArray, List.set_cons_zero, List.set_cons_succ]
    refine wpAnyH_take (i := 69) (oi := { dst := some 6, op := Op.assign (Operand.tmp 130), type := 4, pos := "more.go:21", after := ([{ on := 68, ground := Ground.data }, { on := 67, ground := Ground.chain }, { on := 0, ground := Ground.phase }, { on := 1, ground := Ground.phase }, { on := 2, ground := Ground.phase }, { on := 3, ground := Ground.phase }, { on := 4, ground := Ground.phase }, { on := 5, ground := Ground.phase }, { on := 6, ground := Ground.phase }, { on := 7, ground := Ground.phase }, { on := 8, ground := Ground.phase }, { on := 9, ground := Ground.phase }, { on := 10, ground := Ground.phase }, { on := 11, ground := Ground.phase }, { on := 12, ground := Ground.phase }, { on := 13, ground := Ground.phase }, { on := 14, ground := Ground.phase }, { on := 15, ground := Ground.phase }, { on := 16, ground := Ground.phase }, { on := 17, ground := Ground.phase }, { on := 18, ground := Ground.phase }, { on := 19, ground := Ground.phase }, { on := 20, ground := Ground.phase }, { on := 21, ground := Ground.phase }, { on := 22, ground := Ground.phase }, { on := 23, ground := Ground.phase }, { on := 24, ground := Ground.phase }, { on := 25, ground := Ground.phase }, { on := 26, ground := Ground.phase }, { on := 27, ground := Ground.phase }, { on := 28, ground := Ground.phase }, { on := 29, ground := Ground.phase }, { on := 30, ground := Ground.phase }, { on := 31, ground := Ground.phase }, { on := 32, ground := Ground.phase }].append [{ on := 33, ground := Ground.phase }, { on := 34, ground := Ground.phase }, { on := 35, ground := Ground.phase }, { on := 36, ground := Ground.phase }, { on := 37, ground := Ground.phase }, { on := 38, ground := Ground.phase }, { on := 39, ground := Ground.phase }, { on := 40, ground := Ground.phase }, { on := 41, ground := Ground.phase }, { on := 42, ground := Ground.phase }, { on := 43, ground := Ground.phase }, { on := 44, ground := Ground.phase }, { on := 45, ground := Ground.phase }, { on := 46, ground := Ground.phase }, { on := 47, ground := Ground.phase }, { on := 48, ground := Ground.phase }, { on := 49, ground := Ground.phase }, { on := 50, ground := Ground.phase }, { on := 51, ground := Ground.phase }, { on := 52, ground := Ground.phase }, { on := 53, ground := Ground.phase }, { on := 54, ground := Ground.phase }, { on := 55, ground := Ground.phase }, { on := 56, ground := Ground.phase }, { on := 57, ground := Ground.phase }, { on := 58, ground := Ground.phase }, { on := 59, ground := Ground.phase }, { on := 60, ground := Ground.phase }, { on := 61, ground := Ground.phase }, { on := 62, ground := Ground.phase }, { on := 63, ground := Ground.phase }, { on := 64, ground := Ground.phase }, { on := 65, ground := Ground.phase }, { on := 66, ground := Ground.phase }, { on := 67, ground := Ground.phase }, { on := 68, ground := Ground.phase }]).toArray, guard := none }) (v := ?tkv3070) rfl (by kernel_rfl) (by kernel_rfl) (by kernel_rfl) (fun _ _ _ h => h) (Or.inl ⟨by rfl, ?tky3070⟩) hH3068 ?tkr3070
    case tky3070 => (intro w' hSw; clear hSw; go_simp; try with_reducible rfl)
    try simp only [Act.put, List.setIfInBounds_toArray, List.set_cons_zero, List.set_cons_succ]
    refine wpAnyH_done (by kernel_rfl) ?_ _
    refine NoPanic.normal ?_
    have hb := HB8.out _ (hH3068)
    go_wp2_with fail
    go_ret
    exact ⟨rfl, hb⟩
end Go.Proofs.YtofkopjjgdfliaaDoor
