/- MacRight's walk. -/
import Derived.Test.YtapjaagigjfidaaDoorMacTag
namespace Go.Proofs.YtapjaagigjfidaaDoor.Sh
open Go.RowKit
theorem right_is (v : Bool) (B1 n1 c1 : Nat) (A1 : Option Addr) (key : List UInt8) (B2 n2 c2 : Nat) (A2 : Option Addr) (b : List UInt8) (B3 c3 : Nat) (A3 : Option Addr) (t : List UInt8) (w : World) (ht : Tab w) (h1 : Row w B1 A1 n1 (bv key)) (hB1 : B1 ≤ w.heap.size) (h2 : Row w B2 A2 n2 (bv b)) (hB2 : B2 ≤ w.heap.size) (hn1 : n1 ≤ 10000000000000000) (hn2 : n2 ≤ 10000000000000000) (h3 : Row w B3 A3 32 (bv t)) (hB3 : B3 ≤ w.heap.size) (hv : (tagOf key b == t) = v) :
    Calls Tryd.prog 21 #[.slice A1 n1 c1, .slice A2 n2 c2, .slice A3 32 c3] w fun e w' => e = .returned (.bool v) ∧ Below w.heap.size w w' := by
  subst hv
  exact right_32 B1 n1 c1 A1 key B2 n2 c2 A2 b B3 c3 A3 t w ht h1 hB1 h2 hB2 hn1 hn2 h3 hB3
theorem wpList_want {P : Program} {w : World} {ops : Array Oper} {rest : List Oper} {o : Oper} {a : Act} {Q : Exit → Act → World → Prop} (hw : Region.wanted o (yielded ops a.tmps) = true)
    (h : ∀ K : Act → World → Prop, (∀ a w, wpList P ops Q rest a w → K a w) → o.wp P a w K Q) : wpList P ops Q (o :: rest) a w :=
  wpList_step fun K hK => by rw [if_pos hw]; exact h K hK
/-- an append behind '&&' or '||' -/
theorem wpList_appG {P : Program} {w : World} {ops : Array Oper} {rest : List Oper} {o : Oper} {a : Act} {Q : Exit → Act → World → Prop} (hw : Region.wanted o (yielded ops a.tmps) = true) (s x : Operand) (t : TypeId)
    (ho : o.op = .call { callee := .builtin .append, args := #[s, x], argTypes := #[t, t] })
    (base : Nat) (e : TypeId) (i : TypeInfo) (z : Value) (bytes : Nat) (ht : P.underlying t = some (.slice e)) (hi : P.info? e = some i) (hz : i.zero = some z)
    (hsize : i.size = 1) (hby : i.bytes = bytes) (hzs : z.cells.size = 1)
    (v : Value) (n : Nat) (xs : List Value) (hs : a.eval s = v) (hown : w.ownsRow base e 1 v n xs)
    (B : Nat) (A : Option Addr) (m c : Nat) (news : List Value) (hx : a.eval x = .slice A m c) (hr : Row w B A m news) (h1 : ∀ u ∈ news, u.oneCell' = true)
    (h63 : n + m ≤ maxLen) (hbytes : (n + m) * bytes ≤ 140737488355328) (hbase : base ≤ w.heap.size)
    (h : ∀ v' w', w'.ownsRow base e 1 v' (n + m) (xs ++ news) → w.grownBy w' v.ownBlock → (v'.ownBlock = v.ownBlock ∨ v'.ownBlock = some w.heap.size) → wpList P ops Q rest (a.put o.dst v') w') : wpList P ops Q (o :: rest) a w :=
  wpList_want hw fun _ hK => wp_app s x t ho base e i z bytes ht hi hz hsize hby hzs v n xs hs hown B A m c news hx hr h1 h63 hbytes hbase fun v' w' h2 h3 h4 => hK _ _ (h v' w' h2 h3 h4)
theorem bv_set (p : List UInt8) (i : Nat) (y : UInt8) : (bv p).set i (.int .u8 (y.toNat : Int)) = bv (p.set i y) := by
  simp [bv, List.map_set]
theorem bend_eq (T : List UInt8) (i : Nat) (x : UInt8) (hi : i < T.length) : (T == T.set i (T.getD i 0 ^^^ x)) = (x == 0) := by
  rw [Bool.eq_iff_iff, beq_iff_eq, beq_iff_eq]
  have hg : T.getD i 0 = T[i] := by rw [List.getD_eq_getElem?_getD, List.getElem?_eq_getElem hi]; rfl
  constructor
  · intro h
    have := congrArg (fun l : List UInt8 => l.getD i 0) h
    simp only [List.getD_eq_getElem?_getD, List.getElem?_set_self hi, List.getElem?_eq_getElem hi, Option.getD_some] at this
    have h2 : (0 : UInt8) = x := by
      have := congrArg (T[i] ^^^ ·) this
      simpa [← UInt8.xor_assoc] using this
    exact h2.symm
  · rintro rfl
    rw [UInt8.xor_zero, hg, List.set_getElem_self]
set_option maxRecDepth 100000 in
set_option maxHeartbeats 3200000 in
theorem right_walk (A1 : Option Addr) (n1 c1 : Nat) (key : List UInt8) (A2 : Option Addr) (n2 c2 : Nat) (b : List UInt8) (y : Int) (_ : -9223372036854775808 ≤ y) (_ : y ≤ 9223372036854775807) (x : UInt8) (w : World) (ht : Tab w) (h1 : Row w w.heap.size A1 n1 (bv key)) (_ : n1 ≤ c1) (_ : c1 ≤ 9223372036854775807) (h2 : Row w w.heap.size A2 n2 (bv b)) (_ : n2 ≤ c2) (_ : c2 ≤ 9223372036854775807) :
    Calls Tryd.prog 9 #[.slice A1 n1 c1, .slice A2 n2 c2, .int .i64 y, .int .u8 (x.toNat : Int)] w fun e w' => e = .returned (.bool true) ∧ Below w.heap.size w w' := by
  obtain ⟨i0, hi, hz0, hz1, hz2⟩ := info_parts Tryd.info5
  have HT := Lib.hid ht
  have H1 := Lib.hid h1
  have H2 := Lib.hid h2
  clear ht h1 h2
  by_cases hb1 : 300 < n1
  · go_enter Tryd.func9, Tryd.ntmps9
    go_wp2_with fail
    refine (awake3_any _ HT.out).mono ?_
    rintro e w1 ⟨rfl, hb⟩
    go_wp2_with fail
    go_ret
    exact ⟨rfl, hb⟩
  by_cases hb2 : 1500 < n2
  · go_enter Tryd.func9, Tryd.ntmps9
    go_wp2_with fail
    refine (awake3_any _ HT.out).mono ?_
    rintro e w1 ⟨rfl, hb⟩
    go_wp2_with fail
    go_ret
    exact ⟨rfl, hb⟩
  obtain ⟨i, hin, hpick⟩ := pick_in y 32 (by omega) (by omega)
  have HP := Lib.hid hpick
  have hi32 : i < 32 := by omega
  clear hpick hin
  have hn1 : n1 ≤ 10000000000000000 := by omega
  have hn2 : n2 ≤ 10000000000000000 := by omega
  go_enter Tryd.func9, Tryd.ntmps9
  go_wp2_with fail
  refine (tag_any w.heap.size n1 c1 A1 key w.heap.size n2 c2 A2 b w HT.out H1.out (Nat.le_refl _) H2.out (Nat.le_refl _) hn1 hn2).mono ?_
  rintro e w1 ⟨A, c, rfl, O1, hb1'⟩
  obtain ⟨g, rfl, hg, _⟩ := own_cell O1.out (by omega)
  go_wp2_with fail
  refine (right_is true w.heap.size n1 c1 A1 key w.heap.size n2 c2 A2 b _ c _ (tagOf key b) w1 (HT.out.below hb1'.out HT.out.1) (H1.out.below hb1'.out) hb1'.out.size (H2.out.below hb1'.out) hb1'.out.size hn1 hn2 (Row.of_own O1.out) (Nat.le_refl _) (beq_self_eq_true _)).mono ?_
  rintro e w2 ⟨rfl, hb2'⟩
  have HB2 := Lib.hid (hb1'.out.trans (hb2'.mono hb1'.out.size))
  have O2 := Lib.hid (own_below O1.out hb2')
  have hcc := (own_cap O1.out).1
  have hcm := (own_cap O1.out).2
  clear O1 hb1' hb2'
  go_wp2_with fail
  refine (right_other w.heap.size n1 c1 A1 key w.heap.size n2 c2 A2 b 31 _ _ w2 (HT.out.below HB2.out HT.out.1) (H1.out.below HB2.out) HB2.out.size (H2.out.below HB2.out) HB2.out.size hn1 hn2 (by omega)).mono ?_
  rintro e w3 ⟨rfl, hb3⟩
  have HB3 := Lib.hid (HB2.out.trans (hb3.mono HB2.out.size))
  have O3 := Lib.hid (own_below O2.out hb3)
  clear O2 hb3 HB2
  have hown0 : (w3.alloc (.cells #[] 5)).ownsRow w3.heap.size 5 1 (.slice (some ⟨w3.heap.size, 0, none⟩) 0 0) 0 [] := own_lit (cs := #[]) rfl (Nat.le_refl _) rfl (by unfold maxLen; omega)
  have HO0 := Lib.hid hown0
  clear hown0
  go_wp2_with (first
    | (at_builtin; refine wpList_appG (by rfl) (.tmp 42) (.tmp 43) 23 rfl w3.heap.size 5 i0 (.int .u8 0) 1 Tryd.underlying23 hi hz0 hz1 hz2 rfl _ 0 [] rfl HO0.out w3.heap.size (some ⟨g, 0, none⟩) 32 c (bv (tagOf key b)) rfl ((Row.of_own O3.out).alloc (Nat.le_refl _) _) (bv_one _) (by unfold maxLen; omega) (by omega) (by simp) ?_; intro v4 w4 hown4 hg4 hat4; obtain ⟨A4, c4, rfl, _⟩ := own_slice hown4; have O4 := Lib.hid hown4; have G4 := Lib.hid hg4; clear hown4 hg4 hat4)
    | (at_builtin; refine wpList_appG (by rfl) (.tmp 44) (.tmp 46) 23 rfl w3.heap.size 5 i0 (.int .u8 0) 1 Tryd.underlying23 hi hz0 hz1 hz2 rfl _ (0 + 32) _ rfl (O4.out.alloc _) _ _ 1 1 _ rfl (row_new w4 _ _ _) (by intro u hu; simp at hu; subst hu; rfl) (by unfold maxLen; omega) (by omega) (by simp; have := G4.out.size; simp at this; omega) ?_; intro v5 w5 hown5 hg5 hat5; obtain ⟨A5, c5, rfl, _⟩ := own_slice hown5; have G5 := Lib.hid hg5; clear hown5 hg5 hat5))
  have hb4 : Hid (Below w3.heap.size w3 w4) := below_new G4.out
  have hb5 : Hid (Below w3.heap.size w3 w5) := hb4.out.trans (below_app ((Below.refl w3.heap.size w4).alloc hb4.out.size _) (by simp; exact Nat.le_succ_of_le hb4.out.size) (O4.out.alloc _) (Nat.le_refl _) G5.out)
  have HB5 := Lib.hid (HB3.out.trans (hb5.out.mono HB3.out.size))
  have O5 := Lib.hid (own_below O3.out hb5.out)
  clear O4 G4 G5 HO0 hb4 hb5 O3 HB3
  refine (right_other w.heap.size n1 c1 A1 key w.heap.size n2 c2 A2 b (0 + 32 + 1) c5 A5 w5 (HT.out.below HB5.out HT.out.1) (H1.out.below HB5.out) HB5.out.size (H2.out.below HB5.out) HB5.out.size hn1 hn2 (by omega)).mono ?_
  rintro e w6 ⟨rfl, hb6⟩
  have HB6 := Lib.hid (HB5.out.trans (hb6.mono HB5.out.size))
  have O6 := Lib.hid (own_below O5.out hb6)
  clear O5 hb6 HB5
  go_wp2_with fail
  refine (right_other w.heap.size n1 c1 A1 key w.heap.size n2 c2 A2 b 0 0 none w6 (HT.out.below HB6.out HT.out.1) (H1.out.below HB6.out) HB6.out.size (H2.out.below HB6.out) HB6.out.size hn1 hn2 (by omega)).mono ?_
  rintro e w7 ⟨rfl, hb7⟩
  have HB7 := Lib.hid (HB6.out.trans (hb7.mono HB6.out.size))
  have O7 := Lib.hid (own_below O6.out hb7)
  clear O6 hb7 HB6
  have hcell := (own_cell O7.out (by omega))
  obtain ⟨g', eg, _, hcell⟩ := hcell
  injection eg with eg
  injection eg with eg
  subst eg
  have hci := hcell i hi32
  have hfr := O7.out.frozenAt i
  have hst := (O7.out.stored i (.int .u8 (((tagOf key b).getD i 0 ^^^ x).toNat : Int))).1
  rw [bv_set] at hst
  have HST := Lib.hid hst
  have HX := Lib.hid (xor_int ((tagOf key b).getD i 0) x)
  have HBE := Lib.hid (bend_eq (tagOf key b) i x (by rw [tagOf_length]; exact hi32))
  have HB8 : Hid (Below w.heap.size w (w7.setCell ⟨g, i, none⟩ (.int .u8 (((tagOf key b).getD i 0 ^^^ x).toNat : Int)))) := HB7.out.setCell hg _
  have hi32' : (i : Int) < 32 := by omega
  clear hcell hst O7 HB7
  have hxv : ∃ v : Bool, (x == 0) = v ∧ (((x.toNat : Int) == 0) = v) := by
    by_cases h0 : x = 0
    · subst h0; exact ⟨true, rfl, rfl⟩
    · refine ⟨false, by simpa using h0, ?_⟩
      have : x.toNat ≠ 0 := fun h => h0 (UInt8.toNat_inj.1 h)
      simp; omega
  obtain ⟨v, hv1, hv2⟩ := hxv
  rw [hv1] at HBE
  generalize (tagOf key b).getD i 0 = ti at *
  clear hv1
  go_wp2_with (rw [HP.out])
  rw [HX.out]
  refine (right_is v w.heap.size n1 c1 A1 key w.heap.size n2 c2 A2 b _ c _ ((tagOf key b).set i (ti ^^^ x)) _ (HT.out.below HB8.out HT.out.1) (H1.out.below HB8.out) HB8.out.size (H2.out.below HB8.out) HB8.out.size hn1 hn2 (Row.of_own HST.out) (Nat.le_refl _) HBE.out).mono ?_
  rintro e w9 ⟨rfl, hb9⟩
  have HB9 := Lib.hid (HB8.out.trans (hb9.mono HB8.out.size))
  clear hb9 HB8 HST HBE hci hfr
  go_wp2_with fail
  refine (awake3_any _ (HT.out.below HB9.out HT.out.1)).mono ?_
  rintro e w10 ⟨rfl, hb10⟩
  have HB10 := Lib.hid (HB9.out.trans (hb10.mono HB9.out.size))
  clear hb10
  go_wp2_with fail
  go_ret
  exact ⟨rfl, HB10.out⟩
end Go.Proofs.YtapjaagigjfidaaDoor.Sh
