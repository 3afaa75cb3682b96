/- WheelOther: the walk. -/
import Derived.Test.YtmlmpjokmbgmcaaWhOthM
import Derived.Test.YtmlmpjokmbgmcaaWhKeptM
import Derived.Test.YtmlmpjokmbgmcaaWhSame
import Derived.Test.YtmlmpjokmbgmcaaAppZero
import Derived.Deep.CutBlock
import Derived.Deep.DeepCutAuto
import Derived.Deep.WholeRow
namespace Go.Proofs.Ytmlmpjokmbgmcaa
open Go.RowKit
theorem wp_make_full {P : Program} (w : World) {o : Oper} {a : Act} {K : Act → World → Prop} {Q : Exit → Act → World → Prop} (l c : Operand) (t : TypeId) (hop : o.op = Op.makeSlice t l c)
    (base : Nat) (e : TypeId) (i : TypeInfo) (z : Value) (size : Nat) (h1 : P.underlying t = some (.slice e)) (h2 : P.info? e = some i) (h3 : i.zero = some z) (h4 : i.size = size)
    (kl kc : IntKind) (L C : Int) (n : Nat) (hl : a.eval l = .int kl L) (hc : a.eval c = .int kc C) (hL : L = (n : Int)) (hC : C = (n : Int)) (b2 : i.bytes * n ≤ 281474976710656) (b3 : n ≤ maxLen) (b4 : base ≤ w.heap.size)
    (hK : ∀ w', w'.ownsRow base e size (.slice (some ⟨w.heap.size, 0, none⟩) n n) n (madeCells z.cells (n * size)).toList → w.grownBy w' none → K (a.put o.dst (.slice (some ⟨w.heap.size, 0, none⟩) n n)) w') : o.wp P a w K Q := by
  obtain ⟨w', hrun, r1, r2⟩ := run_make_full (P := P) w base t e i z size h1 h2 h3 h4 kl kc n b2 b3 b4
  subst hL
  subst hC
  unfold Oper.wp
  simp [execOp, hop, hl, hc, hrun, Result.andThen]
  exact hK w' r1 r2
structure MkR (gm s : Nat) (W : World) : Prop where
  row : Row W W.heap.size (some ⟨gm, 0, none⟩) s (bv (List.replicate s 0))
  lt : gm < W.heap.size
theorem MkR.below {gm s : Nat} {W W' : World} (h : MkR gm s W) (hb : Below W.heap.size W W') : MkR gm s W' := ⟨row_same1 h.row (hb.block gm h.lt) hb.size, Nat.lt_of_lt_of_le h.lt hb.size⟩
theorem lit_rec {W : World} {gm s : Nat} (h : MkR gm s W) : RecW (fun _ => True) (W.alloc (.cells #[.int .u32 9, .slice (some ⟨gm, 0, none⟩) s s] 73)) (.slice (some ⟨W.heap.size, 0, none⟩) 1 1) 1 [⟨9, some ⟨gm, 0, none⟩, s, s, List.replicate s 0⟩] := by
  have hlt := h.lt
  refine ⟨⟨rfl, .inr ⟨W.heap.size, 1, _, rfl, Nat.zero_le _, heap_alloc_new _ _, Nat.le_refl _, by unfold maxLen; omega, rfl, rfl⟩⟩, fun _ _ => trivial, rfl, fun r hr => ?_⟩
  obtain rfl := List.mem_singleton.1 hr
  refine ⟨gm, 0, rfl, trivial, by simp; omega, ?_, row_same1 h.row (heap_alloc_old _ _ hlt) (by simp)⟩
  show some W.heap.size ≠ some gm
  intro e
  injection e with e
  omega
set_option maxRecDepth 100000 in
set_option maxHeartbeats 12800000 in
theorem woth_walk (x0 : Int) (_ : -9223372036854775808 ≤ x0) (_ : x0 ≤ 9223372036854775807) (x1 : Int) (_ : -9223372036854775808 ≤ x1) (_ : x1 ≤ 9223372036854775807) (x2 : Int) (_ : -9223372036854775808 ≤ x2) (_ : x2 ≤ 9223372036854775807) (A : Option Addr) (m cap : Nat) (l : List UInt8) (w : World) (hrow : Row w w.heap.size A m (bv l)) (hmc : m ≤ cap) (hcm : cap ≤ 9223372036854775807) :
    Calls Try.prog 12 #[.int .i64 x0, .int .i64 x1, .int .i64 x2, .slice A m cap] w fun e w' => e = .returned (.bool true) ∧ Below w.heap.size w w' := by
  obtain ⟨i0, hi, hz0, hz1, hz2⟩ := info_parts Try.info73
  obtain ⟨j0, hj, hk0, hk1, hk2⟩ := info_parts Try.info5
  obtain ⟨p, hp, hnp⟩ := pick_in x0 16 (by omega) (by omega)
  obtain ⟨p2, hp2, hnp2⟩ := pick_in x1 16 (by omega) (by omega)
  obtain ⟨n, hn, hnn⟩ := pick_in x2 12 (by omega) (by omega)
  obtain ⟨size, hsz⟩ : ∃ n : Nat, n = p + 1 := ⟨_, rfl⟩
  obtain ⟨siz2, hsz2⟩ : ∃ n : Nat, n = p2 + 1 := ⟨_, rfl⟩
  have hs1 : 1 ≤ size := by omega
  have hs2 : size ≤ 16 := by omega
  have ht1 : 1 ≤ siz2 := by omega
  have ht2 : siz2 ≤ 16 := by omega
  have HW1 : Hid (wrap64 (1 + (p : Int)) = (size : Int)) := by show _ = _; rw [IntWalk.wrap64_in _ ⟨by omega, by omega⟩]; omega
  have HW2 : Hid (wrap64 (1 + (p2 : Int)) = (siz2 : Int)) := by show _ = _; rw [IntWalk.wrap64_in _ ⟨by omega, by omega⟩]; omega
  have HNP := Lib.hid hnp
  have HNP2 := Lib.hid hnp2
  have HNN := Lib.hid hnn
  have HROW := Lib.hid hrow
  have hn12 : n < 12 := by omega
  clear hnp hnp2 hnn hp hp2 hsz hsz2 hrow hn
  go_enter Try.func12, Try.ntmps12
  go_upto_region 2 with (first | rw [HNP.out] | rw [HNP2.out] | rw [HNN.out] | rw [HW1.out] | rw [HW2.out])
  clear HNP HNP2 HNN HW1 HW2
  have hszi : (size : Int) ≤ 16 := by omega
  have hszi1 : (1 : Int) ≤ (size : Int) := by omega
  have hszj : (siz2 : Int) ≤ 16 := by omega
  have hszj1 : (1 : Int) ≤ (siz2 : Int) := by omega
  go_wp2_with fail
  refine (new_any 9 w (by omega)).mono ?_
  rintro e w1 ⟨gf, rfl, hgf, hf, hb⟩
  have hbl : opW ((flNew 9).fill 0 3584) 1 size 8 = ⟨1, size, [], -1, 0⟩ := blank_new hs2 fun i _ hi => by
    show (if 0 ≤ i ∧ i < 0 + 3584 then (255 : UInt8) else _) = 255
    rw [if_pos (by omega)]
  have HO1 := Lib.hid (open_wo w gf 1 size (size : Int) rfl ((flNew 9).fill 0 3584) 0 w1 hf.out (new_ok 9 (by decide)) rfl hs1 hs2 hb.out hgf)
  have HGF := Lib.hid hgf
  have HOT := Lib.hid (OtF.new size)
  generalize (flNew 9).fill 0 3584 = f0 at *
  have HBL := Lib.hid hbl
  clear hf hb hbl hgf
  go_wp2_with fail
  refine HO1.out.mono ?_
  rintro e w2 ⟨gw, rfl, hw2, hb2⟩
  clear HO1 hb2
  go_upto_region 6 with fail
  obtain ⟨q, hq⟩ : ∃ q, min m 40 = q := ⟨_, rfl⟩
  have hqm : q ≤ m := by omega
  have hq40 : q ≤ 40 := by omega
  have HRQ := Lib.hid (HROW.out.below hw2.out.b)
  have hqi : (q : Int) ≤ 40 := by omega
  have hqc : (q : Int) ≤ (cap : Int) := by omega
  have HMIN : Hid ((if (40 : Int) < (m : Int) then (40 : Int) else (m : Int)) = (q : Int)) := by
    show _ = _
    split <;> omega
  clear hq
  have HRQ2 : Hid (Row (w2.alloc (.cells #[] 5)) w.heap.size A q (bv (l.take q))) := by
    have := (HRQ.out.alloc hw2.out.b.size (.cells #[] 5)).head hqm
    rw [bv_take] at this
    exact this
  go_wp2_with (first
    | rw [HMIN.out]
    | (at_builtin; refine wpList_app rfl (.tmp 43) (.tmp 48) 27 rfl w2.heap.size 5 j0 (.int .u8 0) 1 Try.underlying27 hj hk0 hk1 hk2 rfl _ 0 (bv []) rfl (own_lit (cs := #[]) rfl (Nat.le_refl _) rfl (by unfold maxLen; omega)) w.heap.size A q cap (bv (l.take q)) rfl HRQ2.out (bv_one _) (by unfold maxLen; omega) (by omega) (by simp) ?_; intro v4 w4 hown4 hg4 hat4; rw [Nat.zero_add, ← bv_append, List.nil_append] at hown4; obtain ⟨A4, c4, rfl, _⟩ := own_slice hown4)
    | (at_builtin; refine wpList_appZ rfl (.tmp 49) (.tmp 50) 27 3 rfl w2.heap.size 5 j0 Try.underlying27 Try.underlying3 hj hk0 hk1 hk2 _ q (l.take q) rfl hown4 size rfl (by omega) (by omega) (by have := hg4.size; simp at this; omega) ?_; intro v5 w5 hown5 hg5; obtain ⟨A5, cd, rfl, _⟩ := own_slice hown5; obtain ⟨gd, cq, hv5, hgd, hlt5⟩ := hown5.form (by omega); injection hv5 with e1 e2 e3; subst e1 e3; have hcd := own_cap hown5; have i1 : (size : Int) ≤ cd := by omega))
  have hg4' : (w2.alloc (.cells #[] 5)).grownBy w4 (some w2.heap.size) := hg4
  have hg5' : w4.grownBy w5 (Value.slice A4 q c4).ownBlock := hg5
  have hz4 : w2.heap.size ≤ w4.heap.size := by have := hg4'.size; simp at this; omega
  have hb25 : Below w2.heap.size w2 w5 := (((Below.refl _ _).alloc (Nat.le_refl _) _).grown hg4' (by simp) (fun g e => by injection e with e; omega)).grown hg5' hz4 (fun g e => (hown4.lt g e).1)
  have hrow := (Row.of_own hown5).head (k := size) (by omega)
  rw [bv_take] at hrow
  obtain ⟨d, hd⟩ : ∃ d, (l.take q ++ List.replicate size 0).take size = d := ⟨_, rfl⟩
  have HDL : Hid (d.length = size) := by
    show _ = _
    rw [← hd]; simp
  rw [hd] at hrow
  have HDR := Lib.hid hrow
  have HWO : Hid (WO w (fun b => w1.heap.size ≤ b ∧ b < w2.heap.size) gw gf (opW f0 1 size 8) f0 (400 * ((0 : Nat) : Int)) w5) := by
    have := hw2.out.below hb25
    exact ⟨this.wh, this.fl, this.ok.more (by simp), this.base, this.P, this.b⟩
  have HGD : Hid (w.heap.size ≤ gd ∧ ¬ (w1.heap.size ≤ gd ∧ gd < w2.heap.size) ∧ gd ≠ gf ∧ gd < w5.heap.size) := by
    have h1 := hw2.out.fl.lt
    have h2 := hw2.out.b.size
    exact ⟨by omega, by omega, by omega, hlt5⟩
  have HN0 : Hid ((opW f0 1 size 8).next = 0 ∧ (opW f0 1 size 8).L.length = 0) := by
    rw [HBL.out]; exact ⟨rfl, rfl⟩
  clear hown4 hg4 hat4 hown5 hg5 hgd hlt5 hcd hg4' hg5' hz4 hb25 hrow hd HMIN HRQ2 HRQ hw2 HBL HROW
  go_loopw [55] (fun i wr => ∃ (k : Nat) (f : Fl) (P : Nat → Prop), k ≤ n ∧ i = .int .i64 k ∧ Hid (WO w P gw gf (opW f 1 size 8) f (400 * (k : Int)) wr) ∧ Hid (OtF f size k) ∧ Hid ((opW f 1 size 8).next = k ∧ (opW f 1 size 8).L.length = k) ∧ Hid (w.heap.size ≤ gd ∧ ¬ P gd ∧ gd ≠ gf ∧ gd < wr.heap.size) ∧ Hid (Row wr wr.heap.size (some ⟨gd, 0, none⟩) size (bv d))) (fun i _ => n - (intOf i).toNat)
  case atStart => exact ⟨0, f0, _, by omega, rfl, HWO, HOT, HN0, HGD, HDR⟩
  case round =>
    clear HWO HOT HN0 HGD HDR
    obtain ⟨k, f, P, hk, rfl, hwo, hot, hnn, hgd, hdr⟩ := hrel
    obtain ⟨wq, rfl⟩ : ∃ wq : World, wq = wr := ⟨_, rfl⟩
    have hpb := per_bounds hs1 hs2
    by_cases hlt : k < n
    · have hkk : (k : Int) < (n : Int) := by omega
      have hk12 : (k : Int) < 12 := by omega
      have hu : IntKind.u32.wrap (k : Int) = (k : Int) := by rw [IntKind.wrap_u32]; omega
      obtain ⟨f2, e1, e2, e3, e4⟩ := hot.out.add (id := k) (d := d) hs1 hs2 HDL.out (by omega) hnn.out.1 (by omega)
      have HE1 := Lib.hid e1
      have HOT2 := Lib.hid e2
      have HN2 : Hid ((opW f2 1 size 8).next = k + 1 ∧ (opW f2 1 size 8).L.length = k + 1) := ⟨e3, by rw [e4, hnn.out.2]⟩
      have HAD := Lib.hid (wadd_w w P gw gf k wq.heap.size size cd _ (opW f 1 size 8) d f _ wq hwo.out (opW_ok f 1 size (by omega) hs1 hs2) (by omega) hdr.out (by omega) (fun b o e _ => by
        injection e with e
        injection e with e
        rw [← e]
        exact ⟨hgd.out.2.2.1, hgd.out.2.1⟩) (Nat.le_refl _) (by omega))
      rw [HE1.out] at HAD
      clear e1 e2 e3 e4 hot hnn hwo hpb HE1
      go_wp2_with fail
      refine HAD.out.mono ?_
      rintro e w6 ⟨rfl, hw6, hfr6⟩
      dsimp only at hw6 ⊢
      have HGD2 : Hid (w.heap.size ≤ gd ∧ ¬ Pn P wq w6 gd ∧ gd ≠ gf ∧ gd < w6.heap.size) :=
        ⟨hgd.out.1, fun h => h.elim hgd.out.2.1 (fun h => by have := hgd.out.2.2.2; omega), hgd.out.2.2.1, Nat.lt_of_lt_of_le hgd.out.2.2.2 hfr6.out.size⟩
      have HDR2 := Lib.hid (row_same1 hdr.out (hfr6.out.block gd hgd.out.2.2.2 (fun h => h.elim hgd.out.2.1 hgd.out.2.2.1)) hfr6.out.size)
      clear HAD hfr6 hgd hdr
      go_wp2_with fail
      go_roundw
      case rel => exact ⟨k + 1, f2, _, by omega, by go_num, by have := hw6.out; rwa [show (400 : Int) * k + 400 = 400 * ((k + 1 : Nat) : Int) by push_cast; omega] at this, HOT2, HN2, HGD2, HDR2⟩
      case measure => simp [intOf]; omega
    · obtain rfl : k = n := by omega
      have HOY := Lib.hid (open_wo w gf 2 siz2 (siz2 : Int) rfl f _ wq hwo.out.fl hwo.out.ok hot.out.down ht1 ht2 hwo.out.b hwo.out.base)
      have hok2 := opW_ok f 2 siz2 (by omega) ht1 ht2
      rw [hot.out.other siz2 ht2] at HOY hok2
      have HOK2 := Lib.hid hok2
      have HGB := Lib.hid hwo.out.base
      obtain ⟨f2, g1, g2, g3, g4, g5⟩ := hot.out.first (id := 9) (d := List.replicate siz2 0) hs1 hs2 ht1 ht2 (by simp) (by omega)
      have HG1 := Lib.hid g1
      have HG2 := Lib.hid g2
      have HG3 := Lib.hid g3
      have HG4 := Lib.hid g4
      have hg5 := g5 8
      rw [hnn.out.2] at hg5
      have HG5 := Lib.hid hg5
      have HNL := Lib.hid hnn.out.2
      clear hgd hdr hlt hpb hok2 g1 g2 g3 g4 g5 hg5 hnn hwo
      go_wp2_with fail
      refine HOY.out.mono ?_
      rintro e w6 ⟨gy, rfl, hy, hb6⟩
      have HOX := Lib.hid (open_wo w gf 1 size (size : Int) rfl f _ w6 hy.out.fl hy.out.ok hot.out.down hs1 hs2 hy.out.b HGB.out)
      clear HOY hb6 hot
      go_wp2_with fail
      refine HOX.out.mono ?_
      rintro e w7 ⟨gx, rfl, hx, hb7⟩
      have HY7 := Lib.hid (hy.out.below hb7.out)
      have HR1 := Lib.hid (recs_any _ gy gf _ w7 HY7.out.wh (fun p hp => by cases hp) (Nat.zero_le _))
      clear HOX hy hb7
      go_wp2_with fail
      refine HR1.out.mono ?_
      rintro e w8 ⟨A8, n8, c8, es8, rfl, hr8, hm8, hb8⟩
      obtain rfl : n8 = 0 := by rw [← hr8.out.2.2.1, ← List.length_map (f := RRow.pair), hm8.out]; rfl
      have HX8 := Lib.hid (hx.out.below hb8.out)
      have HY8 := Lib.hid (HY7.out.below hb8.out)
      have HR2 := Lib.hid (recs_any _ gx gf (opW f 1 size 8) w8 HX8.out.wh (opW_L_len f 1 size hs1 hs2).1 (opW_L_len f 1 size hs1 hs2).2)
      clear HR1 hr8 hm8 hb8 hx HY7
      go_wp2_with fail
      refine HR2.out.mono ?_
      rintro e w9 ⟨A9, n9, c9, es9, rfl, hr9, hm9, hb9⟩
      have hn9 : n9 = k := by rw [← hr9.out.2.2.1, ← List.length_map (f := RRow.pair), hm9.out, HNL.out]
      subst hn9
      have hnq : ((n9 : Int) != (n9 : Int)) = false := bne_self_eq_false _
      have HY9 := Lib.hid (HY8.out.below hb9.out)
      clear HR2 hr9 hm9 hb9 HX8 HY8 HNL
      go_wp2_with (at_make; refine wpList_make_full w9 rfl _ _ 27 rfl w9.heap.size 5 j0 (.int .u8 0) 1 Try.underlying27 hj hk0 hk1 .i64 .i64 _ _ siz2 rfl rfl rfl rfl (by rw [hk2]; omega) (by unfold maxLen; omega) (Nat.le_refl _) ?_; intro w10 hown10 hg10)
      have hb10 : Below w9.heap.size w9 w10 := (Below.refl _ _).grown hg10 (Nat.le_refl _) (by intro g h; cases h)
      rw [made_zero] at hown10
      have HAD := Lib.hid (wadd_w w _ gy gf 9 w10.heap.size siz2 siz2 _ _ (List.replicate siz2 0) f _ w10 (HY9.out.below hb10) HOK2.out (by omega) (Row.of_own hown10) (by omega) (fun b o e _ => by
        injection e with e
        injection e with e
        have h1 := HY9.out.fl.lt
        exact ⟨by omega, fun h => by have := (HY9.out.P b h).2; omega⟩) (Nat.le_refl _) (by omega))
      rw [HG1.out] at HAD
      clear hown10 hg10 hb10 HY9 HOK2 HG1
      refine HAD.out.mono ?_
      rintro e w11 ⟨rfl, hw11, hfr11⟩
      dsimp only at hw11 ⊢
      have HOZ := Lib.hid (open_wo w gf 1 size (size : Int) rfl f2 _ w11 hw11.out.fl hw11.out.ok HG3.out hs1 hs2 hw11.out.b HGB.out)
      clear HAD hfr11
      go_wp2_with fail
      refine HOZ.out.mono ?_
      rintro e wb ⟨gz, rfl, hz, hbb⟩
      have HY := Lib.hid (hw11.out.below hbb.out)
      have HZ := hz
      have HLZ := Lib.hid (opW_L_len f2 1 size hs1 hs2)
      clear HOZ hz hbb hw11 HGB HDL f0
      go_upto_region 20 with fail
      have HLY := Lib.hid (opW_L_len f2 2 siz2 ht1 ht2)
      rcases Nat.eq_zero_or_pos n9 with hn0 | hn0
      · subst hn0
        refine wp_region_noPanic ?_
        refine wp_region_held_drew (S := (fun W => Below (wb.heap.size) wb W)) (by kernel_rfl) (Below.refl _ _).drew (fun hH0 => ?_)
        have hH0 : Below (wb.heap.size) wb wb.drew := hH0
        generalize wb.drew = wd700 at *
        refine wpAnyH_take (i := 0) (oi := { dst := some 107, op := Op.move (Operand.tmp 19), type := 31, pos := "more.go:35", after := #[], guard := none }) (v := ?tkv701) rfl (by kernel_rfl) (by kernel_rfl) (by kernel_rfl) (fun _ _ _ h => h) (Or.inl ⟨by rfl, ?tky701⟩) hH0 ?tkr701
        case tky701 => (intro w' hSw; clear hSw; go_simp; try with_reducible rfl)
        try simp only [Act.put, List.setIfInBounds_toArray, List.set_cons_zero, List.set_cons_succ]
        refine wpAnyH_take (i := 1) (oi := { dst := some 108, op := Op.binOp BinOp.eql 31 (Operand.tmp 107) (Operand.const (Value.int IntKind.i64 0)) 31, type := 4, pos := "more.go:35", after := #[{ on := 0, ground := Ground.data }], guard := none }) (v := ?tkv702) rfl (by kernel_rfl) (by kernel_rfl) (by kernel_rfl) (fun _ _ _ h => h) (Or.inl ⟨by rfl, ?tky702⟩) hH0 ?tkr702
        case tky702 => (intro w' hSw; clear hSw; go_simp; try with_reducible rfl)
        try simp only [Act.put, List.setIfInBounds_toArray, List.set_cons_zero, List.set_cons_succ]
        refine wpAnyH_take (i := 2) (oi := { dst := some 109, op := Op.move (Operand.tmp 108), type := 4, pos := "more.go:35", after := #[{ on := 1, ground := Ground.data }], guard := none }) (v := ?tkv703) rfl (by kernel_rfl) (by kernel_rfl) (by kernel_rfl) (fun _ _ _ h => h) (Or.inl ⟨by rfl, ?tky703⟩) hH0 ?tkr703
        case tky703 => (intro w' hSw; clear hSw; go_simp; try with_reducible rfl)
        try simp only [Act.put, List.setIfInBounds_toArray, List.set_cons_zero, List.set_cons_succ]
        refine wpAnyH_take (i := 3) (oi := { dst := some 110, op := Op.move (Operand.tmp 18), type := 56, pos := "more.go:35", after := #[{ on := 2, ground := Ground.guard }], guard := some (2, true) }) (v := ?tkv704) rfl (by kernel_rfl) (by kernel_rfl) (by kernel_rfl) (fun _ _ _ h => h) (Or.inl ⟨by rfl, ?tky704⟩) hH0 ?tkr704
        case tky704 => (intro w' hSw; clear hSw; go_simp; try with_reducible rfl)
        try simp only [Act.put, List.setIfInBounds_toArray, List.set_cons_zero, List.set_cons_succ]
        refine wpAnyH_take (i := 6) (oi := { dst := some 113, op := Op.move (Operand.tmp 2), type := 3, pos := "more.go:35", after := #[{ on := 2, ground := Ground.guard }], guard := some (2, true) }) (v := ?tkv705) rfl (by kernel_rfl) (by kernel_rfl) (by kernel_rfl) (fun _ _ _ h => h) (Or.inl ⟨by rfl, ?tky705⟩) hH0 ?tkr705
        case tky705 => (intro w' hSw; clear hSw; go_simp; try with_reducible rfl)
        try simp only [Act.put, List.setIfInBounds_toArray, List.set_cons_zero, List.set_cons_succ]
        refine wpAnyH_ready (rs := [4]) (by kernel_rfl) (by simp) ?_
        refine AllReadyH.cons (o := { dst := some 111, op := Op.call { callee := Callee.value (Operand.func 38), args := #[Operand.tmp 110], argTypes := #[56] }, type := 66, pos := "more.go:35", after := #[{ on := 3, ground := Ground.data }, { on := 2, ground := Ground.chain }, { on := 2, ground := Ground.guard }], guard := some (2, true) }) rfl (fun K hK => ?_) AllReadyH.nil
        go_simp
        refine (recs_any _ gz gf (opW f2 1 size 8) wd700 (HZ.out.below (hH0)).wh HLZ.out.1 HLZ.out.2).mono ?_
        rintro e' wn706 ⟨Az706, nz706, cz706, ez706, rfl, hrz706, hmz706, hb706⟩
        have hnzn706 : nz706 ≤ 0 := by
          have h1 := HG5.out
          rw [← hmz706.out, List.length_map, hrz706.out.2.2.1] at h1
          exact h1
        obtain rfl : nz706 = 0 := by omega
        clear hnzn706
        clear hrz706 hmz706
        have hb706 := hb706.out
        go_simp
        have hS706 : Below (wb.heap.size) wb wn706 := (hH0).trans (hb706.mono (hH0).size)
        refine hK.out _ _ hS706 (fun hH706 => ?_)
        have hH706 : Below (wb.heap.size) wb wn706 := hH706
        clear hK K hS706
        try simp only [Act.put, List.setIfInBounds_toArray, List.set_cons_zero, List.set_cons_succ]
        refine wpAnyH_take (i := 5) (oi := { dst := some 112, op := Op.call { callee := Callee.builtin Builtin.len, args := #[Operand.tmp 111], argTypes := #[66] }, type := 3, pos := "more.go:35", after := #[{ on := 4, ground := Ground.data }, { on := 2, ground := Ground.guard }], guard := some (2, true) }) (v := ?tkv707) rfl (by kernel_rfl) (by kernel_rfl) (by kernel_rfl) (fun _ _ _ h => h) (Or.inl ⟨by rfl, ?tky707⟩) hH706 ?tkr707
        case tky707 => (intro w' hSw; clear hSw; go_simp; try with_reducible rfl)
        try simp only [Act.put, List.setIfInBounds_toArray, List.set_cons_zero, List.set_cons_succ]
        refine wpAnyH_take (i := 7) (oi := { dst := some 114, op := Op.binOp BinOp.leq 3 (Operand.tmp 112) (Operand.tmp 113) 3, type := 4, pos := "more.go:35", after := #[{ on := 5, ground := Ground.data }, { on := 6, ground := Ground.data }, { on := 2, ground := Ground.guard }], guard := some (2, true) }) (v := ?tkv708) rfl (by kernel_rfl) (by kernel_rfl) (by kernel_rfl) (fun _ _ _ h => h) (Or.inl ⟨by rfl, ?tky708⟩) hH706 ?tkr708
        case tky708 => (intro w' hSw; clear hSw; go_simp; try with_reducible rfl)
        try simp only [Act.put, List.setIfInBounds_toArray, List.set_cons_zero, List.set_cons_succ]
        refine wpAnyH_take (i := 8) (oi := { dst := some 115, op := Op.pick (Operand.tmp 109) (Operand.tmp 114) (Operand.const (Value.bool false)), type := 4, pos := "more.go:35", after := #[{ on := 2, ground := Ground.data }, { on := 7, ground := Ground.data }], guard := none }) (v := ?tkv709) rfl (by kernel_rfl) (by kernel_rfl) (by kernel_rfl) (fun _ _ _ h => h) (Or.inl ⟨by rfl, ?tky709⟩) hH706 ?tkr709
        case tky709 => (intro w' hSw; clear hSw; go_simp; try with_reducible rfl)
        try simp only [Act.put, List.setIfInBounds_toArray, List.set_cons_zero, List.set_cons_succ]
        refine wpAnyH_take (i := 9) (oi := { dst := some 116, op := Op.move (Operand.tmp 115), type := 4, pos := "more.go:35", after := #[{ on := 8, ground := Ground.data }, { on := 4, ground := Ground.chain }], guard := none }) (v := ?tkv710) rfl (by kernel_rfl) (by kernel_rfl) (by kernel_rfl) (fun _ _ _ h => h) (Or.inl ⟨by rfl, ?tky710⟩) hH706 ?tkr710
        case tky710 => (intro w' hSw; clear hSw; go_simp; try with_reducible rfl)
        try simp only [Act.put, List.setIfInBounds_toArray, List.set_cons_zero, List.set_cons_succ]
        refine wpAnyH_take (i := 10) (oi := { dst := some 117, op := Op.move (Operand.tmp 14), type := 56, pos := "more.go:35", after := #[{ on := 9, ground := Ground.guard }], guard := some (9, true) }) (v := ?tkv711) rfl (by kernel_rfl) (by kernel_rfl) (by kernel_rfl) (fun _ _ _ h => h) (Or.inl ⟨by rfl, ?tky711⟩) hH706 ?tkr711
        case tky711 => (intro w' hSw; clear hSw; go_simp; try with_reducible rfl)
        try simp only [Act.put, List.setIfInBounds_toArray, List.set_cons_zero, List.set_cons_succ]
        refine wpAnyH_take (i := 12) (oi := { dst := some 119, op := Op.move (Operand.tmp 1), type := 3, pos := "more.go:35", after := #[{ on := 9, ground := Ground.guard }], guard := some (9, true) }) (v := ?tkv712) rfl (by kernel_rfl) (by kernel_rfl) (by kernel_rfl) (fun _ _ _ h => h) (Or.inl ⟨by rfl, ?tky712⟩) hH706 ?tkr712
        case tky712 => (intro w' hSw; clear hSw; go_simp; try with_reducible rfl)
        try simp only [Act.put, List.setIfInBounds_toArray, List.set_cons_zero, List.set_cons_succ]
        refine wpAnyH_ready (rs := [11, 13]) (by kernel_rfl) (by simp) ?_
        refine AllReadyH.cons (o := { dst := some 118, op := Op.call { callee := Callee.value (Operand.func 38), args := #[Operand.tmp 117], argTypes := #[56] }, type := 66, pos := "more.go:35", after := #[{ on := 10, ground := Ground.data }, { on := 9, ground := Ground.chain }, { on := 9, ground := Ground.guard }], guard := some (9, true) }) rfl (fun K hK => ?_) (AllReadyH.cons (o := { dst := some 120, op := Op.makeSlice 27 (Operand.tmp 119) (Operand.tmp 119), type := 27, pos := "more.go:35", after := #[{ on := 12, ground := Ground.data }, { on := 12, ground := Ground.data }, { on := 9, ground := Ground.guard }], guard := some (9, true) }) rfl (fun K hK => ?_) AllReadyH.nil)
        · go_simp
          refine (recs_any _ gy gf (opW f2 2 siz2 8) wn706 (HY.out.below (hH706)).wh HLY.out.1 HLY.out.2).mono ?_
          rintro e' wn713 ⟨Ay713, ny713, cy713, ey713, rfl, hry713, hmy713, hb713⟩
          obtain rfl : ny713 = 1 := by rw [← hry713.out.2.2.1, ← List.length_map (f := RRow.pair), hmy713.out, HG2.out]; rfl
          have HMY713 := Lib.hid (hmy713.out.trans HG2.out)
          have HRY713 := Lib.hid hry713.out
          clear hry713 hmy713
          have hb713 := hb713.out
          go_simp
          have hS713 : Below (wb.heap.size) wb wn713 := (hH706).trans (hb713.mono (hH706).size)
          refine hK.out _ _ hS713 (fun hH713 => ?_)
          have hH713 : Below (wb.heap.size) wb wn713 := hH713
          clear hK K hS713
          try simp only [Act.put, List.setIfInBounds_toArray, List.set_cons_zero, List.set_cons_succ]
          refine wpAnyH_ready (rs := [13]) (by kernel_rfl) (by simp) ?_
          refine AllReadyH.cons (o := { dst := some 120, op := Op.makeSlice 27 (Operand.tmp 119) (Operand.tmp 119), type := 27, pos := "more.go:35", after := #[{ on := 12, ground := Ground.data }, { on := 12, ground := Ground.data }, { on := 9, ground := Ground.guard }], guard := some (9, true) }) rfl (fun K hK => ?_) AllReadyH.nil
          rw [if_pos (by rfl)]
          refine wp_make_full wn713 (.tmp 119) (.tmp 119) 27 rfl wn713.heap.size 5 j0 (.int .u8 0) 1 Try.underlying27 hj hk0 hk1 .i64 .i64 _ _ siz2 rfl rfl rfl rfl (by rw [hk2]; omega) (by unfold maxLen; omega) (Nat.le_refl _) ?_
          intro wn714 hown714 hg714
          have hb714 : Below wn713.heap.size wn713 wn714 := (Below.refl _ _).grown hg714 (Nat.le_refl _) (by intro g h; cases h)
          rw [made_zero] at hown714
          obtain ⟨gm714, hgm714⟩ : ∃ g, wn713.heap.size = g := ⟨_, rfl⟩
          have OM714 : Hid (MkR gm714 siz2 wn714) := Lib.hid (by rw [← hgm714]; exact ⟨Row.of_own hown714, (hown714.lt _ rfl).2⟩)
          rw [hgm714]
          clear hown714 hg714 hgm714
          have HRY713_714 := Lib.hid (HRY713.out.below hb714)
          have hS714 : Below (wb.heap.size) wb wn714 := (hH713).trans (hb714.mono (hH713).size)
          refine hK.out _ _ hS714 (fun hH714 => ?_)
          have hH714 : Below (wb.heap.size) wb wn714 := hH714
          clear hK K hS714
          try simp only [Act.put, List.setIfInBounds_toArray, List.set_cons_zero, List.set_cons_succ]
          refine wpAnyH_take (i := 14) (oi := { dst := some 121, op := Op.build 73 #[(0, Operand.const (Value.int IntKind.u32 9)), (1, Operand.tmp 120)], type := 73, pos := "more.go:35", after := #[{ on := 13, ground := Ground.data }, { on := 9, ground := Ground.guard }], guard := some (9, true) }) (v := ?tkv715) rfl (by kernel_rfl) (by kernel_rfl) (by kernel_rfl) (fun _ _ _ h => h) (Or.inl ⟨by rfl, ?tky715⟩) hH714 ?tkr715
          case tky715 => (intro w' hSw; clear hSw; go_simp; try with_reducible rfl)
          try simp only [Act.put, List.setIfInBounds_toArray, List.set_cons_zero, List.set_cons_succ]
          refine wpAnyH_ready (rs := [15]) (by kernel_rfl) (by simp) ?_
          refine AllReadyH.cons (o := { dst := some 122, op := Op.buildSlice 66 1 #[(0, Operand.tmp 121)], type := 66, pos := "more.go:35", after := #[{ on := 14, ground := Ground.data }, { on := 9, ground := Ground.guard }], guard := some (9, true) }) rfl (fun K hK => ?_) AllReadyH.nil
          go_simp
          have hb716 : Below wn714.heap.size wn714 (wn714.alloc (.cells #[.int .u32 9, .slice (some ⟨gm714, 0, none⟩) siz2 siz2] 73)) := (Below.refl _ _).alloc (Nat.le_refl _) _
          have RL716 := Lib.hid (lit_rec OM714.out)
          obtain ⟨gl716, hgl716⟩ : ∃ g, wn714.heap.size = g := ⟨_, rfl⟩
          rw [hgl716] at RL716 ⊢
          generalize (wn714.alloc (.cells #[.int .u32 9, .slice (some ⟨gm714, 0, none⟩) siz2 siz2] 73)) = wn716 at *
          clear hgl716
          have HRY713_716 := Lib.hid (HRY713_714.out.below hb716)
          have OM714_716 := Lib.hid (OM714.out.below hb716)
          have hS716 : Below (wb.heap.size) wb wn716 := (hH714).trans (hb716.mono (hH714).size)
          refine hK.out _ _ hS716 (fun hH716 => ?_)
          have hH716 : Below (wb.heap.size) wb wn716 := hH716
          clear hK K hS716
          try simp only [Act.put, List.setIfInBounds_toArray, List.set_cons_zero, List.set_cons_succ]
          refine wpAnyH_ready (rs := [16]) (by kernel_rfl) (by simp) ?_
          refine AllReadyH.cons (o := { dst := some 123, op := Op.call { callee := Callee.value (Operand.func 37), args := #[Operand.tmp 118, Operand.tmp 122], argTypes := #[66, 66] }, type := 4, pos := "more.go:35", after := #[{ on := 11, ground := Ground.data }, { on := 15, ground := Ground.data }, { on := 11, ground := Ground.chain }, { on := 9, ground := Ground.guard }], guard := some (9, true) }) rfl (fun K hK => ?_) AllReadyH.nil
          go_simp
          refine (wsame_yes _ _ 1 cy713 1 Ay713 _ ey713 _ wn716 HRY713_716.out RL716.out HMY713.out (by omega)).mono ?_
          rintro e' wn717 ⟨rfl, hb717⟩
          have hb717 := hb717.out
          go_simp
          have HRY713_717 := Lib.hid (HRY713_716.out.below hb717)
          have OM714_717 := Lib.hid (OM714_716.out.below hb717)
          have RL716_717 := Lib.hid (RL716.out.below hb717)
          have hS717 : Below (wb.heap.size) wb wn717 := (hH716).trans (hb717.mono (hH716).size)
          refine hK.out _ _ hS717 (fun hH717 => ?_)
          have hH717 : Below (wb.heap.size) wb wn717 := hH717
          clear hK K hS717
          try simp only [Act.put, List.setIfInBounds_toArray, List.set_cons_zero, List.set_cons_succ]
          refine wpAnyH_take (i := 17) (oi := { dst := some 124, op := Op.pick (Operand.tmp 116) (Operand.tmp 123) (Operand.const (Value.bool false)), type := 4, pos := "more.go:35", after := #[{ on := 9, ground := Ground.data }, { on := 16, ground := Ground.data }], guard := none }) (v := ?tkv718) rfl (by kernel_rfl) (by kernel_rfl) (by kernel_rfl) (fun _ _ _ h => h) (Or.inl ⟨by rfl, ?tky718⟩) hH717 ?tkr718
          case tky718 => (intro w' hSw; clear hSw; go_simp; try with_reducible rfl)
          try simp only [Act.put, List.setIfInBounds_toArray, List.set_cons_zero, List.set_cons_succ]
          refine wpAnyH_take (i := 18) (oi := { dst := some 125, op := Op.move (Operand.tmp 124), type := 4, pos := "more.go:35", after := #[{ on := 17, ground := Ground.data }, { on := 16, ground := Ground.chain }], guard := none }) (v := ?tkv719) rfl (by kernel_rfl) (by kernel_rfl) (by kernel_rfl) (fun _ _ _ h => h) (Or.inl ⟨by rfl, ?tky719⟩) hH717 ?tkr719
          case tky719 => (intro w' hSw; clear hSw; go_simp; try with_reducible rfl)
          try simp only [Act.put, List.setIfInBounds_toArray, List.set_cons_zero, List.set_cons_succ]
          refine wpAnyH_take (i := 19) (oi := { dst := some 126, op := Op.move (Operand.tmp 2), type := 3, pos := "more.go:35", after := #[{ on := 18, ground := Ground.guard }], guard := some (18, true) }) (v := ?tkv720) rfl (by kernel_rfl) (by kernel_rfl) (by kernel_rfl) (fun _ _ _ h => h) (Or.inl ⟨by rfl, ?tky720⟩) hH717 ?tkr720
          case tky720 => (intro w' hSw; clear hSw; go_simp; try with_reducible rfl)
          try simp only [Act.put, List.setIfInBounds_toArray, List.set_cons_zero, List.set_cons_succ]
          refine wpAnyH_take (i := 20) (oi := { dst := some 127, op := Op.binOp BinOp.eql 3 (Operand.tmp 126) (Operand.const (Value.int IntKind.i64 0)) 3, type := 4, pos := "more.go:35", after := #[{ on := 19, ground := Ground.data }, { on := 18, ground := Ground.guard }], guard := some (18, true) }) (v := ?tkv721) rfl (by kernel_rfl) (by kernel_rfl) (by kernel_rfl) (fun _ _ _ h => h) (Or.inl ⟨by rfl, ?tky721⟩) hH717 ?tkr721
          case tky721 => (intro w' hSw; clear hSw; go_simp; try with_reducible rfl)
          try simp only [Act.put, List.setIfInBounds_toArray, List.set_cons_zero, List.set_cons_succ]
          refine wpAnyH_take (i := 21) (oi := { dst := some 128, op := Op.move (Operand.tmp 127), type := 4, pos := "more.go:35", after := #[{ on := 20, ground := Ground.data }, { on := 18, ground := Ground.chain }, { on := 18, ground := Ground.guard }], guard := some (18, true) }) (v := ?tkv722) rfl (by kernel_rfl) (by kernel_rfl) (by kernel_rfl) (fun _ _ _ h => h) (Or.inl ⟨by rfl, ?tky722⟩) hH717 ?tkr722
          case tky722 => (intro w' hSw; clear hSw; go_simp; try with_reducible rfl)
          try simp only [Act.put, List.setIfInBounds_toArray, List.set_cons_zero, List.set_cons_succ]
          refine wpAnyH_take (i := 22) (oi := { dst := some 129, op := Op.move (Operand.tmp 9), type := 23, pos := "more.go:35", after := #[{ on := 21, ground := Ground.guard }], guard := some (21, false) }) (v := undef) rfl (by kernel_rfl) (by kernel_rfl) (by kernel_rfl) (fun _ _ _ h => h) (Or.inr ⟨by rfl, rfl⟩) hH717 ?tkr723
          try simp only [Act.put, List.setIfInBounds_toArray, List.set_cons_zero, List.set_cons_succ]
          refine wpAnyH_take (i := 23) (oi := { dst := some 130, op := Op.call { callee := Callee.value (Operand.func 29), args := #[Operand.tmp 129, Operand.const (Value.int IntKind.i64 6)], argTypes := #[23, 3] }, type := 3, pos := "more.go:35", after := #[{ on := 22, ground := Ground.data }, { on := 21, ground := Ground.chain }, { on := 21, ground := Ground.guard }], guard := some (21, false) }) (v := undef) rfl (by kernel_rfl) (by kernel_rfl) (by kernel_rfl) (fun _ _ _ h => h) (Or.inr ⟨by rfl, rfl⟩) hH717 ?tkr724
          try simp only [Act.put, List.setIfInBounds_toArray, List.set_cons_zero, List.set_cons_succ]
          refine wpAnyH_take (i := 24) (oi := { dst := some 131, op := Op.binOp BinOp.eql 3 (Operand.tmp 130) (Operand.const (Value.int IntKind.i64 1)) 3, type := 4, pos := "more.go:35", after := #[{ on := 23, ground := Ground.data }, { on := 21, ground := Ground.guard }], guard := some (21, false) }) (v := undef) rfl (by kernel_rfl) (by kernel_rfl) (by kernel_rfl) (fun _ _ _ h => h) (Or.inr ⟨by rfl, rfl⟩) hH717 ?tkr725
          try simp only [Act.put, List.setIfInBounds_toArray, List.set_cons_zero, List.set_cons_succ]
          refine wpAnyH_take (i := 25) (oi := { dst := some 132, op := Op.pick (Operand.tmp 128) (Operand.const (Value.bool true)) (Operand.tmp 131), type := 4, pos := "more.go:35", after := #[{ on := 21, ground := Ground.data }, { on := 24, ground := Ground.data }, { on := 18, ground := Ground.guard }], guard := some (18, true) }) (v := ?tkv726) rfl (by kernel_rfl) (by kernel_rfl) (by kernel_rfl) (fun _ _ _ h => h) (Or.inl ⟨by rfl, ?tky726⟩) hH717 ?tkr726
          case tky726 => (intro w' hSw; clear hSw; go_simp; try with_reducible rfl)
          try simp only [Act.put, List.setIfInBounds_toArray, List.set_cons_zero, List.set_cons_succ]
          refine wpAnyH_take (i := 26) (oi := { dst := some 133, op := Op.pick (Operand.tmp 125) (Operand.tmp 132) (Operand.const (Value.bool false)), type := 4, pos := "more.go:35", after := #[{ on := 18, ground := Ground.data }, { on := 25, ground := Ground.data }], guard := none }) (v := ?tkv727) rfl (by kernel_rfl) (by kernel_rfl) (by kernel_rfl) (fun _ _ _ h => h) (Or.inl ⟨by rfl, ?tky727⟩) hH717 ?tkr727
          case tky727 => (intro w' hSw; clear hSw; go_simp; try with_reducible rfl)
          try simp only [Act.put, List.setIfInBounds_toArray, List.set_cons_zero, List.set_cons_succ]
          refine wpAnyH_take (i := 27) (oi := { dst := some 134, op := Op.move (Operand.tmp 133), type := 4, pos := "more.go:35", after := #[{ on := 26, ground := Ground.data }, { on := 23, ground := Ground.chain }], guard := none }) (v := ?tkv728) rfl (by kernel_rfl) (by kernel_rfl) (by kernel_rfl) (fun _ _ _ h => h) (Or.inl ⟨by rfl, ?tky728⟩) hH717 ?tkr728
          case tky728 => (intro w' hSw; clear hSw; go_simp; try with_reducible rfl)
          try simp only [Act.put, List.setIfInBounds_toArray, List.set_cons_zero, List.set_cons_succ]
          refine wpAnyH_ready (rs := [28]) (by kernel_rfl) (by simp) ?_
          refine AllReadyH.cons (o := { dst := some 135, op := Op.call { callee := Callee.value (Operand.func 32), args := #[], argTypes := #[] }, type := 4, pos := "more.go:35", after := #[{ on := 27, ground := Ground.chain }, { on := 27, ground := Ground.guard }], guard := some (27, true) }) rfl (fun K hK => ?_) AllReadyH.nil
          go_simp
          refine (awake18_any wn717).mono ?_
          rintro e' wn729 ⟨rfl, hb729⟩
          have hb729 := hb729.out
          go_simp
          have HRY713_729 := Lib.hid (HRY713_717.out.below hb729)
          have OM714_729 := Lib.hid (OM714_717.out.below hb729)
          have RL716_729 := Lib.hid (RL716_717.out.below hb729)
          have hS729 : Below (wb.heap.size) wb wn729 := (hH717).trans (hb729.mono (hH717).size)
          refine hK.out _ _ hS729 (fun hH729 => ?_)
          have hH729 : Below (wb.heap.size) wb wn729 := hH729
          clear hK K hS729
          try simp only [Act.put, List.setIfInBounds_toArray, List.set_cons_zero, List.set_cons_succ]
          refine wpAnyH_take (i := 29) (oi := { dst := some 136, op := Op.pick (Operand.tmp 134) (Operand.tmp 135) (Operand.const (Value.bool false)), type := 4, pos := "more.go:35", after := #[{ on := 27, ground := Ground.data }, { on := 28, ground := Ground.data }], guard := none }) (v := ?tkv730) rfl (by kernel_rfl) (by kernel_rfl) (by kernel_rfl) (fun _ _ _ h => h) (Or.inl ⟨by rfl, ?tky730⟩) hH729 ?tkr730
          case tky730 => (intro w' hSw; clear hSw; go_simp; try with_reducible rfl)
          try simp only [Act.put, List.setIfInBounds_toArray, List.set_cons_zero, List.set_cons_succ]
          refine wpAnyH_take (i := 30) (oi := { dst := some 8, op := Op.assign (Operand.tmp 136), type := 4, pos := "more.go:35", after := #[{ on := 29, ground := Ground.data }, { on := 28, ground := Ground.chain }, { on := 0, ground := Ground.phase }, { on := 1, ground := Ground.phase }, { on := 2, ground := Ground.phase }, { on := 3, ground := Ground.phase }, { on := 4, ground := Ground.phase }, { on := 5, ground := Ground.phase }, { on := 6, ground := Ground.phase }, { on := 7, ground := Ground.phase }, { on := 8, ground := Ground.phase }, { on := 9, ground := Ground.phase }, { on := 10, ground := Ground.phase }, { on := 11, ground := Ground.phase }, { on := 12, ground := Ground.phase }, { on := 13, ground := Ground.phase }, { on := 14, ground := Ground.phase }, { on := 15, ground := Ground.phase }, { on := 16, ground := Ground.phase }, { on := 17, ground := Ground.phase }, { on := 18, ground := Ground.phase }, { on := 19, ground := Ground.phase }, { on := 20, ground := Ground.phase }, { on := 21, ground := Ground.phase }, { on := 22, ground := Ground.phase }, { on := 23, ground := Ground.phase }, { on := 24, ground := Ground.phase }, { on := 25, ground := Ground.phase }, { on := 26, ground := Ground.phase }, { on := 27, ground := Ground.phase }, { on := 28, ground := Ground.phase }, { on := 29, ground := Ground.phase }], guard := none }) (v := ?tkv731) rfl (by kernel_rfl) (by kernel_rfl) (by kernel_rfl) (fun _ _ _ h => h) (Or.inl ⟨by rfl, ?tky731⟩) hH729 ?tkr731
          case tky731 => (intro w' hSw; clear hSw; go_simp; try with_reducible rfl)
          try simp only [Act.put, List.setIfInBounds_toArray, List.set_cons_zero, List.set_cons_succ]
          refine wpAnyH_done (by kernel_rfl) ?_ _
          refine NoPanic.normal ?_
          go_wp2_with fail
          go_ret
          exact ⟨rfl, HZ.out.b.trans ((hH729).mono HZ.out.b.size)⟩
        · rw [if_pos (by rfl)]
          refine wp_make_full wn706 (.tmp 119) (.tmp 119) 27 rfl wn706.heap.size 5 j0 (.int .u8 0) 1 Try.underlying27 hj hk0 hk1 .i64 .i64 _ _ siz2 rfl rfl rfl rfl (by rw [hk2]; omega) (by unfold maxLen; omega) (Nat.le_refl _) ?_
          intro wn732 hown732 hg732
          have hb732 : Below wn706.heap.size wn706 wn732 := (Below.refl _ _).grown hg732 (Nat.le_refl _) (by intro g h; cases h)
          rw [made_zero] at hown732
          obtain ⟨gm732, hgm732⟩ : ∃ g, wn706.heap.size = g := ⟨_, rfl⟩
          have OM732 : Hid (MkR gm732 siz2 wn732) := Lib.hid (by rw [← hgm732]; exact ⟨Row.of_own hown732, (hown732.lt _ rfl).2⟩)
          rw [hgm732]
          clear hown732 hg732 hgm732
          have hS732 : Below (wb.heap.size) wb wn732 := (hH706).trans (hb732.mono (hH706).size)
          refine hK.out _ _ hS732 (fun hH732 => ?_)
          have hH732 : Below (wb.heap.size) wb wn732 := hH732
          clear hK K hS732
          try simp only [Act.put, List.setIfInBounds_toArray, List.set_cons_zero, List.set_cons_succ]
          refine wpAnyH_take (i := 14) (oi := { dst := some 121, op := Op.build 73 #[(0, Operand.const (Value.int IntKind.u32 9)), (1, Operand.tmp 120)], type := 73, pos := "more.go:35", after := #[{ on := 13, ground := Ground.data }, { on := 9, ground := Ground.guard }], guard := some (9, true) }) (v := ?tkv733) rfl (by kernel_rfl) (by kernel_rfl) (by kernel_rfl) (fun _ _ _ h => h) (Or.inl ⟨by rfl, ?tky733⟩) hH732 ?tkr733
          case tky733 => (intro w' hSw; clear hSw; go_simp; try with_reducible rfl)
          try simp only [Act.put, List.setIfInBounds_toArray, List.set_cons_zero, List.set_cons_succ]
          refine wpAnyH_ready (rs := [11, 15]) (by kernel_rfl) (by simp) ?_
          refine AllReadyH.cons (o := { dst := some 118, op := Op.call { callee := Callee.value (Operand.func 38), args := #[Operand.tmp 117], argTypes := #[56] }, type := 66, pos := "more.go:35", after := #[{ on := 10, ground := Ground.data }, { on := 9, ground := Ground.chain }, { on := 9, ground := Ground.guard }], guard := some (9, true) }) rfl (fun K hK => ?_) (AllReadyH.cons (o := { dst := some 122, op := Op.buildSlice 66 1 #[(0, Operand.tmp 121)], type := 66, pos := "more.go:35", after := #[{ on := 14, ground := Ground.data }, { on := 9, ground := Ground.guard }], guard := some (9, true) }) rfl (fun K hK => ?_) AllReadyH.nil)
          · go_simp
            refine (recs_any _ gy gf (opW f2 2 siz2 8) wn732 (HY.out.below (hH732)).wh HLY.out.1 HLY.out.2).mono ?_
            rintro e' wn734 ⟨Ay734, ny734, cy734, ey734, rfl, hry734, hmy734, hb734⟩
            obtain rfl : ny734 = 1 := by rw [← hry734.out.2.2.1, ← List.length_map (f := RRow.pair), hmy734.out, HG2.out]; rfl
            have HMY734 := Lib.hid (hmy734.out.trans HG2.out)
            have HRY734 := Lib.hid hry734.out
            clear hry734 hmy734
            have hb734 := hb734.out
            go_simp
            have OM732_734 := Lib.hid (OM732.out.below hb734)
            have hS734 : Below (wb.heap.size) wb wn734 := (hH732).trans (hb734.mono (hH732).size)
            refine hK.out _ _ hS734 (fun hH734 => ?_)
            have hH734 : Below (wb.heap.size) wb wn734 := hH734
            clear hK K hS734
            try simp only [Act.put, List.setIfInBounds_toArray, List.set_cons_zero, List.set_cons_succ]
            refine wpAnyH_ready (rs := [15]) (by kernel_rfl) (by simp) ?_
            refine AllReadyH.cons (o := { dst := some 122, op := Op.buildSlice 66 1 #[(0, Operand.tmp 121)], type := 66, pos := "more.go:35", after := #[{ on := 14, ground := Ground.data }, { on := 9, ground := Ground.guard }], guard := some (9, true) }) rfl (fun K hK => ?_) AllReadyH.nil
            go_simp
            have hb735 : Below wn734.heap.size wn734 (wn734.alloc (.cells #[.int .u32 9, .slice (some ⟨gm732, 0, none⟩) siz2 siz2] 73)) := (Below.refl _ _).alloc (Nat.le_refl _) _
            have RL735 := Lib.hid (lit_rec OM732_734.out)
            obtain ⟨gl735, hgl735⟩ : ∃ g, wn734.heap.size = g := ⟨_, rfl⟩
            rw [hgl735] at RL735 ⊢
            generalize (wn734.alloc (.cells #[.int .u32 9, .slice (some ⟨gm732, 0, none⟩) siz2 siz2] 73)) = wn735 at *
            clear hgl735
            have OM732_735 := Lib.hid (OM732_734.out.below hb735)
            have HRY734_735 := Lib.hid (HRY734.out.below hb735)
            have hS735 : Below (wb.heap.size) wb wn735 := (hH734).trans (hb735.mono (hH734).size)
            refine hK.out _ _ hS735 (fun hH735 => ?_)
            have hH735 : Below (wb.heap.size) wb wn735 := hH735
            clear hK K hS735
            try simp only [Act.put, List.setIfInBounds_toArray, List.set_cons_zero, List.set_cons_succ]
            refine wpAnyH_ready (rs := [16]) (by kernel_rfl) (by simp) ?_
            refine AllReadyH.cons (o := { dst := some 123, op := Op.call { callee := Callee.value (Operand.func 37), args := #[Operand.tmp 118, Operand.tmp 122], argTypes := #[66, 66] }, type := 4, pos := "more.go:35", after := #[{ on := 11, ground := Ground.data }, { on := 15, ground := Ground.data }, { on := 11, ground := Ground.chain }, { on := 9, ground := Ground.guard }], guard := some (9, true) }) rfl (fun K hK => ?_) AllReadyH.nil
            go_simp
            refine (wsame_yes _ _ 1 cy734 1 Ay734 _ ey734 _ wn735 HRY734_735.out RL735.out HMY734.out (by omega)).mono ?_
            rintro e' wn736 ⟨rfl, hb736⟩
            have hb736 := hb736.out
            go_simp
            have OM732_736 := Lib.hid (OM732_735.out.below hb736)
            have HRY734_736 := Lib.hid (HRY734_735.out.below hb736)
            have RL735_736 := Lib.hid (RL735.out.below hb736)
            have hS736 : Below (wb.heap.size) wb wn736 := (hH735).trans (hb736.mono (hH735).size)
            refine hK.out _ _ hS736 (fun hH736 => ?_)
            have hH736 : Below (wb.heap.size) wb wn736 := hH736
            clear hK K hS736
            try simp only [Act.put, List.setIfInBounds_toArray, List.set_cons_zero, List.set_cons_succ]
            refine wpAnyH_take (i := 17) (oi := { dst := some 124, op := Op.pick (Operand.tmp 116) (Operand.tmp 123) (Operand.const (Value.bool false)), type := 4, pos := "more.go:35", after := #[{ on := 9, ground := Ground.data }, { on := 16, ground := Ground.data }], guard := none }) (v := ?tkv737) rfl (by kernel_rfl) (by kernel_rfl) (by kernel_rfl) (fun _ _ _ h => h) (Or.inl ⟨by rfl, ?tky737⟩) hH736 ?tkr737
            case tky737 => (intro w' hSw; clear hSw; go_simp; try with_reducible rfl)
            try simp only [Act.put, List.setIfInBounds_toArray, List.set_cons_zero, List.set_cons_succ]
            refine wpAnyH_take (i := 18) (oi := { dst := some 125, op := Op.move (Operand.tmp 124), type := 4, pos := "more.go:35", after := #[{ on := 17, ground := Ground.data }, { on := 16, ground := Ground.chain }], guard := none }) (v := ?tkv738) rfl (by kernel_rfl) (by kernel_rfl) (by kernel_rfl) (fun _ _ _ h => h) (Or.inl ⟨by rfl, ?tky738⟩) hH736 ?tkr738
            case tky738 => (intro w' hSw; clear hSw; go_simp; try with_reducible rfl)
            try simp only [Act.put, List.setIfInBounds_toArray, List.set_cons_zero, List.set_cons_succ]
            refine wpAnyH_take (i := 19) (oi := { dst := some 126, op := Op.move (Operand.tmp 2), type := 3, pos := "more.go:35", after := #[{ on := 18, ground := Ground.guard }], guard := some (18, true) }) (v := ?tkv739) rfl (by kernel_rfl) (by kernel_rfl) (by kernel_rfl) (fun _ _ _ h => h) (Or.inl ⟨by rfl, ?tky739⟩) hH736 ?tkr739
            case tky739 => (intro w' hSw; clear hSw; go_simp; try with_reducible rfl)
            try simp only [Act.put, List.setIfInBounds_toArray, List.set_cons_zero, List.set_cons_succ]
            refine wpAnyH_take (i := 20) (oi := { dst := some 127, op := Op.binOp BinOp.eql 3 (Operand.tmp 126) (Operand.const (Value.int IntKind.i64 0)) 3, type := 4, pos := "more.go:35", after := #[{ on := 19, ground := Ground.data }, { on := 18, ground := Ground.guard }], guard := some (18, true) }) (v := ?tkv740) rfl (by kernel_rfl) (by kernel_rfl) (by kernel_rfl) (fun _ _ _ h => h) (Or.inl ⟨by rfl, ?tky740⟩) hH736 ?tkr740
            case tky740 => (intro w' hSw; clear hSw; go_simp; try with_reducible rfl)
            try simp only [Act.put, List.setIfInBounds_toArray, List.set_cons_zero, List.set_cons_succ]
            refine wpAnyH_take (i := 21) (oi := { dst := some 128, op := Op.move (Operand.tmp 127), type := 4, pos := "more.go:35", after := #[{ on := 20, ground := Ground.data }, { on := 18, ground := Ground.chain }, { on := 18, ground := Ground.guard }], guard := some (18, true) }) (v := ?tkv741) rfl (by kernel_rfl) (by kernel_rfl) (by kernel_rfl) (fun _ _ _ h => h) (Or.inl ⟨by rfl, ?tky741⟩) hH736 ?tkr741
            case tky741 => (intro w' hSw; clear hSw; go_simp; try with_reducible rfl)
            try simp only [Act.put, List.setIfInBounds_toArray, List.set_cons_zero, List.set_cons_succ]
            refine wpAnyH_take (i := 22) (oi := { dst := some 129, op := Op.move (Operand.tmp 9), type := 23, pos := "more.go:35", after := #[{ on := 21, ground := Ground.guard }], guard := some (21, false) }) (v := undef) rfl (by kernel_rfl) (by kernel_rfl) (by kernel_rfl) (fun _ _ _ h => h) (Or.inr ⟨by rfl, rfl⟩) hH736 ?tkr742
            try simp only [Act.put, List.setIfInBounds_toArray, List.set_cons_zero, List.set_cons_succ]
            refine wpAnyH_take (i := 23) (oi := { dst := some 130, op := Op.call { callee := Callee.value (Operand.func 29), args := #[Operand.tmp 129, Operand.const (Value.int IntKind.i64 6)], argTypes := #[23, 3] }, type := 3, pos := "more.go:35", after := #[{ on := 22, ground := Ground.data }, { on := 21, ground := Ground.chain }, { on := 21, ground := Ground.guard }], guard := some (21, false) }) (v := undef) rfl (by kernel_rfl) (by kernel_rfl) (by kernel_rfl) (fun _ _ _ h => h) (Or.inr ⟨by rfl, rfl⟩) hH736 ?tkr743
            try simp only [Act.put, List.setIfInBounds_toArray, List.set_cons_zero, List.set_cons_succ]
            refine wpAnyH_take (i := 24) (oi := { dst := some 131, op := Op.binOp BinOp.eql 3 (Operand.tmp 130) (Operand.const (Value.int IntKind.i64 1)) 3, type := 4, pos := "more.go:35", after := #[{ on := 23, ground := Ground.data }, { on := 21, ground := Ground.guard }], guard := some (21, false) }) (v := undef) rfl (by kernel_rfl) (by kernel_rfl) (by kernel_rfl) (fun _ _ _ h => h) (Or.inr ⟨by rfl, rfl⟩) hH736 ?tkr744
            try simp only [Act.put, List.setIfInBounds_toArray, List.set_cons_zero, List.set_cons_succ]
            refine wpAnyH_take (i := 25) (oi := { dst := some 132, op := Op.pick (Operand.tmp 128) (Operand.const (Value.bool true)) (Operand.tmp 131), type := 4, pos := "more.go:35", after := #[{ on := 21, ground := Ground.data }, { on := 24, ground := Ground.data }, { on := 18, ground := Ground.guard }], guard := some (18, true) }) (v := ?tkv745) rfl (by kernel_rfl) (by kernel_rfl) (by kernel_rfl) (fun _ _ _ h => h) (Or.inl ⟨by rfl, ?tky745⟩) hH736 ?tkr745
            case tky745 => (intro w' hSw; clear hSw; go_simp; try with_reducible rfl)
            try simp only [Act.put, List.setIfInBounds_toArray, List.set_cons_zero, List.set_cons_succ]
            refine wpAnyH_take (i := 26) (oi := { dst := some 133, op := Op.pick (Operand.tmp 125) (Operand.tmp 132) (Operand.const (Value.bool false)), type := 4, pos := "more.go:35", after := #[{ on := 18, ground := Ground.data }, { on := 25, ground := Ground.data }], guard := none }) (v := ?tkv746) rfl (by kernel_rfl) (by kernel_rfl) (by kernel_rfl) (fun _ _ _ h => h) (Or.inl ⟨by rfl, ?tky746⟩) hH736 ?tkr746
            case tky746 => (intro w' hSw; clear hSw; go_simp; try with_reducible rfl)
            try simp only [Act.put, List.setIfInBounds_toArray, List.set_cons_zero, List.set_cons_succ]
            refine wpAnyH_take (i := 27) (oi := { dst := some 134, op := Op.move (Operand.tmp 133), type := 4, pos := "more.go:35", after := #[{ on := 26, ground := Ground.data }, { on := 23, ground := Ground.chain }], guard := none }) (v := ?tkv747) rfl (by kernel_rfl) (by kernel_rfl) (by kernel_rfl) (fun _ _ _ h => h) (Or.inl ⟨by rfl, ?tky747⟩) hH736 ?tkr747
            case tky747 => (intro w' hSw; clear hSw; go_simp; try with_reducible rfl)
            try simp only [Act.put, List.setIfInBounds_toArray, List.set_cons_zero, List.set_cons_succ]
            refine wpAnyH_ready (rs := [28]) (by kernel_rfl) (by simp) ?_
            refine AllReadyH.cons (o := { dst := some 135, op := Op.call { callee := Callee.value (Operand.func 32), args := #[], argTypes := #[] }, type := 4, pos := "more.go:35", after := #[{ on := 27, ground := Ground.chain }, { on := 27, ground := Ground.guard }], guard := some (27, true) }) rfl (fun K hK => ?_) AllReadyH.nil
            go_simp
            refine (awake18_any wn736).mono ?_
            rintro e' wn748 ⟨rfl, hb748⟩
            have hb748 := hb748.out
            go_simp
            have OM732_748 := Lib.hid (OM732_736.out.below hb748)
            have HRY734_748 := Lib.hid (HRY734_736.out.below hb748)
            have RL735_748 := Lib.hid (RL735_736.out.below hb748)
            have hS748 : Below (wb.heap.size) wb wn748 := (hH736).trans (hb748.mono (hH736).size)
            refine hK.out _ _ hS748 (fun hH748 => ?_)
            have hH748 : Below (wb.heap.size) wb wn748 := hH748
            clear hK K hS748
            try simp only [Act.put, List.setIfInBounds_toArray, List.set_cons_zero, List.set_cons_succ]
            refine wpAnyH_take (i := 29) (oi := { dst := some 136, op := Op.pick (Operand.tmp 134) (Operand.tmp 135) (Operand.const (Value.bool false)), type := 4, pos := "more.go:35", after := #[{ on := 27, ground := Ground.data }, { on := 28, ground := Ground.data }], guard := none }) (v := ?tkv749) rfl (by kernel_rfl) (by kernel_rfl) (by kernel_rfl) (fun _ _ _ h => h) (Or.inl ⟨by rfl, ?tky749⟩) hH748 ?tkr749
            case tky749 => (intro w' hSw; clear hSw; go_simp; try with_reducible rfl)
            try simp only [Act.put, List.setIfInBounds_toArray, List.set_cons_zero, List.set_cons_succ]
            refine wpAnyH_take (i := 30) (oi := { dst := some 8, op := Op.assign (Operand.tmp 136), type := 4, pos := "more.go:35", after := #[{ on := 29, ground := Ground.data }, { on := 28, ground := Ground.chain }, { on := 0, ground := Ground.phase }, { on := 1, ground := Ground.phase }, { on := 2, ground := Ground.phase }, { on := 3, ground := Ground.phase }, { on := 4, ground := Ground.phase }, { on := 5, ground := Ground.phase }, { on := 6, ground := Ground.phase }, { on := 7, ground := Ground.phase }, { on := 8, ground := Ground.phase }, { on := 9, ground := Ground.phase }, { on := 10, ground := Ground.phase }, { on := 11, ground := Ground.phase }, { on := 12, ground := Ground.phase }, { on := 13, ground := Ground.phase }, { on := 14, ground := Ground.phase }, { on := 15, ground := Ground.phase }, { on := 16, ground := Ground.phase }, { on := 17, ground := Ground.phase }, { on := 18, ground := Ground.phase }, { on := 19, ground := Ground.phase }, { on := 20, ground := Ground.phase }, { on := 21, ground := Ground.phase }, { on := 22, ground := Ground.phase }, { on := 23, ground := Ground.phase }, { on := 24, ground := Ground.phase }, { on := 25, ground := Ground.phase }, { on := 26, ground := Ground.phase }, { on := 27, ground := Ground.phase }, { on := 28, ground := Ground.phase }, { on := 29, ground := Ground.phase }], guard := none }) (v := ?tkv750) rfl (by kernel_rfl) (by kernel_rfl) (by kernel_rfl) (fun _ _ _ h => h) (Or.inl ⟨by rfl, ?tky750⟩) hH748 ?tkr750
            case tky750 => (intro w' hSw; clear hSw; go_simp; try with_reducible rfl)
            try simp only [Act.put, List.setIfInBounds_toArray, List.set_cons_zero, List.set_cons_succ]
            refine wpAnyH_done (by kernel_rfl) ?_ _
            refine NoPanic.normal ?_
            go_wp2_with fail
            go_ret
            exact ⟨rfl, HZ.out.b.trans ((hH748).mono HZ.out.b.size)⟩
          · go_simp
            have hb751 : Below wn732.heap.size wn732 (wn732.alloc (.cells #[.int .u32 9, .slice (some ⟨gm732, 0, none⟩) siz2 siz2] 73)) := (Below.refl _ _).alloc (Nat.le_refl _) _
            have RL751 := Lib.hid (lit_rec OM732.out)
            obtain ⟨gl751, hgl751⟩ : ∃ g, wn732.heap.size = g := ⟨_, rfl⟩
            rw [hgl751] at RL751 ⊢
            generalize (wn732.alloc (.cells #[.int .u32 9, .slice (some ⟨gm732, 0, none⟩) siz2 siz2] 73)) = wn751 at *
            clear hgl751
            have OM732_751 := Lib.hid (OM732.out.below hb751)
            have hS751 : Below (wb.heap.size) wb wn751 := (hH732).trans (hb751.mono (hH732).size)
            refine hK.out _ _ hS751 (fun hH751 => ?_)
            have hH751 : Below (wb.heap.size) wb wn751 := hH751
            clear hK K hS751
            try simp only [Act.put, List.setIfInBounds_toArray, List.set_cons_zero, List.set_cons_succ]
            refine wpAnyH_ready (rs := [11]) (by kernel_rfl) (by simp) ?_
            refine AllReadyH.cons (o := { dst := some 118, op := Op.call { callee := Callee.value (Operand.func 38), args := #[Operand.tmp 117], argTypes := #[56] }, type := 66, pos := "more.go:35", after := #[{ on := 10, ground := Ground.data }, { on := 9, ground := Ground.chain }, { on := 9, ground := Ground.guard }], guard := some (9, true) }) rfl (fun K hK => ?_) AllReadyH.nil
            go_simp
            refine (recs_any _ gy gf (opW f2 2 siz2 8) wn751 (HY.out.below (hH751)).wh HLY.out.1 HLY.out.2).mono ?_
            rintro e' wn752 ⟨Ay752, ny752, cy752, ey752, rfl, hry752, hmy752, hb752⟩
            obtain rfl : ny752 = 1 := by rw [← hry752.out.2.2.1, ← List.length_map (f := RRow.pair), hmy752.out, HG2.out]; rfl
            have HMY752 := Lib.hid (hmy752.out.trans HG2.out)
            have HRY752 := Lib.hid hry752.out
            clear hry752 hmy752
            have hb752 := hb752.out
            go_simp
            have OM732_752 := Lib.hid (OM732_751.out.below hb752)
            have RL751_752 := Lib.hid (RL751.out.below hb752)
            have hS752 : Below (wb.heap.size) wb wn752 := (hH751).trans (hb752.mono (hH751).size)
            refine hK.out _ _ hS752 (fun hH752 => ?_)
            have hH752 : Below (wb.heap.size) wb wn752 := hH752
            clear hK K hS752
            try simp only [Act.put, List.setIfInBounds_toArray, List.set_cons_zero, List.set_cons_succ]
            refine wpAnyH_ready (rs := [16]) (by kernel_rfl) (by simp) ?_
            refine AllReadyH.cons (o := { dst := some 123, op := Op.call { callee := Callee.value (Operand.func 37), args := #[Operand.tmp 118, Operand.tmp 122], argTypes := #[66, 66] }, type := 4, pos := "more.go:35", after := #[{ on := 11, ground := Ground.data }, { on := 15, ground := Ground.data }, { on := 11, ground := Ground.chain }, { on := 9, ground := Ground.guard }], guard := some (9, true) }) rfl (fun K hK => ?_) AllReadyH.nil
            go_simp
            refine (wsame_yes _ _ 1 cy752 1 Ay752 _ ey752 _ wn752 HRY752.out RL751_752.out HMY752.out (by omega)).mono ?_
            rintro e' wn753 ⟨rfl, hb753⟩
            have hb753 := hb753.out
            go_simp
            have OM732_753 := Lib.hid (OM732_752.out.below hb753)
            have RL751_753 := Lib.hid (RL751_752.out.below hb753)
            have HRY752_753 := Lib.hid (HRY752.out.below hb753)
            have hS753 : Below (wb.heap.size) wb wn753 := (hH752).trans (hb753.mono (hH752).size)
            refine hK.out _ _ hS753 (fun hH753 => ?_)
            have hH753 : Below (wb.heap.size) wb wn753 := hH753
            clear hK K hS753
            try simp only [Act.put, List.setIfInBounds_toArray, List.set_cons_zero, List.set_cons_succ]
            refine wpAnyH_take (i := 17) (oi := { dst := some 124, op := Op.pick (Operand.tmp 116) (Operand.tmp 123) (Operand.const (Value.bool false)), type := 4, pos := "more.go:35", after := #[{ on := 9, ground := Ground.data }, { on := 16, ground := Ground.data }], guard := none }) (v := ?tkv754) rfl (by kernel_rfl) (by kernel_rfl) (by kernel_rfl) (fun _ _ _ h => h) (Or.inl ⟨by rfl, ?tky754⟩) hH753 ?tkr754
            case tky754 => (intro w' hSw; clear hSw; go_simp; try with_reducible rfl)
            try simp only [Act.put, List.setIfInBounds_toArray, List.set_cons_zero, List.set_cons_succ]
            refine wpAnyH_take (i := 18) (oi := { dst := some 125, op := Op.move (Operand.tmp 124), type := 4, pos := "more.go:35", after := #[{ on := 17, ground := Ground.data }, { on := 16, ground := Ground.chain }], guard := none }) (v := ?tkv755) rfl (by kernel_rfl) (by kernel_rfl) (by kernel_rfl) (fun _ _ _ h => h) (Or.inl ⟨by rfl, ?tky755⟩) hH753 ?tkr755
            case tky755 => (intro w' hSw; clear hSw; go_simp; try with_reducible rfl)
            try simp only [Act.put, List.setIfInBounds_toArray, List.set_cons_zero, List.set_cons_succ]
            refine wpAnyH_take (i := 19) (oi := { dst := some 126, op := Op.move (Operand.tmp 2), type := 3, pos := "more.go:35", after := #[{ on := 18, ground := Ground.guard }], guard := some (18, true) }) (v := ?tkv756) rfl (by kernel_rfl) (by kernel_rfl) (by kernel_rfl) (fun _ _ _ h => h) (Or.inl ⟨by rfl, ?tky756⟩) hH753 ?tkr756
            case tky756 => (intro w' hSw; clear hSw; go_simp; try with_reducible rfl)
            try simp only [Act.put, List.setIfInBounds_toArray, List.set_cons_zero, List.set_cons_succ]
            refine wpAnyH_take (i := 20) (oi := { dst := some 127, op := Op.binOp BinOp.eql 3 (Operand.tmp 126) (Operand.const (Value.int IntKind.i64 0)) 3, type := 4, pos := "more.go:35", after := #[{ on := 19, ground := Ground.data }, { on := 18, ground := Ground.guard }], guard := some (18, true) }) (v := ?tkv757) rfl (by kernel_rfl) (by kernel_rfl) (by kernel_rfl) (fun _ _ _ h => h) (Or.inl ⟨by rfl, ?tky757⟩) hH753 ?tkr757
            case tky757 => (intro w' hSw; clear hSw; go_simp; try with_reducible rfl)
            try simp only [Act.put, List.setIfInBounds_toArray, List.set_cons_zero, List.set_cons_succ]
            refine wpAnyH_take (i := 21) (oi := { dst := some 128, op := Op.move (Operand.tmp 127), type := 4, pos := "more.go:35", after := #[{ on := 20, ground := Ground.data }, { on := 18, ground := Ground.chain }, { on := 18, ground := Ground.guard }], guard := some (18, true) }) (v := ?tkv758) rfl (by kernel_rfl) (by kernel_rfl) (by kernel_rfl) (fun _ _ _ h => h) (Or.inl ⟨by rfl, ?tky758⟩) hH753 ?tkr758
            case tky758 => (intro w' hSw; clear hSw; go_simp; try with_reducible rfl)
            try simp only [Act.put, List.setIfInBounds_toArray, List.set_cons_zero, List.set_cons_succ]
            refine wpAnyH_take (i := 22) (oi := { dst := some 129, op := Op.move (Operand.tmp 9), type := 23, pos := "more.go:35", after := #[{ on := 21, ground := Ground.guard }], guard := some (21, false) }) (v := undef) rfl (by kernel_rfl) (by kernel_rfl) (by kernel_rfl) (fun _ _ _ h => h) (Or.inr ⟨by rfl, rfl⟩) hH753 ?tkr759
            try simp only [Act.put, List.setIfInBounds_toArray, List.set_cons_zero, List.set_cons_succ]
            refine wpAnyH_take (i := 23) (oi := { dst := some 130, op := Op.call { callee := Callee.value (Operand.func 29), args := #[Operand.tmp 129, Operand.const (Value.int IntKind.i64 6)], argTypes := #[23, 3] }, type := 3, pos := "more.go:35", after := #[{ on := 22, ground := Ground.data }, { on := 21, ground := Ground.chain }, { on := 21, ground := Ground.guard }], guard := some (21, false) }) (v := undef) rfl (by kernel_rfl) (by kernel_rfl) (by kernel_rfl) (fun _ _ _ h => h) (Or.inr ⟨by rfl, rfl⟩) hH753 ?tkr760
            try simp only [Act.put, List.setIfInBounds_toArray, List.set_cons_zero, List.set_cons_succ]
            refine wpAnyH_take (i := 24) (oi := { dst := some 131, op := Op.binOp BinOp.eql 3 (Operand.tmp 130) (Operand.const (Value.int IntKind.i64 1)) 3, type := 4, pos := "more.go:35", after := #[{ on := 23, ground := Ground.data }, { on := 21, ground := Ground.guard }], guard := some (21, false) }) (v := undef) rfl (by kernel_rfl) (by kernel_rfl) (by kernel_rfl) (fun _ _ _ h => h) (Or.inr ⟨by rfl, rfl⟩) hH753 ?tkr761
            try simp only [Act.put, List.setIfInBounds_toArray, List.set_cons_zero, List.set_cons_succ]
            refine wpAnyH_take (i := 25) (oi := { dst := some 132, op := Op.pick (Operand.tmp 128) (Operand.const (Value.bool true)) (Operand.tmp 131), type := 4, pos := "more.go:35", after := #[{ on := 21, ground := Ground.data }, { on := 24, ground := Ground.data }, { on := 18, ground := Ground.guard }], guard := some (18, true) }) (v := ?tkv762) rfl (by kernel_rfl) (by kernel_rfl) (by kernel_rfl) (fun _ _ _ h => h) (Or.inl ⟨by rfl, ?tky762⟩) hH753 ?tkr762
            case tky762 => (intro w' hSw; clear hSw; go_simp; try with_reducible rfl)
            try simp only [Act.put, List.setIfInBounds_toArray, List.set_cons_zero, List.set_cons_succ]
            refine wpAnyH_take (i := 26) (oi := { dst := some 133, op := Op.pick (Operand.tmp 125) (Operand.tmp 132) (Operand.const (Value.bool false)), type := 4, pos := "more.go:35", after := #[{ on := 18, ground := Ground.data }, { on := 25, ground := Ground.data }], guard := none }) (v := ?tkv763) rfl (by kernel_rfl) (by kernel_rfl) (by kernel_rfl) (fun _ _ _ h => h) (Or.inl ⟨by rfl, ?tky763⟩) hH753 ?tkr763
            case tky763 => (intro w' hSw; clear hSw; go_simp; try with_reducible rfl)
            try simp only [Act.put, List.setIfInBounds_toArray, List.set_cons_zero, List.set_cons_succ]
            refine wpAnyH_take (i := 27) (oi := { dst := some 134, op := Op.move (Operand.tmp 133), type := 4, pos := "more.go:35", after := #[{ on := 26, ground := Ground.data }, { on := 23, ground := Ground.chain }], guard := none }) (v := ?tkv764) rfl (by kernel_rfl) (by kernel_rfl) (by kernel_rfl) (fun _ _ _ h => h) (Or.inl ⟨by rfl, ?tky764⟩) hH753 ?tkr764
            case tky764 => (intro w' hSw; clear hSw; go_simp; try with_reducible rfl)
            try simp only [Act.put, List.setIfInBounds_toArray, List.set_cons_zero, List.set_cons_succ]
            refine wpAnyH_ready (rs := [28]) (by kernel_rfl) (by simp) ?_
            refine AllReadyH.cons (o := { dst := some 135, op := Op.call { callee := Callee.value (Operand.func 32), args := #[], argTypes := #[] }, type := 4, pos := "more.go:35", after := #[{ on := 27, ground := Ground.chain }, { on := 27, ground := Ground.guard }], guard := some (27, true) }) rfl (fun K hK => ?_) AllReadyH.nil
            go_simp
            refine (awake18_any wn753).mono ?_
            rintro e' wn765 ⟨rfl, hb765⟩
            have hb765 := hb765.out
            go_simp
            have OM732_765 := Lib.hid (OM732_753.out.below hb765)
            have RL751_765 := Lib.hid (RL751_753.out.below hb765)
            have HRY752_765 := Lib.hid (HRY752_753.out.below hb765)
            have hS765 : Below (wb.heap.size) wb wn765 := (hH753).trans (hb765.mono (hH753).size)
            refine hK.out _ _ hS765 (fun hH765 => ?_)
            have hH765 : Below (wb.heap.size) wb wn765 := hH765
            clear hK K hS765
            try simp only [Act.put, List.setIfInBounds_toArray, List.set_cons_zero, List.set_cons_succ]
            refine wpAnyH_take (i := 29) (oi := { dst := some 136, op := Op.pick (Operand.tmp 134) (Operand.tmp 135) (Operand.const (Value.bool false)), type := 4, pos := "more.go:35", after := #[{ on := 27, ground := Ground.data }, { on := 28, ground := Ground.data }], guard := none }) (v := ?tkv766) rfl (by kernel_rfl) (by kernel_rfl) (by kernel_rfl) (fun _ _ _ h => h) (Or.inl ⟨by rfl, ?tky766⟩) hH765 ?tkr766
            case tky766 => (intro w' hSw; clear hSw; go_simp; try with_reducible rfl)
            try simp only [Act.put, List.setIfInBounds_toArray, List.set_cons_zero, List.set_cons_succ]
            refine wpAnyH_take (i := 30) (oi := { dst := some 8, op := Op.assign (Operand.tmp 136), type := 4, pos := "more.go:35", after := #[{ on := 29, ground := Ground.data }, { on := 28, ground := Ground.chain }, { on := 0, ground := Ground.phase }, { on := 1, ground := Ground.phase }, { on := 2, ground := Ground.phase }, { on := 3, ground := Ground.phase }, { on := 4, ground := Ground.phase }, { on := 5, ground := Ground.phase }, { on := 6, ground := Ground.phase }, { on := 7, ground := Ground.phase }, { on := 8, ground := Ground.phase }, { on := 9, ground := Ground.phase }, { on := 10, ground := Ground.phase }, { on := 11, ground := Ground.phase }, { on := 12, ground := Ground.phase }, { on := 13, ground := Ground.phase }, { on := 14, ground := Ground.phase }, { on := 15, ground := Ground.phase }, { on := 16, ground := Ground.phase }, { on := 17, ground := Ground.phase }, { on := 18, ground := Ground.phase }, { on := 19, ground := Ground.phase }, { on := 20, ground := Ground.phase }, { on := 21, ground := Ground.phase }, { on := 22, ground := Ground.phase }, { on := 23, ground := Ground.phase }, { on := 24, ground := Ground.phase }, { on := 25, ground := Ground.phase }, { on := 26, ground := Ground.phase }, { on := 27, ground := Ground.phase }, { on := 28, ground := Ground.phase }, { on := 29, ground := Ground.phase }], guard := none }) (v := ?tkv767) rfl (by kernel_rfl) (by kernel_rfl) (by kernel_rfl) (fun _ _ _ h => h) (Or.inl ⟨by rfl, ?tky767⟩) hH765 ?tkr767
            case tky767 => (intro w' hSw; clear hSw; go_simp; try with_reducible rfl)
            try simp only [Act.put, List.setIfInBounds_toArray, List.set_cons_zero, List.set_cons_succ]
            refine wpAnyH_done (by kernel_rfl) ?_ _
            refine NoPanic.normal ?_
            go_wp2_with fail
            go_ret
            exact ⟨rfl, HZ.out.b.trans ((hH765).mono HZ.out.b.size)⟩
      · have HG4 := Lib.hid (HG4.out hn0)
        have hnb : ((n9 : Int) == 0) = false := beq_eq_false_iff_ne.2 (by omega)
        have hnz : ¬ (n9 : Int) = 0 := by omega
        clear hn0
        refine wp_region_noPanic ?_
        refine wp_region_held_drew (S := (fun W => Below (wb.heap.size) wb W)) (by kernel_rfl) (Below.refl _ _).drew (fun hH0 => ?_)
        have hH0 : Below (wb.heap.size) wb wb.drew := hH0
        generalize wb.drew = wd800 at *
        refine wpAnyH_take (i := 0) (oi := { dst := some 107, op := Op.move (Operand.tmp 19), type := 31, pos := "more.go:35", after := #[], guard := none }) (v := ?tkv801) rfl (by kernel_rfl) (by kernel_rfl) (by kernel_rfl) (fun _ _ _ h => h) (Or.inl ⟨by rfl, ?tky801⟩) hH0 ?tkr801
        case tky801 => (intro w' hSw; clear hSw; go_simp; try with_reducible rfl)
        try simp only [Act.put, List.setIfInBounds_toArray, List.set_cons_zero, List.set_cons_succ]
        refine wpAnyH_take (i := 1) (oi := { dst := some 108, op := Op.binOp BinOp.eql 31 (Operand.tmp 107) (Operand.const (Value.int IntKind.i64 0)) 31, type := 4, pos := "more.go:35", after := #[{ on := 0, ground := Ground.data }], guard := none }) (v := ?tkv802) rfl (by kernel_rfl) (by kernel_rfl) (by kernel_rfl) (fun _ _ _ h => h) (Or.inl ⟨by rfl, ?tky802⟩) hH0 ?tkr802
        case tky802 => (intro w' hSw; clear hSw; go_simp; try with_reducible rfl)
        try simp only [Act.put, List.setIfInBounds_toArray, List.set_cons_zero, List.set_cons_succ]
        refine wpAnyH_take (i := 2) (oi := { dst := some 109, op := Op.move (Operand.tmp 108), type := 4, pos := "more.go:35", after := #[{ on := 1, ground := Ground.data }], guard := none }) (v := ?tkv803) rfl (by kernel_rfl) (by kernel_rfl) (by kernel_rfl) (fun _ _ _ h => h) (Or.inl ⟨by rfl, ?tky803⟩) hH0 ?tkr803
        case tky803 => (intro w' hSw; clear hSw; go_simp; try with_reducible rfl)
        try simp only [Act.put, List.setIfInBounds_toArray, List.set_cons_zero, List.set_cons_succ]
        refine wpAnyH_take (i := 3) (oi := { dst := some 110, op := Op.move (Operand.tmp 18), type := 56, pos := "more.go:35", after := #[{ on := 2, ground := Ground.guard }], guard := some (2, true) }) (v := ?tkv804) rfl (by kernel_rfl) (by kernel_rfl) (by kernel_rfl) (fun _ _ _ h => h) (Or.inl ⟨by rfl, ?tky804⟩) hH0 ?tkr804
        case tky804 => (intro w' hSw; clear hSw; go_simp; try with_reducible rfl)
        try simp only [Act.put, List.setIfInBounds_toArray, List.set_cons_zero, List.set_cons_succ]
        refine wpAnyH_take (i := 6) (oi := { dst := some 113, op := Op.move (Operand.tmp 2), type := 3, pos := "more.go:35", after := #[{ on := 2, ground := Ground.guard }], guard := some (2, true) }) (v := ?tkv805) rfl (by kernel_rfl) (by kernel_rfl) (by kernel_rfl) (fun _ _ _ h => h) (Or.inl ⟨by rfl, ?tky805⟩) hH0 ?tkr805
        case tky805 => (intro w' hSw; clear hSw; go_simp; try with_reducible rfl)
        try simp only [Act.put, List.setIfInBounds_toArray, List.set_cons_zero, List.set_cons_succ]
        refine wpAnyH_ready (rs := [4]) (by kernel_rfl) (by simp) ?_
        refine AllReadyH.cons (o := { dst := some 111, op := Op.call { callee := Callee.value (Operand.func 38), args := #[Operand.tmp 110], argTypes := #[56] }, type := 66, pos := "more.go:35", after := #[{ on := 3, ground := Ground.data }, { on := 2, ground := Ground.chain }, { on := 2, ground := Ground.guard }], guard := some (2, true) }) rfl (fun K hK => ?_) AllReadyH.nil
        go_simp
        refine (recs_any _ gz gf (opW f2 1 size 8) wd800 (HZ.out.below (hH0)).wh HLZ.out.1 HLZ.out.2).mono ?_
        rintro e' wn806 ⟨Az806, nz806, cz806, ez806, rfl, hrz806, hmz806, hb806⟩
        have hnzn806 : nz806 ≤ n9 := by
          have h1 := HG5.out
          rw [← hmz806.out, List.length_map, hrz806.out.2.2.1] at h1
          exact h1
        have HNZQ : Hid (decide ((nz806 : Int) ≤ (n9 : Int)) = true ∧ (nz806 : Int) ≤ (n9 : Int)) := Lib.hid ⟨decide_eq_true (by omega), by omega⟩
        clear hnzn806
        clear hrz806 hmz806
        have hb806 := hb806.out
        go_simp
        have hS806 : Below (wb.heap.size) wb wn806 := (hH0).trans (hb806.mono (hH0).size)
        refine hK.out _ _ hS806 (fun hH806 => ?_)
        have hH806 : Below (wb.heap.size) wb wn806 := hH806
        clear hK K hS806
        try simp only [Act.put, List.setIfInBounds_toArray, List.set_cons_zero, List.set_cons_succ]
        refine wpAnyH_take (i := 5) (oi := { dst := some 112, op := Op.call { callee := Callee.builtin Builtin.len, args := #[Operand.tmp 111], argTypes := #[66] }, type := 3, pos := "more.go:35", after := #[{ on := 4, ground := Ground.data }, { on := 2, ground := Ground.guard }], guard := some (2, true) }) (v := ?tkv807) rfl (by kernel_rfl) (by kernel_rfl) (by kernel_rfl) (fun _ _ _ h => h) (Or.inl ⟨by rfl, ?tky807⟩) hH806 ?tkr807
        case tky807 => (intro w' hSw; clear hSw; go_simp; try with_reducible rfl)
        try simp only [Act.put, List.setIfInBounds_toArray, List.set_cons_zero, List.set_cons_succ]
        refine wpAnyH_take (i := 7) (oi := { dst := some 114, op := Op.binOp BinOp.leq 3 (Operand.tmp 112) (Operand.tmp 113) 3, type := 4, pos := "more.go:35", after := #[{ on := 5, ground := Ground.data }, { on := 6, ground := Ground.data }, { on := 2, ground := Ground.guard }], guard := some (2, true) }) (v := ?tkv808) rfl (by kernel_rfl) (by kernel_rfl) (by kernel_rfl) (fun _ _ _ h => h) (Or.inl ⟨by rfl, ?tky808⟩) hH806 ?tkr808
        case tky808 => (intro w' hSw; have q1 := HNZQ.out.1; have q2 := HNZQ.out.2; clear hSw; go_simp; try with_reducible rfl)
        try simp only [Act.put, List.setIfInBounds_toArray, List.set_cons_zero, List.set_cons_succ]
        refine wpAnyH_take (i := 8) (oi := { dst := some 115, op := Op.pick (Operand.tmp 109) (Operand.tmp 114) (Operand.const (Value.bool false)), type := 4, pos := "more.go:35", after := #[{ on := 2, ground := Ground.data }, { on := 7, ground := Ground.data }], guard := none }) (v := ?tkv809) rfl (by kernel_rfl) (by kernel_rfl) (by kernel_rfl) (fun _ _ _ h => h) (Or.inl ⟨by rfl, ?tky809⟩) hH806 ?tkr809
        case tky809 => (intro w' hSw; clear hSw; go_simp; try with_reducible rfl)
        try simp only [Act.put, List.setIfInBounds_toArray, List.set_cons_zero, List.set_cons_succ]
        refine wpAnyH_take (i := 9) (oi := { dst := some 116, op := Op.move (Operand.tmp 115), type := 4, pos := "more.go:35", after := #[{ on := 8, ground := Ground.data }, { on := 4, ground := Ground.chain }], guard := none }) (v := ?tkv810) rfl (by kernel_rfl) (by kernel_rfl) (by kernel_rfl) (fun _ _ _ h => h) (Or.inl ⟨by rfl, ?tky810⟩) hH806 ?tkr810
        case tky810 => (intro w' hSw; clear hSw; go_simp; try with_reducible rfl)
        try simp only [Act.put, List.setIfInBounds_toArray, List.set_cons_zero, List.set_cons_succ]
        refine wpAnyH_take (i := 10) (oi := { dst := some 117, op := Op.move (Operand.tmp 14), type := 56, pos := "more.go:35", after := #[{ on := 9, ground := Ground.guard }], guard := some (9, true) }) (v := ?tkv811) rfl (by kernel_rfl) (by kernel_rfl) (by kernel_rfl) (fun _ _ _ h => h) (Or.inl ⟨by rfl, ?tky811⟩) hH806 ?tkr811
        case tky811 => (intro w' hSw; clear hSw; go_simp; try with_reducible rfl)
        try simp only [Act.put, List.setIfInBounds_toArray, List.set_cons_zero, List.set_cons_succ]
        refine wpAnyH_take (i := 12) (oi := { dst := some 119, op := Op.move (Operand.tmp 1), type := 3, pos := "more.go:35", after := #[{ on := 9, ground := Ground.guard }], guard := some (9, true) }) (v := ?tkv812) rfl (by kernel_rfl) (by kernel_rfl) (by kernel_rfl) (fun _ _ _ h => h) (Or.inl ⟨by rfl, ?tky812⟩) hH806 ?tkr812
        case tky812 => (intro w' hSw; clear hSw; go_simp; try with_reducible rfl)
        try simp only [Act.put, List.setIfInBounds_toArray, List.set_cons_zero, List.set_cons_succ]
        refine wpAnyH_ready (rs := [11, 13]) (by kernel_rfl) (by simp) ?_
        refine AllReadyH.cons (o := { dst := some 118, op := Op.call { callee := Callee.value (Operand.func 38), args := #[Operand.tmp 117], argTypes := #[56] }, type := 66, pos := "more.go:35", after := #[{ on := 10, ground := Ground.data }, { on := 9, ground := Ground.chain }, { on := 9, ground := Ground.guard }], guard := some (9, true) }) rfl (fun K hK => ?_) (AllReadyH.cons (o := { dst := some 120, op := Op.makeSlice 27 (Operand.tmp 119) (Operand.tmp 119), type := 27, pos := "more.go:35", after := #[{ on := 12, ground := Ground.data }, { on := 12, ground := Ground.data }, { on := 9, ground := Ground.guard }], guard := some (9, true) }) rfl (fun K hK => ?_) AllReadyH.nil)
        · go_simp
          refine (recs_any _ gy gf (opW f2 2 siz2 8) wn806 (HY.out.below (hH806)).wh HLY.out.1 HLY.out.2).mono ?_
          rintro e' wn813 ⟨Ay813, ny813, cy813, ey813, rfl, hry813, hmy813, hb813⟩
          obtain rfl : ny813 = 1 := by rw [← hry813.out.2.2.1, ← List.length_map (f := RRow.pair), hmy813.out, HG2.out]; rfl
          have HMY813 := Lib.hid (hmy813.out.trans HG2.out)
          have HRY813 := Lib.hid hry813.out
          clear hry813 hmy813
          have hb813 := hb813.out
          go_simp
          have hS813 : Below (wb.heap.size) wb wn813 := (hH806).trans (hb813.mono (hH806).size)
          refine hK.out _ _ hS813 (fun hH813 => ?_)
          have hH813 : Below (wb.heap.size) wb wn813 := hH813
          clear hK K hS813
          try simp only [Act.put, List.setIfInBounds_toArray, List.set_cons_zero, List.set_cons_succ]
          refine wpAnyH_ready (rs := [13]) (by kernel_rfl) (by simp) ?_
          refine AllReadyH.cons (o := { dst := some 120, op := Op.makeSlice 27 (Operand.tmp 119) (Operand.tmp 119), type := 27, pos := "more.go:35", after := #[{ on := 12, ground := Ground.data }, { on := 12, ground := Ground.data }, { on := 9, ground := Ground.guard }], guard := some (9, true) }) rfl (fun K hK => ?_) AllReadyH.nil
          rw [if_pos (by rfl)]
          refine wp_make_full wn813 (.tmp 119) (.tmp 119) 27 rfl wn813.heap.size 5 j0 (.int .u8 0) 1 Try.underlying27 hj hk0 hk1 .i64 .i64 _ _ siz2 rfl rfl rfl rfl (by rw [hk2]; omega) (by unfold maxLen; omega) (Nat.le_refl _) ?_
          intro wn814 hown814 hg814
          have hb814 : Below wn813.heap.size wn813 wn814 := (Below.refl _ _).grown hg814 (Nat.le_refl _) (by intro g h; cases h)
          rw [made_zero] at hown814
          obtain ⟨gm814, hgm814⟩ : ∃ g, wn813.heap.size = g := ⟨_, rfl⟩
          have OM814 : Hid (MkR gm814 siz2 wn814) := Lib.hid (by rw [← hgm814]; exact ⟨Row.of_own hown814, (hown814.lt _ rfl).2⟩)
          rw [hgm814]
          clear hown814 hg814 hgm814
          have HRY813_814 := Lib.hid (HRY813.out.below hb814)
          have hS814 : Below (wb.heap.size) wb wn814 := (hH813).trans (hb814.mono (hH813).size)
          refine hK.out _ _ hS814 (fun hH814 => ?_)
          have hH814 : Below (wb.heap.size) wb wn814 := hH814
          clear hK K hS814
          try simp only [Act.put, List.setIfInBounds_toArray, List.set_cons_zero, List.set_cons_succ]
          refine wpAnyH_take (i := 14) (oi := { dst := some 121, op := Op.build 73 #[(0, Operand.const (Value.int IntKind.u32 9)), (1, Operand.tmp 120)], type := 73, pos := "more.go:35", after := #[{ on := 13, ground := Ground.data }, { on := 9, ground := Ground.guard }], guard := some (9, true) }) (v := ?tkv815) rfl (by kernel_rfl) (by kernel_rfl) (by kernel_rfl) (fun _ _ _ h => h) (Or.inl ⟨by rfl, ?tky815⟩) hH814 ?tkr815
          case tky815 => (intro w' hSw; clear hSw; go_simp; try with_reducible rfl)
          try simp only [Act.put, List.setIfInBounds_toArray, List.set_cons_zero, List.set_cons_succ]
          refine wpAnyH_ready (rs := [15]) (by kernel_rfl) (by simp) ?_
          refine AllReadyH.cons (o := { dst := some 122, op := Op.buildSlice 66 1 #[(0, Operand.tmp 121)], type := 66, pos := "more.go:35", after := #[{ on := 14, ground := Ground.data }, { on := 9, ground := Ground.guard }], guard := some (9, true) }) rfl (fun K hK => ?_) AllReadyH.nil
          go_simp
          have hb816 : Below wn814.heap.size wn814 (wn814.alloc (.cells #[.int .u32 9, .slice (some ⟨gm814, 0, none⟩) siz2 siz2] 73)) := (Below.refl _ _).alloc (Nat.le_refl _) _
          have RL816 := Lib.hid (lit_rec OM814.out)
          obtain ⟨gl816, hgl816⟩ : ∃ g, wn814.heap.size = g := ⟨_, rfl⟩
          rw [hgl816] at RL816 ⊢
          generalize (wn814.alloc (.cells #[.int .u32 9, .slice (some ⟨gm814, 0, none⟩) siz2 siz2] 73)) = wn816 at *
          clear hgl816
          have HRY813_816 := Lib.hid (HRY813_814.out.below hb816)
          have OM814_816 := Lib.hid (OM814.out.below hb816)
          have hS816 : Below (wb.heap.size) wb wn816 := (hH814).trans (hb816.mono (hH814).size)
          refine hK.out _ _ hS816 (fun hH816 => ?_)
          have hH816 : Below (wb.heap.size) wb wn816 := hH816
          clear hK K hS816
          try simp only [Act.put, List.setIfInBounds_toArray, List.set_cons_zero, List.set_cons_succ]
          refine wpAnyH_ready (rs := [16]) (by kernel_rfl) (by simp) ?_
          refine AllReadyH.cons (o := { dst := some 123, op := Op.call { callee := Callee.value (Operand.func 37), args := #[Operand.tmp 118, Operand.tmp 122], argTypes := #[66, 66] }, type := 4, pos := "more.go:35", after := #[{ on := 11, ground := Ground.data }, { on := 15, ground := Ground.data }, { on := 11, ground := Ground.chain }, { on := 9, ground := Ground.guard }], guard := some (9, true) }) rfl (fun K hK => ?_) AllReadyH.nil
          go_simp
          refine (wsame_yes _ _ 1 cy813 1 Ay813 _ ey813 _ wn816 HRY813_816.out RL816.out HMY813.out (by omega)).mono ?_
          rintro e' wn817 ⟨rfl, hb817⟩
          have hb817 := hb817.out
          go_simp
          have HRY813_817 := Lib.hid (HRY813_816.out.below hb817)
          have OM814_817 := Lib.hid (OM814_816.out.below hb817)
          have RL816_817 := Lib.hid (RL816.out.below hb817)
          have hS817 : Below (wb.heap.size) wb wn817 := (hH816).trans (hb817.mono (hH816).size)
          refine hK.out _ _ hS817 (fun hH817 => ?_)
          have hH817 : Below (wb.heap.size) wb wn817 := hH817
          clear hK K hS817
          try simp only [Act.put, List.setIfInBounds_toArray, List.set_cons_zero, List.set_cons_succ]
          refine wpAnyH_take (i := 17) (oi := { dst := some 124, op := Op.pick (Operand.tmp 116) (Operand.tmp 123) (Operand.const (Value.bool false)), type := 4, pos := "more.go:35", after := #[{ on := 9, ground := Ground.data }, { on := 16, ground := Ground.data }], guard := none }) (v := ?tkv818) rfl (by kernel_rfl) (by kernel_rfl) (by kernel_rfl) (fun _ _ _ h => h) (Or.inl ⟨by rfl, ?tky818⟩) hH817 ?tkr818
          case tky818 => (intro w' hSw; clear hSw; go_simp; try with_reducible rfl)
          try simp only [Act.put, List.setIfInBounds_toArray, List.set_cons_zero, List.set_cons_succ]
          refine wpAnyH_take (i := 18) (oi := { dst := some 125, op := Op.move (Operand.tmp 124), type := 4, pos := "more.go:35", after := #[{ on := 17, ground := Ground.data }, { on := 16, ground := Ground.chain }], guard := none }) (v := ?tkv819) rfl (by kernel_rfl) (by kernel_rfl) (by kernel_rfl) (fun _ _ _ h => h) (Or.inl ⟨by rfl, ?tky819⟩) hH817 ?tkr819
          case tky819 => (intro w' hSw; clear hSw; go_simp; try with_reducible rfl)
          try simp only [Act.put, List.setIfInBounds_toArray, List.set_cons_zero, List.set_cons_succ]
          refine wpAnyH_take (i := 19) (oi := { dst := some 126, op := Op.move (Operand.tmp 2), type := 3, pos := "more.go:35", after := #[{ on := 18, ground := Ground.guard }], guard := some (18, true) }) (v := ?tkv820) rfl (by kernel_rfl) (by kernel_rfl) (by kernel_rfl) (fun _ _ _ h => h) (Or.inl ⟨by rfl, ?tky820⟩) hH817 ?tkr820
          case tky820 => (intro w' hSw; clear hSw; go_simp; try with_reducible rfl)
          try simp only [Act.put, List.setIfInBounds_toArray, List.set_cons_zero, List.set_cons_succ]
          refine wpAnyH_take (i := 20) (oi := { dst := some 127, op := Op.binOp BinOp.eql 3 (Operand.tmp 126) (Operand.const (Value.int IntKind.i64 0)) 3, type := 4, pos := "more.go:35", after := #[{ on := 19, ground := Ground.data }, { on := 18, ground := Ground.guard }], guard := some (18, true) }) (v := ?tkv821) rfl (by kernel_rfl) (by kernel_rfl) (by kernel_rfl) (fun _ _ _ h => h) (Or.inl ⟨by rfl, ?tky821⟩) hH817 ?tkr821
          case tky821 => (intro w' hSw; clear hSw; go_simp; try with_reducible rfl)
          try simp only [Act.put, List.setIfInBounds_toArray, List.set_cons_zero, List.set_cons_succ]
          refine wpAnyH_take (i := 21) (oi := { dst := some 128, op := Op.move (Operand.tmp 127), type := 4, pos := "more.go:35", after := #[{ on := 20, ground := Ground.data }, { on := 18, ground := Ground.chain }, { on := 18, ground := Ground.guard }], guard := some (18, true) }) (v := ?tkv822) rfl (by kernel_rfl) (by kernel_rfl) (by kernel_rfl) (fun _ _ _ h => h) (Or.inl ⟨by rfl, ?tky822⟩) hH817 ?tkr822
          case tky822 => (intro w' hSw; clear hSw; go_simp; try with_reducible rfl)
          try simp only [Act.put, List.setIfInBounds_toArray, List.set_cons_zero, List.set_cons_succ]
          refine wpAnyH_take (i := 22) (oi := { dst := some 129, op := Op.move (Operand.tmp 9), type := 23, pos := "more.go:35", after := #[{ on := 21, ground := Ground.guard }], guard := some (21, false) }) (v := ?tkv823) rfl (by kernel_rfl) (by kernel_rfl) (by kernel_rfl) (fun _ _ _ h => h) (Or.inl ⟨by rfl, ?tky823⟩) hH817 ?tkr823
          case tky823 => (intro w' hSw; clear hSw; go_simp; try with_reducible rfl)
          try simp only [Act.put, List.setIfInBounds_toArray, List.set_cons_zero, List.set_cons_succ]
          refine wpAnyH_ready (rs := [23]) (by kernel_rfl) (by simp) ?_
          refine AllReadyH.cons (o := { dst := some 130, op := Op.call { callee := Callee.value (Operand.func 29), args := #[Operand.tmp 129, Operand.const (Value.int IntKind.i64 6)], argTypes := #[23, 3] }, type := 3, pos := "more.go:35", after := #[{ on := 22, ground := Ground.data }, { on := 21, ground := Ground.chain }, { on := 21, ground := Ground.guard }], guard := some (21, false) }) rfl (fun K hK => ?_) AllReadyH.nil
          go_simp
          have HE824 := erases_any gf 6 f2 wn817 (HY.out.below (hH817)).fl (by omega)
          rw [HG4.out] at HE824
          refine HE824.mono ?_
          clear HE824
          rintro e' _ ⟨rfl, rfl⟩
          go_simp
          have hS824 : Below (wb.heap.size) wb wn817 := hH817
          refine hK.out _ _ hS824 (fun hH824 => ?_)
          have hH824 : Below (wb.heap.size) wb wn817 := hH824
          clear hK K hS824
          try simp only [Act.put, List.setIfInBounds_toArray, List.set_cons_zero, List.set_cons_succ]
          refine wpAnyH_take (i := 24) (oi := { dst := some 131, op := Op.binOp BinOp.eql 3 (Operand.tmp 130) (Operand.const (Value.int IntKind.i64 1)) 3, type := 4, pos := "more.go:35", after := #[{ on := 23, ground := Ground.data }, { on := 21, ground := Ground.guard }], guard := some (21, false) }) (v := ?tkv825) rfl (by kernel_rfl) (by kernel_rfl) (by kernel_rfl) (fun _ _ _ h => h) (Or.inl ⟨by rfl, ?tky825⟩) hH824 ?tkr825
          case tky825 => (intro w' hSw; clear hSw; go_simp; try with_reducible rfl)
          try simp only [Act.put, List.setIfInBounds_toArray, List.set_cons_zero, List.set_cons_succ]
          refine wpAnyH_take (i := 25) (oi := { dst := some 132, op := Op.pick (Operand.tmp 128) (Operand.const (Value.bool true)) (Operand.tmp 131), type := 4, pos := "more.go:35", after := #[{ on := 21, ground := Ground.data }, { on := 24, ground := Ground.data }, { on := 18, ground := Ground.guard }], guard := some (18, true) }) (v := ?tkv826) rfl (by kernel_rfl) (by kernel_rfl) (by kernel_rfl) (fun _ _ _ h => h) (Or.inl ⟨by rfl, ?tky826⟩) hH824 ?tkr826
          case tky826 => (intro w' hSw; clear hSw; go_simp; try with_reducible rfl)
          try simp only [Act.put, List.setIfInBounds_toArray, List.set_cons_zero, List.set_cons_succ]
          refine wpAnyH_take (i := 26) (oi := { dst := some 133, op := Op.pick (Operand.tmp 125) (Operand.tmp 132) (Operand.const (Value.bool false)), type := 4, pos := "more.go:35", after := #[{ on := 18, ground := Ground.data }, { on := 25, ground := Ground.data }], guard := none }) (v := ?tkv827) rfl (by kernel_rfl) (by kernel_rfl) (by kernel_rfl) (fun _ _ _ h => h) (Or.inl ⟨by rfl, ?tky827⟩) hH824 ?tkr827
          case tky827 => (intro w' hSw; clear hSw; go_simp; try with_reducible rfl)
          try simp only [Act.put, List.setIfInBounds_toArray, List.set_cons_zero, List.set_cons_succ]
          refine wpAnyH_take (i := 27) (oi := { dst := some 134, op := Op.move (Operand.tmp 133), type := 4, pos := "more.go:35", after := #[{ on := 26, ground := Ground.data }, { on := 23, ground := Ground.chain }], guard := none }) (v := ?tkv828) rfl (by kernel_rfl) (by kernel_rfl) (by kernel_rfl) (fun _ _ _ h => h) (Or.inl ⟨by rfl, ?tky828⟩) hH824 ?tkr828
          case tky828 => (intro w' hSw; clear hSw; go_simp; try with_reducible rfl)
          try simp only [Act.put, List.setIfInBounds_toArray, List.set_cons_zero, List.set_cons_succ]
          refine wpAnyH_ready (rs := [28]) (by kernel_rfl) (by simp) ?_
          refine AllReadyH.cons (o := { dst := some 135, op := Op.call { callee := Callee.value (Operand.func 32), args := #[], argTypes := #[] }, type := 4, pos := "more.go:35", after := #[{ on := 27, ground := Ground.chain }, { on := 27, ground := Ground.guard }], guard := some (27, true) }) rfl (fun K hK => ?_) AllReadyH.nil
          go_simp
          refine (awake18_any wn817).mono ?_
          rintro e' wn829 ⟨rfl, hb829⟩
          have hb829 := hb829.out
          go_simp
          have HRY813_829 := Lib.hid (HRY813_817.out.below hb829)
          have OM814_829 := Lib.hid (OM814_817.out.below hb829)
          have RL816_829 := Lib.hid (RL816_817.out.below hb829)
          have hS829 : Below (wb.heap.size) wb wn829 := (hH824).trans (hb829.mono (hH824).size)
          refine hK.out _ _ hS829 (fun hH829 => ?_)
          have hH829 : Below (wb.heap.size) wb wn829 := hH829
          clear hK K hS829
          try simp only [Act.put, List.setIfInBounds_toArray, List.set_cons_zero, List.set_cons_succ]
          refine wpAnyH_take (i := 29) (oi := { dst := some 136, op := Op.pick (Operand.tmp 134) (Operand.tmp 135) (Operand.const (Value.bool false)), type := 4, pos := "more.go:35", after := #[{ on := 27, ground := Ground.data }, { on := 28, ground := Ground.data }], guard := none }) (v := ?tkv830) rfl (by kernel_rfl) (by kernel_rfl) (by kernel_rfl) (fun _ _ _ h => h) (Or.inl ⟨by rfl, ?tky830⟩) hH829 ?tkr830
          case tky830 => (intro w' hSw; clear hSw; go_simp; try with_reducible rfl)
          try simp only [Act.put, List.setIfInBounds_toArray, List.set_cons_zero, List.set_cons_succ]
          refine wpAnyH_take (i := 30) (oi := { dst := some 8, op := Op.assign (Operand.tmp 136), type := 4, pos := "more.go:35", after := #[{ on := 29, ground := Ground.data }, { on := 28, ground := Ground.chain }, { on := 0, ground := Ground.phase }, { on := 1, ground := Ground.phase }, { on := 2, ground := Ground.phase }, { on := 3, ground := Ground.phase }, { on := 4, ground := Ground.phase }, { on := 5, ground := Ground.phase }, { on := 6, ground := Ground.phase }, { on := 7, ground := Ground.phase }, { on := 8, ground := Ground.phase }, { on := 9, ground := Ground.phase }, { on := 10, ground := Ground.phase }, { on := 11, ground := Ground.phase }, { on := 12, ground := Ground.phase }, { on := 13, ground := Ground.phase }, { on := 14, ground := Ground.phase }, { on := 15, ground := Ground.phase }, { on := 16, ground := Ground.phase }, { on := 17, ground := Ground.phase }, { on := 18, ground := Ground.phase }, { on := 19, ground := Ground.phase }, { on := 20, ground := Ground.phase }, { on := 21, ground := Ground.phase }, { on := 22, ground := Ground.phase }, { on := 23, ground := Ground.phase }, { on := 24, ground := Ground.phase }, { on := 25, ground := Ground.phase }, { on := 26, ground := Ground.phase }, { on := 27, ground := Ground.phase }, { on := 28, ground := Ground.phase }, { on := 29, ground := Ground.phase }], guard := none }) (v := ?tkv831) rfl (by kernel_rfl) (by kernel_rfl) (by kernel_rfl) (fun _ _ _ h => h) (Or.inl ⟨by rfl, ?tky831⟩) hH829 ?tkr831
          case tky831 => (intro w' hSw; clear hSw; go_simp; try with_reducible rfl)
          try simp only [Act.put, List.setIfInBounds_toArray, List.set_cons_zero, List.set_cons_succ]
          refine wpAnyH_done (by kernel_rfl) ?_ _
          refine NoPanic.normal ?_
          go_wp2_with fail
          go_ret
          exact ⟨rfl, HZ.out.b.trans ((hH829).mono HZ.out.b.size)⟩
        · rw [if_pos (by rfl)]
          refine wp_make_full wn806 (.tmp 119) (.tmp 119) 27 rfl wn806.heap.size 5 j0 (.int .u8 0) 1 Try.underlying27 hj hk0 hk1 .i64 .i64 _ _ siz2 rfl rfl rfl rfl (by rw [hk2]; omega) (by unfold maxLen; omega) (Nat.le_refl _) ?_
          intro wn832 hown832 hg832
          have hb832 : Below wn806.heap.size wn806 wn832 := (Below.refl _ _).grown hg832 (Nat.le_refl _) (by intro g h; cases h)
          rw [made_zero] at hown832
          obtain ⟨gm832, hgm832⟩ : ∃ g, wn806.heap.size = g := ⟨_, rfl⟩
          have OM832 : Hid (MkR gm832 siz2 wn832) := Lib.hid (by rw [← hgm832]; exact ⟨Row.of_own hown832, (hown832.lt _ rfl).2⟩)
          rw [hgm832]
          clear hown832 hg832 hgm832
          have hS832 : Below (wb.heap.size) wb wn832 := (hH806).trans (hb832.mono (hH806).size)
          refine hK.out _ _ hS832 (fun hH832 => ?_)
          have hH832 : Below (wb.heap.size) wb wn832 := hH832
          clear hK K hS832
          try simp only [Act.put, List.setIfInBounds_toArray, List.set_cons_zero, List.set_cons_succ]
          refine wpAnyH_take (i := 14) (oi := { dst := some 121, op := Op.build 73 #[(0, Operand.const (Value.int IntKind.u32 9)), (1, Operand.tmp 120)], type := 73, pos := "more.go:35", after := #[{ on := 13, ground := Ground.data }, { on := 9, ground := Ground.guard }], guard := some (9, true) }) (v := ?tkv833) rfl (by kernel_rfl) (by kernel_rfl) (by kernel_rfl) (fun _ _ _ h => h) (Or.inl ⟨by rfl, ?tky833⟩) hH832 ?tkr833
          case tky833 => (intro w' hSw; clear hSw; go_simp; try with_reducible rfl)
          try simp only [Act.put, List.setIfInBounds_toArray, List.set_cons_zero, List.set_cons_succ]
          refine wpAnyH_ready (rs := [11, 15]) (by kernel_rfl) (by simp) ?_
          refine AllReadyH.cons (o := { dst := some 118, op := Op.call { callee := Callee.value (Operand.func 38), args := #[Operand.tmp 117], argTypes := #[56] }, type := 66, pos := "more.go:35", after := #[{ on := 10, ground := Ground.data }, { on := 9, ground := Ground.chain }, { on := 9, ground := Ground.guard }], guard := some (9, true) }) rfl (fun K hK => ?_) (AllReadyH.cons (o := { dst := some 122, op := Op.buildSlice 66 1 #[(0, Operand.tmp 121)], type := 66, pos := "more.go:35", after := #[{ on := 14, ground := Ground.data }, { on := 9, ground := Ground.guard }], guard := some (9, true) }) rfl (fun K hK => ?_) AllReadyH.nil)
          · go_simp
            refine (recs_any _ gy gf (opW f2 2 siz2 8) wn832 (HY.out.below (hH832)).wh HLY.out.1 HLY.out.2).mono ?_
            rintro e' wn834 ⟨Ay834, ny834, cy834, ey834, rfl, hry834, hmy834, hb834⟩
            obtain rfl : ny834 = 1 := by rw [← hry834.out.2.2.1, ← List.length_map (f := RRow.pair), hmy834.out, HG2.out]; rfl
            have HMY834 := Lib.hid (hmy834.out.trans HG2.out)
            have HRY834 := Lib.hid hry834.out
            clear hry834 hmy834
            have hb834 := hb834.out
            go_simp
            have OM832_834 := Lib.hid (OM832.out.below hb834)
            have hS834 : Below (wb.heap.size) wb wn834 := (hH832).trans (hb834.mono (hH832).size)
            refine hK.out _ _ hS834 (fun hH834 => ?_)
            have hH834 : Below (wb.heap.size) wb wn834 := hH834
            clear hK K hS834
            try simp only [Act.put, List.setIfInBounds_toArray, List.set_cons_zero, List.set_cons_succ]
            refine wpAnyH_ready (rs := [15]) (by kernel_rfl) (by simp) ?_
            refine AllReadyH.cons (o := { dst := some 122, op := Op.buildSlice 66 1 #[(0, Operand.tmp 121)], type := 66, pos := "more.go:35", after := #[{ on := 14, ground := Ground.data }, { on := 9, ground := Ground.guard }], guard := some (9, true) }) rfl (fun K hK => ?_) AllReadyH.nil
            go_simp
            have hb835 : Below wn834.heap.size wn834 (wn834.alloc (.cells #[.int .u32 9, .slice (some ⟨gm832, 0, none⟩) siz2 siz2] 73)) := (Below.refl _ _).alloc (Nat.le_refl _) _
            have RL835 := Lib.hid (lit_rec OM832_834.out)
            obtain ⟨gl835, hgl835⟩ : ∃ g, wn834.heap.size = g := ⟨_, rfl⟩
            rw [hgl835] at RL835 ⊢
            generalize (wn834.alloc (.cells #[.int .u32 9, .slice (some ⟨gm832, 0, none⟩) siz2 siz2] 73)) = wn835 at *
            clear hgl835
            have OM832_835 := Lib.hid (OM832_834.out.below hb835)
            have HRY834_835 := Lib.hid (HRY834.out.below hb835)
            have hS835 : Below (wb.heap.size) wb wn835 := (hH834).trans (hb835.mono (hH834).size)
            refine hK.out _ _ hS835 (fun hH835 => ?_)
            have hH835 : Below (wb.heap.size) wb wn835 := hH835
            clear hK K hS835
            try simp only [Act.put, List.setIfInBounds_toArray, List.set_cons_zero, List.set_cons_succ]
            refine wpAnyH_ready (rs := [16]) (by kernel_rfl) (by simp) ?_
            refine AllReadyH.cons (o := { dst := some 123, op := Op.call { callee := Callee.value (Operand.func 37), args := #[Operand.tmp 118, Operand.tmp 122], argTypes := #[66, 66] }, type := 4, pos := "more.go:35", after := #[{ on := 11, ground := Ground.data }, { on := 15, ground := Ground.data }, { on := 11, ground := Ground.chain }, { on := 9, ground := Ground.guard }], guard := some (9, true) }) rfl (fun K hK => ?_) AllReadyH.nil
            go_simp
            refine (wsame_yes _ _ 1 cy834 1 Ay834 _ ey834 _ wn835 HRY834_835.out RL835.out HMY834.out (by omega)).mono ?_
            rintro e' wn836 ⟨rfl, hb836⟩
            have hb836 := hb836.out
            go_simp
            have OM832_836 := Lib.hid (OM832_835.out.below hb836)
            have HRY834_836 := Lib.hid (HRY834_835.out.below hb836)
            have RL835_836 := Lib.hid (RL835.out.below hb836)
            have hS836 : Below (wb.heap.size) wb wn836 := (hH835).trans (hb836.mono (hH835).size)
            refine hK.out _ _ hS836 (fun hH836 => ?_)
            have hH836 : Below (wb.heap.size) wb wn836 := hH836
            clear hK K hS836
            try simp only [Act.put, List.setIfInBounds_toArray, List.set_cons_zero, List.set_cons_succ]
            refine wpAnyH_take (i := 17) (oi := { dst := some 124, op := Op.pick (Operand.tmp 116) (Operand.tmp 123) (Operand.const (Value.bool false)), type := 4, pos := "more.go:35", after := #[{ on := 9, ground := Ground.data }, { on := 16, ground := Ground.data }], guard := none }) (v := ?tkv837) rfl (by kernel_rfl) (by kernel_rfl) (by kernel_rfl) (fun _ _ _ h => h) (Or.inl ⟨by rfl, ?tky837⟩) hH836 ?tkr837
            case tky837 => (intro w' hSw; clear hSw; go_simp; try with_reducible rfl)
            try simp only [Act.put, List.setIfInBounds_toArray, List.set_cons_zero, List.set_cons_succ]
            refine wpAnyH_take (i := 18) (oi := { dst := some 125, op := Op.move (Operand.tmp 124), type := 4, pos := "more.go:35", after := #[{ on := 17, ground := Ground.data }, { on := 16, ground := Ground.chain }], guard := none }) (v := ?tkv838) rfl (by kernel_rfl) (by kernel_rfl) (by kernel_rfl) (fun _ _ _ h => h) (Or.inl ⟨by rfl, ?tky838⟩) hH836 ?tkr838
            case tky838 => (intro w' hSw; clear hSw; go_simp; try with_reducible rfl)
            try simp only [Act.put, List.setIfInBounds_toArray, List.set_cons_zero, List.set_cons_succ]
            refine wpAnyH_take (i := 19) (oi := { dst := some 126, op := Op.move (Operand.tmp 2), type := 3, pos := "more.go:35", after := #[{ on := 18, ground := Ground.guard }], guard := some (18, true) }) (v := ?tkv839) rfl (by kernel_rfl) (by kernel_rfl) (by kernel_rfl) (fun _ _ _ h => h) (Or.inl ⟨by rfl, ?tky839⟩) hH836 ?tkr839
            case tky839 => (intro w' hSw; clear hSw; go_simp; try with_reducible rfl)
            try simp only [Act.put, List.setIfInBounds_toArray, List.set_cons_zero, List.set_cons_succ]
            refine wpAnyH_take (i := 20) (oi := { dst := some 127, op := Op.binOp BinOp.eql 3 (Operand.tmp 126) (Operand.const (Value.int IntKind.i64 0)) 3, type := 4, pos := "more.go:35", after := #[{ on := 19, ground := Ground.data }, { on := 18, ground := Ground.guard }], guard := some (18, true) }) (v := ?tkv840) rfl (by kernel_rfl) (by kernel_rfl) (by kernel_rfl) (fun _ _ _ h => h) (Or.inl ⟨by rfl, ?tky840⟩) hH836 ?tkr840
            case tky840 => (intro w' hSw; clear hSw; go_simp; try with_reducible rfl)
            try simp only [Act.put, List.setIfInBounds_toArray, List.set_cons_zero, List.set_cons_succ]
            refine wpAnyH_take (i := 21) (oi := { dst := some 128, op := Op.move (Operand.tmp 127), type := 4, pos := "more.go:35", after := #[{ on := 20, ground := Ground.data }, { on := 18, ground := Ground.chain }, { on := 18, ground := Ground.guard }], guard := some (18, true) }) (v := ?tkv841) rfl (by kernel_rfl) (by kernel_rfl) (by kernel_rfl) (fun _ _ _ h => h) (Or.inl ⟨by rfl, ?tky841⟩) hH836 ?tkr841
            case tky841 => (intro w' hSw; clear hSw; go_simp; try with_reducible rfl)
            try simp only [Act.put, List.setIfInBounds_toArray, List.set_cons_zero, List.set_cons_succ]
            refine wpAnyH_take (i := 22) (oi := { dst := some 129, op := Op.move (Operand.tmp 9), type := 23, pos := "more.go:35", after := #[{ on := 21, ground := Ground.guard }], guard := some (21, false) }) (v := ?tkv842) rfl (by kernel_rfl) (by kernel_rfl) (by kernel_rfl) (fun _ _ _ h => h) (Or.inl ⟨by rfl, ?tky842⟩) hH836 ?tkr842
            case tky842 => (intro w' hSw; clear hSw; go_simp; try with_reducible rfl)
            try simp only [Act.put, List.setIfInBounds_toArray, List.set_cons_zero, List.set_cons_succ]
            refine wpAnyH_ready (rs := [23]) (by kernel_rfl) (by simp) ?_
            refine AllReadyH.cons (o := { dst := some 130, op := Op.call { callee := Callee.value (Operand.func 29), args := #[Operand.tmp 129, Operand.const (Value.int IntKind.i64 6)], argTypes := #[23, 3] }, type := 3, pos := "more.go:35", after := #[{ on := 22, ground := Ground.data }, { on := 21, ground := Ground.chain }, { on := 21, ground := Ground.guard }], guard := some (21, false) }) rfl (fun K hK => ?_) AllReadyH.nil
            go_simp
            have HE843 := erases_any gf 6 f2 wn836 (HY.out.below (hH836)).fl (by omega)
            rw [HG4.out] at HE843
            refine HE843.mono ?_
            clear HE843
            rintro e' _ ⟨rfl, rfl⟩
            go_simp
            have hS843 : Below (wb.heap.size) wb wn836 := hH836
            refine hK.out _ _ hS843 (fun hH843 => ?_)
            have hH843 : Below (wb.heap.size) wb wn836 := hH843
            clear hK K hS843
            try simp only [Act.put, List.setIfInBounds_toArray, List.set_cons_zero, List.set_cons_succ]
            refine wpAnyH_take (i := 24) (oi := { dst := some 131, op := Op.binOp BinOp.eql 3 (Operand.tmp 130) (Operand.const (Value.int IntKind.i64 1)) 3, type := 4, pos := "more.go:35", after := #[{ on := 23, ground := Ground.data }, { on := 21, ground := Ground.guard }], guard := some (21, false) }) (v := ?tkv844) rfl (by kernel_rfl) (by kernel_rfl) (by kernel_rfl) (fun _ _ _ h => h) (Or.inl ⟨by rfl, ?tky844⟩) hH843 ?tkr844
            case tky844 => (intro w' hSw; clear hSw; go_simp; try with_reducible rfl)
            try simp only [Act.put, List.setIfInBounds_toArray, List.set_cons_zero, List.set_cons_succ]
            refine wpAnyH_take (i := 25) (oi := { dst := some 132, op := Op.pick (Operand.tmp 128) (Operand.const (Value.bool true)) (Operand.tmp 131), type := 4, pos := "more.go:35", after := #[{ on := 21, ground := Ground.data }, { on := 24, ground := Ground.data }, { on := 18, ground := Ground.guard }], guard := some (18, true) }) (v := ?tkv845) rfl (by kernel_rfl) (by kernel_rfl) (by kernel_rfl) (fun _ _ _ h => h) (Or.inl ⟨by rfl, ?tky845⟩) hH843 ?tkr845
            case tky845 => (intro w' hSw; clear hSw; go_simp; try with_reducible rfl)
            try simp only [Act.put, List.setIfInBounds_toArray, List.set_cons_zero, List.set_cons_succ]
            refine wpAnyH_take (i := 26) (oi := { dst := some 133, op := Op.pick (Operand.tmp 125) (Operand.tmp 132) (Operand.const (Value.bool false)), type := 4, pos := "more.go:35", after := #[{ on := 18, ground := Ground.data }, { on := 25, ground := Ground.data }], guard := none }) (v := ?tkv846) rfl (by kernel_rfl) (by kernel_rfl) (by kernel_rfl) (fun _ _ _ h => h) (Or.inl ⟨by rfl, ?tky846⟩) hH843 ?tkr846
            case tky846 => (intro w' hSw; clear hSw; go_simp; try with_reducible rfl)
            try simp only [Act.put, List.setIfInBounds_toArray, List.set_cons_zero, List.set_cons_succ]
            refine wpAnyH_take (i := 27) (oi := { dst := some 134, op := Op.move (Operand.tmp 133), type := 4, pos := "more.go:35", after := #[{ on := 26, ground := Ground.data }, { on := 23, ground := Ground.chain }], guard := none }) (v := ?tkv847) rfl (by kernel_rfl) (by kernel_rfl) (by kernel_rfl) (fun _ _ _ h => h) (Or.inl ⟨by rfl, ?tky847⟩) hH843 ?tkr847
            case tky847 => (intro w' hSw; clear hSw; go_simp; try with_reducible rfl)
            try simp only [Act.put, List.setIfInBounds_toArray, List.set_cons_zero, List.set_cons_succ]
            refine wpAnyH_ready (rs := [28]) (by kernel_rfl) (by simp) ?_
            refine AllReadyH.cons (o := { dst := some 135, op := Op.call { callee := Callee.value (Operand.func 32), args := #[], argTypes := #[] }, type := 4, pos := "more.go:35", after := #[{ on := 27, ground := Ground.chain }, { on := 27, ground := Ground.guard }], guard := some (27, true) }) rfl (fun K hK => ?_) AllReadyH.nil
            go_simp
            refine (awake18_any wn836).mono ?_
            rintro e' wn848 ⟨rfl, hb848⟩
            have hb848 := hb848.out
            go_simp
            have OM832_848 := Lib.hid (OM832_836.out.below hb848)
            have HRY834_848 := Lib.hid (HRY834_836.out.below hb848)
            have RL835_848 := Lib.hid (RL835_836.out.below hb848)
            have hS848 : Below (wb.heap.size) wb wn848 := (hH843).trans (hb848.mono (hH843).size)
            refine hK.out _ _ hS848 (fun hH848 => ?_)
            have hH848 : Below (wb.heap.size) wb wn848 := hH848
            clear hK K hS848
            try simp only [Act.put, List.setIfInBounds_toArray, List.set_cons_zero, List.set_cons_succ]
            refine wpAnyH_take (i := 29) (oi := { dst := some 136, op := Op.pick (Operand.tmp 134) (Operand.tmp 135) (Operand.const (Value.bool false)), type := 4, pos := "more.go:35", after := #[{ on := 27, ground := Ground.data }, { on := 28, ground := Ground.data }], guard := none }) (v := ?tkv849) rfl (by kernel_rfl) (by kernel_rfl) (by kernel_rfl) (fun _ _ _ h => h) (Or.inl ⟨by rfl, ?tky849⟩) hH848 ?tkr849
            case tky849 => (intro w' hSw; clear hSw; go_simp; try with_reducible rfl)
            try simp only [Act.put, List.setIfInBounds_toArray, List.set_cons_zero, List.set_cons_succ]
            refine wpAnyH_take (i := 30) (oi := { dst := some 8, op := Op.assign (Operand.tmp 136), type := 4, pos := "more.go:35", after := #[{ on := 29, ground := Ground.data }, { on := 28, ground := Ground.chain }, { on := 0, ground := Ground.phase }, { on := 1, ground := Ground.phase }, { on := 2, ground := Ground.phase }, { on := 3, ground := Ground.phase }, { on := 4, ground := Ground.phase }, { on := 5, ground := Ground.phase }, { on := 6, ground := Ground.phase }, { on := 7, ground := Ground.phase }, { on := 8, ground := Ground.phase }, { on := 9, ground := Ground.phase }, { on := 10, ground := Ground.phase }, { on := 11, ground := Ground.phase }, { on := 12, ground := Ground.phase }, { on := 13, ground := Ground.phase }, { on := 14, ground := Ground.phase }, { on := 15, ground := Ground.phase }, { on := 16, ground := Ground.phase }, { on := 17, ground := Ground.phase }, { on := 18, ground := Ground.phase }, { on := 19, ground := Ground.phase }, { on := 20, ground := Ground.phase }, { on := 21, ground := Ground.phase }, { on := 22, ground := Ground.phase }, { on := 23, ground := Ground.phase }, { on := 24, ground := Ground.phase }, { on := 25, ground := Ground.phase }, { on := 26, ground := Ground.phase }, { on := 27, ground := Ground.phase }, { on := 28, ground := Ground.phase }, { on := 29, ground := Ground.phase }], guard := none }) (v := ?tkv850) rfl (by kernel_rfl) (by kernel_rfl) (by kernel_rfl) (fun _ _ _ h => h) (Or.inl ⟨by rfl, ?tky850⟩) hH848 ?tkr850
            case tky850 => (intro w' hSw; clear hSw; go_simp; try with_reducible rfl)
            try simp only [Act.put, List.setIfInBounds_toArray, List.set_cons_zero, List.set_cons_succ]
            refine wpAnyH_done (by kernel_rfl) ?_ _
            refine NoPanic.normal ?_
            go_wp2_with fail
            go_ret
            exact ⟨rfl, HZ.out.b.trans ((hH848).mono HZ.out.b.size)⟩
          · go_simp
            have hb851 : Below wn832.heap.size wn832 (wn832.alloc (.cells #[.int .u32 9, .slice (some ⟨gm832, 0, none⟩) siz2 siz2] 73)) := (Below.refl _ _).alloc (Nat.le_refl _) _
            have RL851 := Lib.hid (lit_rec OM832.out)
            obtain ⟨gl851, hgl851⟩ : ∃ g, wn832.heap.size = g := ⟨_, rfl⟩
            rw [hgl851] at RL851 ⊢
            generalize (wn832.alloc (.cells #[.int .u32 9, .slice (some ⟨gm832, 0, none⟩) siz2 siz2] 73)) = wn851 at *
            clear hgl851
            have OM832_851 := Lib.hid (OM832.out.below hb851)
            have hS851 : Below (wb.heap.size) wb wn851 := (hH832).trans (hb851.mono (hH832).size)
            refine hK.out _ _ hS851 (fun hH851 => ?_)
            have hH851 : Below (wb.heap.size) wb wn851 := hH851
            clear hK K hS851
            try simp only [Act.put, List.setIfInBounds_toArray, List.set_cons_zero, List.set_cons_succ]
            refine wpAnyH_ready (rs := [11]) (by kernel_rfl) (by simp) ?_
            refine AllReadyH.cons (o := { dst := some 118, op := Op.call { callee := Callee.value (Operand.func 38), args := #[Operand.tmp 117], argTypes := #[56] }, type := 66, pos := "more.go:35", after := #[{ on := 10, ground := Ground.data }, { on := 9, ground := Ground.chain }, { on := 9, ground := Ground.guard }], guard := some (9, true) }) rfl (fun K hK => ?_) AllReadyH.nil
            go_simp
            refine (recs_any _ gy gf (opW f2 2 siz2 8) wn851 (HY.out.below (hH851)).wh HLY.out.1 HLY.out.2).mono ?_
            rintro e' wn852 ⟨Ay852, ny852, cy852, ey852, rfl, hry852, hmy852, hb852⟩
            obtain rfl : ny852 = 1 := by rw [← hry852.out.2.2.1, ← List.length_map (f := RRow.pair), hmy852.out, HG2.out]; rfl
            have HMY852 := Lib.hid (hmy852.out.trans HG2.out)
            have HRY852 := Lib.hid hry852.out
            clear hry852 hmy852
            have hb852 := hb852.out
            go_simp
            have OM832_852 := Lib.hid (OM832_851.out.below hb852)
            have RL851_852 := Lib.hid (RL851.out.below hb852)
            have hS852 : Below (wb.heap.size) wb wn852 := (hH851).trans (hb852.mono (hH851).size)
            refine hK.out _ _ hS852 (fun hH852 => ?_)
            have hH852 : Below (wb.heap.size) wb wn852 := hH852
            clear hK K hS852
            try simp only [Act.put, List.setIfInBounds_toArray, List.set_cons_zero, List.set_cons_succ]
            refine wpAnyH_ready (rs := [16]) (by kernel_rfl) (by simp) ?_
            refine AllReadyH.cons (o := { dst := some 123, op := Op.call { callee := Callee.value (Operand.func 37), args := #[Operand.tmp 118, Operand.tmp 122], argTypes := #[66, 66] }, type := 4, pos := "more.go:35", after := #[{ on := 11, ground := Ground.data }, { on := 15, ground := Ground.data }, { on := 11, ground := Ground.chain }, { on := 9, ground := Ground.guard }], guard := some (9, true) }) rfl (fun K hK => ?_) AllReadyH.nil
            go_simp
            refine (wsame_yes _ _ 1 cy852 1 Ay852 _ ey852 _ wn852 HRY852.out RL851_852.out HMY852.out (by omega)).mono ?_
            rintro e' wn853 ⟨rfl, hb853⟩
            have hb853 := hb853.out
            go_simp
            have OM832_853 := Lib.hid (OM832_852.out.below hb853)
            have RL851_853 := Lib.hid (RL851_852.out.below hb853)
            have HRY852_853 := Lib.hid (HRY852.out.below hb853)
            have hS853 : Below (wb.heap.size) wb wn853 := (hH852).trans (hb853.mono (hH852).size)
            refine hK.out _ _ hS853 (fun hH853 => ?_)
            have hH853 : Below (wb.heap.size) wb wn853 := hH853
            clear hK K hS853
            try simp only [Act.put, List.setIfInBounds_toArray, List.set_cons_zero, List.set_cons_succ]
            refine wpAnyH_take (i := 17) (oi := { dst := some 124, op := Op.pick (Operand.tmp 116) (Operand.tmp 123) (Operand.const (Value.bool false)), type := 4, pos := "more.go:35", after := #[{ on := 9, ground := Ground.data }, { on := 16, ground := Ground.data }], guard := none }) (v := ?tkv854) rfl (by kernel_rfl) (by kernel_rfl) (by kernel_rfl) (fun _ _ _ h => h) (Or.inl ⟨by rfl, ?tky854⟩) hH853 ?tkr854
            case tky854 => (intro w' hSw; clear hSw; go_simp; try with_reducible rfl)
            try simp only [Act.put, List.setIfInBounds_toArray, List.set_cons_zero, List.set_cons_succ]
            refine wpAnyH_take (i := 18) (oi := { dst := some 125, op := Op.move (Operand.tmp 124), type := 4, pos := "more.go:35", after := #[{ on := 17, ground := Ground.data }, { on := 16, ground := Ground.chain }], guard := none }) (v := ?tkv855) rfl (by kernel_rfl) (by kernel_rfl) (by kernel_rfl) (fun _ _ _ h => h) (Or.inl ⟨by rfl, ?tky855⟩) hH853 ?tkr855
            case tky855 => (intro w' hSw; clear hSw; go_simp; try with_reducible rfl)
            try simp only [Act.put, List.setIfInBounds_toArray, List.set_cons_zero, List.set_cons_succ]
            refine wpAnyH_take (i := 19) (oi := { dst := some 126, op := Op.move (Operand.tmp 2), type := 3, pos := "more.go:35", after := #[{ on := 18, ground := Ground.guard }], guard := some (18, true) }) (v := ?tkv856) rfl (by kernel_rfl) (by kernel_rfl) (by kernel_rfl) (fun _ _ _ h => h) (Or.inl ⟨by rfl, ?tky856⟩) hH853 ?tkr856
            case tky856 => (intro w' hSw; clear hSw; go_simp; try with_reducible rfl)
            try simp only [Act.put, List.setIfInBounds_toArray, List.set_cons_zero, List.set_cons_succ]
            refine wpAnyH_take (i := 20) (oi := { dst := some 127, op := Op.binOp BinOp.eql 3 (Operand.tmp 126) (Operand.const (Value.int IntKind.i64 0)) 3, type := 4, pos := "more.go:35", after := #[{ on := 19, ground := Ground.data }, { on := 18, ground := Ground.guard }], guard := some (18, true) }) (v := ?tkv857) rfl (by kernel_rfl) (by kernel_rfl) (by kernel_rfl) (fun _ _ _ h => h) (Or.inl ⟨by rfl, ?tky857⟩) hH853 ?tkr857
            case tky857 => (intro w' hSw; clear hSw; go_simp; try with_reducible rfl)
            try simp only [Act.put, List.setIfInBounds_toArray, List.set_cons_zero, List.set_cons_succ]
            refine wpAnyH_take (i := 21) (oi := { dst := some 128, op := Op.move (Operand.tmp 127), type := 4, pos := "more.go:35", after := #[{ on := 20, ground := Ground.data }, { on := 18, ground := Ground.chain }, { on := 18, ground := Ground.guard }], guard := some (18, true) }) (v := ?tkv858) rfl (by kernel_rfl) (by kernel_rfl) (by kernel_rfl) (fun _ _ _ h => h) (Or.inl ⟨by rfl, ?tky858⟩) hH853 ?tkr858
            case tky858 => (intro w' hSw; clear hSw; go_simp; try with_reducible rfl)
            try simp only [Act.put, List.setIfInBounds_toArray, List.set_cons_zero, List.set_cons_succ]
            refine wpAnyH_take (i := 22) (oi := { dst := some 129, op := Op.move (Operand.tmp 9), type := 23, pos := "more.go:35", after := #[{ on := 21, ground := Ground.guard }], guard := some (21, false) }) (v := ?tkv859) rfl (by kernel_rfl) (by kernel_rfl) (by kernel_rfl) (fun _ _ _ h => h) (Or.inl ⟨by rfl, ?tky859⟩) hH853 ?tkr859
            case tky859 => (intro w' hSw; clear hSw; go_simp; try with_reducible rfl)
            try simp only [Act.put, List.setIfInBounds_toArray, List.set_cons_zero, List.set_cons_succ]
            refine wpAnyH_ready (rs := [23]) (by kernel_rfl) (by simp) ?_
            refine AllReadyH.cons (o := { dst := some 130, op := Op.call { callee := Callee.value (Operand.func 29), args := #[Operand.tmp 129, Operand.const (Value.int IntKind.i64 6)], argTypes := #[23, 3] }, type := 3, pos := "more.go:35", after := #[{ on := 22, ground := Ground.data }, { on := 21, ground := Ground.chain }, { on := 21, ground := Ground.guard }], guard := some (21, false) }) rfl (fun K hK => ?_) AllReadyH.nil
            go_simp
            have HE860 := erases_any gf 6 f2 wn853 (HY.out.below (hH853)).fl (by omega)
            rw [HG4.out] at HE860
            refine HE860.mono ?_
            clear HE860
            rintro e' _ ⟨rfl, rfl⟩
            go_simp
            have hS860 : Below (wb.heap.size) wb wn853 := hH853
            refine hK.out _ _ hS860 (fun hH860 => ?_)
            have hH860 : Below (wb.heap.size) wb wn853 := hH860
            clear hK K hS860
            try simp only [Act.put, List.setIfInBounds_toArray, List.set_cons_zero, List.set_cons_succ]
            refine wpAnyH_take (i := 24) (oi := { dst := some 131, op := Op.binOp BinOp.eql 3 (Operand.tmp 130) (Operand.const (Value.int IntKind.i64 1)) 3, type := 4, pos := "more.go:35", after := #[{ on := 23, ground := Ground.data }, { on := 21, ground := Ground.guard }], guard := some (21, false) }) (v := ?tkv861) rfl (by kernel_rfl) (by kernel_rfl) (by kernel_rfl) (fun _ _ _ h => h) (Or.inl ⟨by rfl, ?tky861⟩) hH860 ?tkr861
            case tky861 => (intro w' hSw; clear hSw; go_simp; try with_reducible rfl)
            try simp only [Act.put, List.setIfInBounds_toArray, List.set_cons_zero, List.set_cons_succ]
            refine wpAnyH_take (i := 25) (oi := { dst := some 132, op := Op.pick (Operand.tmp 128) (Operand.const (Value.bool true)) (Operand.tmp 131), type := 4, pos := "more.go:35", after := #[{ on := 21, ground := Ground.data }, { on := 24, ground := Ground.data }, { on := 18, ground := Ground.guard }], guard := some (18, true) }) (v := ?tkv862) rfl (by kernel_rfl) (by kernel_rfl) (by kernel_rfl) (fun _ _ _ h => h) (Or.inl ⟨by rfl, ?tky862⟩) hH860 ?tkr862
            case tky862 => (intro w' hSw; clear hSw; go_simp; try with_reducible rfl)
            try simp only [Act.put, List.setIfInBounds_toArray, List.set_cons_zero, List.set_cons_succ]
            refine wpAnyH_take (i := 26) (oi := { dst := some 133, op := Op.pick (Operand.tmp 125) (Operand.tmp 132) (Operand.const (Value.bool false)), type := 4, pos := "more.go:35", after := #[{ on := 18, ground := Ground.data }, { on := 25, ground := Ground.data }], guard := none }) (v := ?tkv863) rfl (by kernel_rfl) (by kernel_rfl) (by kernel_rfl) (fun _ _ _ h => h) (Or.inl ⟨by rfl, ?tky863⟩) hH860 ?tkr863
            case tky863 => (intro w' hSw; clear hSw; go_simp; try with_reducible rfl)
            try simp only [Act.put, List.setIfInBounds_toArray, List.set_cons_zero, List.set_cons_succ]
            refine wpAnyH_take (i := 27) (oi := { dst := some 134, op := Op.move (Operand.tmp 133), type := 4, pos := "more.go:35", after := #[{ on := 26, ground := Ground.data }, { on := 23, ground := Ground.chain }], guard := none }) (v := ?tkv864) rfl (by kernel_rfl) (by kernel_rfl) (by kernel_rfl) (fun _ _ _ h => h) (Or.inl ⟨by rfl, ?tky864⟩) hH860 ?tkr864
            case tky864 => (intro w' hSw; clear hSw; go_simp; try with_reducible rfl)
            try simp only [Act.put, List.setIfInBounds_toArray, List.set_cons_zero, List.set_cons_succ]
            refine wpAnyH_ready (rs := [28]) (by kernel_rfl) (by simp) ?_
            refine AllReadyH.cons (o := { dst := some 135, op := Op.call { callee := Callee.value (Operand.func 32), args := #[], argTypes := #[] }, type := 4, pos := "more.go:35", after := #[{ on := 27, ground := Ground.chain }, { on := 27, ground := Ground.guard }], guard := some (27, true) }) rfl (fun K hK => ?_) AllReadyH.nil
            go_simp
            refine (awake18_any wn853).mono ?_
            rintro e' wn865 ⟨rfl, hb865⟩
            have hb865 := hb865.out
            go_simp
            have OM832_865 := Lib.hid (OM832_853.out.below hb865)
            have RL851_865 := Lib.hid (RL851_853.out.below hb865)
            have HRY852_865 := Lib.hid (HRY852_853.out.below hb865)
            have hS865 : Below (wb.heap.size) wb wn865 := (hH860).trans (hb865.mono (hH860).size)
            refine hK.out _ _ hS865 (fun hH865 => ?_)
            have hH865 : Below (wb.heap.size) wb wn865 := hH865
            clear hK K hS865
            try simp only [Act.put, List.setIfInBounds_toArray, List.set_cons_zero, List.set_cons_succ]
            refine wpAnyH_take (i := 29) (oi := { dst := some 136, op := Op.pick (Operand.tmp 134) (Operand.tmp 135) (Operand.const (Value.bool false)), type := 4, pos := "more.go:35", after := #[{ on := 27, ground := Ground.data }, { on := 28, ground := Ground.data }], guard := none }) (v := ?tkv866) rfl (by kernel_rfl) (by kernel_rfl) (by kernel_rfl) (fun _ _ _ h => h) (Or.inl ⟨by rfl, ?tky866⟩) hH865 ?tkr866
            case tky866 => (intro w' hSw; clear hSw; go_simp; try with_reducible rfl)
            try simp only [Act.put, List.setIfInBounds_toArray, List.set_cons_zero, List.set_cons_succ]
            refine wpAnyH_take (i := 30) (oi := { dst := some 8, op := Op.assign (Operand.tmp 136), type := 4, pos := "more.go:35", after := #[{ on := 29, ground := Ground.data }, { on := 28, ground := Ground.chain }, { on := 0, ground := Ground.phase }, { on := 1, ground := Ground.phase }, { on := 2, ground := Ground.phase }, { on := 3, ground := Ground.phase }, { on := 4, ground := Ground.phase }, { on := 5, ground := Ground.phase }, { on := 6, ground := Ground.phase }, { on := 7, ground := Ground.phase }, { on := 8, ground := Ground.phase }, { on := 9, ground := Ground.phase }, { on := 10, ground := Ground.phase }, { on := 11, ground := Ground.phase }, { on := 12, ground := Ground.phase }, { on := 13, ground := Ground.phase }, { on := 14, ground := Ground.phase }, { on := 15, ground := Ground.phase }, { on := 16, ground := Ground.phase }, { on := 17, ground := Ground.phase }, { on := 18, ground := Ground.phase }, { on := 19, ground := Ground.phase }, { on := 20, ground := Ground.phase }, { on := 21, ground := Ground.phase }, { on := 22, ground := Ground.phase }, { on := 23, ground := Ground.phase }, { on := 24, ground := Ground.phase }, { on := 25, ground := Ground.phase }, { on := 26, ground := Ground.phase }, { on := 27, ground := Ground.phase }, { on := 28, ground := Ground.phase }, { on := 29, ground := Ground.phase }], guard := none }) (v := ?tkv867) rfl (by kernel_rfl) (by kernel_rfl) (by kernel_rfl) (fun _ _ _ h => h) (Or.inl ⟨by rfl, ?tky867⟩) hH865 ?tkr867
            case tky867 => (intro w' hSw; clear hSw; go_simp; try with_reducible rfl)
            try simp only [Act.put, List.setIfInBounds_toArray, List.set_cons_zero, List.set_cons_succ]
            refine wpAnyH_done (by kernel_rfl) ?_ _
            refine NoPanic.normal ?_
            go_wp2_with fail
            go_ret
            exact ⟨rfl, HZ.out.b.trans ((hH865).mono HZ.out.b.size)⟩
end Go.Proofs.Ytmlmpjokmbgmcaa
