/- ElimSpans' walk. -/
import Derived.Test.YtdogbdbjagechaaDoorElSpM
import Derived.Test.YtdogbdbjagechaaDoorElUnitsW
import Derived.Test.YtdogbdbjagechaaDoorLawNumss
namespace Go.Proofs.YtdogbdbjagechaaDoor.El
open Go.RowKit
open VecM Vc
def pieceS (sb : UInt8) (i : Nat) : List UInt8 := [UInt8.ofNat i * 37 + sb, UInt8.ofNat i ^^^ sb]
theorem pieceS_len (sb : UInt8) (i : Nat) : (pieceS sb i).length = 2 := rfl
theorem convO {w : World} {base n : Nat} {A : Option Addr} {l : List UInt8} (c : Nat) (h : w.ownsRow base 5 1 (.slice A n c) n (bv l)) : ∀ W, Below w.heap.size w W → (convert 30 9 (.slice A n c)).run Tryd.prog W = .ok (.string ⟨l.toArray⟩) W := fun _W hW =>
  run_string_row (Row.of_own (own_below h hW)) c 30 9 5 Tryd.underlying30 Tryd.underlying5 Tryd.underlying9
theorem convR {w : World} {B n : Nat} {A : Option Addr} {l : List UInt8} (c : Nat) (h : Row w B A n (bv l)) (hB : B ≤ w.heap.size) : ∀ W, Below w.heap.size w W → (convert 30 9 (.slice A n c)).run Tryd.prog W = .ok (.string ⟨l.toArray⟩) W := fun _W hW =>
  run_string_row (h.below (hW.mono hB)) c 30 9 5 Tryd.underlying30 Tryd.underlying5 Tryd.underlying9
theorem row_at {w0 w : World} {gl n t : Nat} {es : List BRow} {p : Nat → List UInt8} (h : SolAt w0 gl n es w) (he : es.map (·.l) = (List.range n).map p) (hp : (p t).length = 2) (ht : t < n) :
    gl < w.heap.size ∧ ∃ dd c, w.cell? ⟨gl, t, none⟩ = some (.slice (some ⟨dd, 0, none⟩) 2 c) ∧ Row w w.heap.size (some ⟨dd, 0, none⟩) 2 (bv (p t)) := by
  obtain ⟨r, hre, hrl⟩ : ∃ r, es[t]? = some r ∧ r.l = p t := by
    have h := congrArg (fun l : List (List UInt8) => l[t]?) he
    simp only [List.getElem?_map, List.getElem?_range ht] at h
    cases hx : es[t]? with
    | none => rw [hx] at h; cases h
    | some r => rw [hx] at h; exact ⟨r, rfl, Option.some.inj h⟩
  obtain ⟨ccs, k1, k2, k3⟩ := h.row
  obtain ⟨a1, a2, dd, a3, _⟩ := h.at_ r (List.mem_of_getElem? hre)
  refine ⟨(Array.getElem?_eq_some_iff.1 k1).1, dd, r.c, ?_, ?_⟩
  · rw [cell_of_row w gl t ccs _ (0, 0) k1, k3 t r hre]
    unfold BRow.val
    rw [a1, a3, hrl, hp]
  · have hrow := a2.row
    rw [hrl, a3, hp] at hrow
    exact hrow
/-- where the sum of the pieces stands: block gd alone was written since wl -/
structure DRel (wl W : World) (gd : Nat) (d : List UInt8) : Prop where
  g : wl.grownBy W (some gd)
  c : W.heap[gd]? = some (.cells #[.int .u8 ((d.getD 0 0).toNat : Int), .int .u8 ((d.getD 1 0).toNat : Int)] 5 (0, 0))
theorem DRel.below {wb wl W : World} {gd : Nat} {d : List UInt8} (h : DRel wl W gd d) (hb : Below wb.heap.size wb wl) (hg : wb.heap.size ≤ gd) : Below wb.heap.size wb W :=
  ⟨h.g.os.trans hb.os, h.g.tape.trans hb.tape, h.g.output.trans hb.output, Nat.le_trans hb.size h.g.size, fun b hl => (h.g.block b (Nat.lt_of_lt_of_le hl hb.size) (fun e => by injection e with e; omega)).trans (hb.block b hl)⟩
theorem DRel.row {wl W : World} {gd : Nat} {d : List UInt8} (h : DRel wl W gd d) (hl : d.length = 2) : Row W W.heap.size (some ⟨gd, 0, none⟩) d.length (bv d) := by
  obtain ⟨a, b, rfl⟩ : ∃ a b, d = [a, b] := by
    match d, hl with
    | [a, b], _ => exact ⟨a, b, rfl⟩
  refine ⟨rfl, fun _ => ⟨gd, 0, rfl, (Array.getElem?_eq_some_iff.1 h.c).1, fun j u hu => ?_⟩⟩
  rw [Nat.zero_add, cell_of_row W gd j _ _ (0, 0) h.c]
  match j, hu with
  | 0, hu => exact hu
  | 1, hu => exact hu
  | j + 2, hu => simp [bv] at hu
theorem DRel.set {wl W : World} {gd : Nat} {d : List UInt8} (h : DRel wl W gd d) (x : UInt8) : DRel wl (W.setCell ⟨gd, 0, none⟩ (.int .u8 (x.toNat : Int))).drew gd [x, d.getD 1 0] := by
  have g := h.g.trans (grown_set1 W gd 0 (.int .u8 (x.toNat : Int)))
  exact ⟨⟨g.os, g.tape, g.output, g.size, g.block⟩, heap_setCell_same W gd 0 _ _ (.int .u8 (x.toNat : Int)) h.c⟩
theorem DRel.set1 {wl W : World} {gd : Nat} {d : List UInt8} (h : DRel wl W gd d) (x : UInt8) : DRel wl (W.setCell ⟨gd, 1, none⟩ (.int .u8 (x.toNat : Int))).drew gd [d.getD 0 0, x] := by
  have g := h.g.trans (grown_set1 W gd 1 (.int .u8 (x.toNat : Int)))
  exact ⟨⟨g.os, g.tape, g.output, g.size, g.block⟩, heap_setCell_same W gd 1 _ _ (.int .u8 (x.toNat : Int)) h.c⟩
set_option maxRecDepth 100000 in
set_option maxHeartbeats 12800000 in
theorem elspans_walk (x turn : Int) (U : Option Addr) (m cu : Nat) (R : Nat → NRow) (sb : UInt8) (w : World) (ht : DTab w) (hr : Numss w U m R) (hcap : m ≤ cu ∧ cu ≤ 9223372036854775807) :
    Calls Tryd.prog 6 #[.int .i64 x, .slice U m cu, .int .u8 (sb.toNat : Int), .int .i64 turn] w fun e w' => e = .returned (.bool true) ∧ Below w.heap.size w w' := by
  obtain ⟨k0, hk0, hpick⟩ := pick_in x 40 (by omega) (by omega)
  obtain ⟨n, hN⟩ : ∃ n : Nat, k0 + 1 = n := ⟨_, rfl⟩
  have HPK := Lib.hid hpick
  have hn1 : 1 ≤ n := by omega
  have hn40 : n ≤ 40 := by omega
  have hk39 : (k0 : Int) ≤ 39 := by omega
  have e1k : (1 : Int) + (k0 : Int) = (n : Int) := by omega
  have HT := Lib.hid ht
  have HR := Lib.hid hr
  clear hpick hN ht hr
  go_enter Tryd.func6, Tryd.ntmps6
  go_upto_region 2 with (rw [HPK.out])
  clear e1k HPK hk39 hk0
  by_cases h60 : 60 < m
  · have h60i : (60 : Int) < (m : Int) := by omega
    go_wp2_with fail
    refine (awake6_any w HT.out).mono ?_
    rintro e w9 ⟨rfl, hb9⟩
    have HB9 := Lib.hid hb9.out
    clear hb9
    go_wp2_with fail
    go_ret
    exact ⟨rfl, HB9.out⟩
  · have h60i : ¬ ((60 : Int) < (m : Int)) := by omega
    have hm60 : (m : Int) ≤ 60 := by omega
    have hni : (n : Int) ≤ 40 := by omega
    have hni1 : (1 : Int) ≤ (n : Int) := by omega
    obtain ⟨Cs, hC, hmk⟩ := made_nils n (by omega)
    have hba : Below w.heap.size w (w.alloc (.cells Cs 30)) := (Below.refl _ _).alloc (Nat.le_refl _) _
    have HS0 : Hid (SolAt w w.heap.size n [] (w.alloc (.cells Cs 30))) := Lib.hid ⟨⟨Cs, heap_alloc_new _ _, hC, fun i r hr => (by cases hr)⟩, fun r hr => (by cases hr), Nat.le_refl _, hba⟩
    go_upto_region 5 with fail
    clear hmk
    generalize w.alloc (.cells Cs 30) = w0 at *
    obtain ⟨gp, hgp⟩ : ∃ gp, w.heap.size = gp := ⟨_, rfl⟩
    have HGP : Hid (w.heap.size = gp) := Lib.hid hgp
    rw [hgp] at HS0 ⊢
    clear hgp hba hC
    go_wp2_with fail
    go_loopw [37] (fun i wr => ∃ (k : Nat) (es : List BRow), k ≤ n ∧ i = .int .i64 k ∧ es.length = k ∧ es.map (·.l) = (List.range k).map (pieceS sb) ∧ Hid (SolAt w gp n es wr)) (fun i _ => n - (intOf i).toNat)
    case atStart => exact ⟨0, [], by omega, rfl, rfl, rfl, HS0⟩
    case round =>
      obtain ⟨k, es, hk, rfl, hek, hes, hs⟩ := hrel
      have HES := Lib.hid hes
      have HEK := Lib.hid hek
      clear HS0 hes hek
      by_cases hlt : k < n
      · have hki : (k : Int) < (n : Int) := by omega
        have hk40 : (k : Int) ≤ 39 := by omega
        have hva : ((k : Int) * 37 + (sb.toNat : Int)) % 256 = ((UInt8.ofNat k * 37 + sb).toNat : Int) := by
          rw [UInt8.toNat_add, UInt8.toNat_mul, UInt8.toNat_ofNat']
          have : (37 : UInt8).toNat = 37 := rfl
          rw [this]
          omega
        have hvb : bits .xor .u8 (k : Int) (sb.toNat : Int) = ((UInt8.ofNat k ^^^ sb).toNat : Int) := by
          have h := xor_int (UInt8.ofNat k) sb
          rw [show ((UInt8.ofNat k).toNat : Int) = (k : Int) by rw [UInt8.toNat_ofNat']; omega] at h
          exact h
        have bal : Below wr.heap.size wr (wr.alloc (.cells #[.int .u8 (((k : Int) * 37 + (sb.toNat : Int)) % 256), .int .u8 (bits .xor .u8 (k : Int) (sb.toNat : Int))] 5)) := (Below.refl _ _).alloc (Nat.le_refl _) _
        have D : DatAt (wr.alloc (.cells #[.int .u8 (((k : Int) * 37 + (sb.toNat : Int)) % 256), .int .u8 (bits .xor .u8 (k : Int) (sb.toNat : Int))] 5)) (some ⟨wr.heap.size, 0, none⟩) 2 (pieceS sb k) := by
          have h := own_lit (w := wr) (base := 0) (g := wr.heap.size) (n := 2) (e := 5) #[.int .u8 (((k : Int) * 37 + (sb.toNat : Int)) % 256), .int .u8 (bits .xor .u8 (k : Int) (sb.toNat : Int))] rfl (Nat.zero_le _) rfl (by unfold maxLen; omega)
          have e : bv (pieceS sb k) = [.int .u8 (((k : Int) * 37 + (sb.toNat : Int)) % 256), .int .u8 (bits .xor .u8 (k : Int) (sb.toNat : Int))] := by
            rw [hva, hvb]; rfl
          unfold DatAt
          rw [e]
          exact h
        have hsb := hs.out.below bal
        have hgl : gp < wr.heap.size := by
          obtain ⟨cs, h1, _⟩ := hs.out.row
          exact (Array.getElem?_eq_some_iff.1 h1).1
        obtain ⟨cs, h1, h2, _⟩ := hsb.row
        have HN3 := Lib.hid (hsb.next (by rw [HEK.out]; exact hlt) D hgl)
        rw [HEK.out] at HN3
        have HNX : Hid ((es ++ [(⟨some ⟨wr.heap.size, 0, none⟩, 2, 2, pieceS sb k⟩ : BRow)]).map (·.l) = (List.range (k + 1)).map (pieceS sb)) := Lib.hid (by
          rw [List.map_append, HES.out, List.range_succ, List.map_append]
          rfl)
        have fz := frozen_of_row (wr.alloc (.cells #[.int .u8 (((k : Int) * 37 + (sb.toNat : Int)) % 256), .int .u8 (bits .xor .u8 (k : Int) (sb.toNat : Int))] 5)) gp k cs _ h1
        have cl : ∃ v, (wr.alloc (.cells #[.int .u8 (((k : Int) * 37 + (sb.toNat : Int)) % 256), .int .u8 (bits .xor .u8 (k : Int) (sb.toNat : Int))] 5)).cell? ⟨gp, k, none⟩ = some v := ⟨cs[k]'(by omega), by rw [cell_of_row _ gp k cs _ (0, 0) h1]; exact Array.getElem?_eq_getElem _⟩
        obtain ⟨v0, cl⟩ := cl
        clear hva hvb bal D hsb h1 h2 hs hgl
        go_wp2_with fail
        go_roundw
        case rel => exact ⟨k + 1, _, by omega, by go_num, by rw [List.length_append, HEK.out]; rfl, HNX.out, HN3⟩
        case measure => simp [intOf]; omega
      · obtain rfl : n = k := by omega
        clear hlt
        obtain ⟨wp, rfl⟩ : ∃ W : World, W = wr := ⟨_, rfl⟩
        have HPC := Lib.hid hs.out
        have HBP : Hid (Below w.heap.size w wp) := Lib.hid hs.out.b
        clear hs
        go_wp2_with fail
        refine (newI n 2 wp (by omega) (by omega)).mono ?_
        rintro e wa ⟨ga, rfl, hma, hba⟩
        have SA : Hid (Sep3 (matO ga n 2 (matS n (pieceS sb) (fun i => ofL n (R i).zs) 0)) noObj noObj wp wa) := Lib.hid ((Sep3.start wp).create (A' := matO ga n 2 (matS n (pieceS sb) (fun i => ofL n (R i).zs) 0)) keeps_no keeps_no hba.out hma.out)
        clear hma hba
        go_wp2_with fail
        refine (newI n 2 wa (by omega) (by omega)).mono ?_
        rintro e wb ⟨gb, rfl, hmb, hbb⟩
        obtain ⟨m1, hm1⟩ : ∃ m1 : Nat, (m : Int) + 1 = (m1 : Int) := ⟨m + 1, by omega⟩
        have hm1c : (m1 : Int) ≤ 61 := by omega
        have hm1d : 1 ≤ (m1 : Int) := by omega
        obtain ⟨t, ht, htp⟩ := pick_in turn (m1 : Int) (by omega) (by omega)
        have HTP := Lib.hid htp
        have HM1 := Lib.hid hm1
        have htm : t ≤ 60 := by omega
        have S0 : Hid (Sep3 (matO ga n 2 (matS n (pieceS sb) (fun i => ofL n (R i).zs) 0)) (matO gb n 2 (matS n (pieceS sb) (fun i => ofL n (R ((i + t) % m)).zs) 0)) noObj wp wb) := Lib.hid ((SA.out.swap.create (A' := matO gb n 2 (matS n (pieceS sb) (fun i => ofL n (R ((i + t) % m)).zs) 0)) (keeps_mat _ _ _ _) keeps_no hbb.out hmb.out).swap)
        clear hmb hbb SA htp hm1 ht
        go_upto_region 12 with (first | rw [HM1.out] | rw [HTP.out])
        go_wp2_with fail
        go_loopw [69] (fun i wr => (i = .int .i64 0 ∧ Hid (Sep3 (matO ga n 2 (matS n (pieceS sb) (fun i => ofL n (R i).zs) 0)) (matO gb n 2 (matS n (pieceS sb) (fun i => ofL n (R ((i + t) % m)).zs) 0)) noObj wp wr)) ∨ (i = .int .i64 1 ∧ Hid (Sep3 (matO ga n 2 (matS n (pieceS sb) (fun i => ofL n (R i).zs) m)) (matO gb n 2 (matS n (pieceS sb) (fun i => ofL n (R ((i + t) % m)).zs) 0)) noObj wp wr)) ∨ (i = .int .i64 2 ∧ Hid (Sep3 (matO ga n 2 (matS n (pieceS sb) (fun i => ofL n (R i).zs) m)) (matO gb n 2 (matS n (pieceS sb) (fun i => ofL n (R ((i + t) % m)).zs) m)) noObj wp wr))) (fun i _ => 2 - (intOf i).toNat)
        case atStart => exact .inl ⟨rfl, S0⟩
        case round =>
          clear S0
          rcases hrel with ⟨rfl, SS⟩ | ⟨rfl, SS⟩ | ⟨rfl, SS⟩
          · skip
            have hix : ∀ w' : World, (Instr.index 65 (.agg #[.pointer (some ⟨ga, 0, none⟩), .pointer (some ⟨gb, 0, none⟩)]) (.int .i64 0)).run Tryd.prog w' = .ok (.pointer (some ⟨ga, 0, none⟩)) w' := fun w' => by kernel_rfl
            go_wp2_with fail
            clear hix
            go_loopw [75] (fun i wr => ∃ j : Nat, j ≤ m ∧ i = .int .i64 j ∧ Hid (Sep3 (matO ga n 2 (matS n (pieceS sb) (fun i => ofL n (R i).zs) j)) (matO gb n 2 (matS n (pieceS sb) (fun i => ofL n (R ((i + t) % m)).zs) 0)) noObj wp wr)) (fun i _ => m - (intOf i).toNat)
            case atStart => exact ⟨0, by omega, rfl, SS⟩
            case round =>
              obtain ⟨j, hj, rfl, SR⟩ := hrel
              clear SS
              by_cases hlt : j < m
              · have hji : (j : Int) < (m : Int) := by omega
                
                have HNS := Numss.keep HR.out (HBP.out.trans (SR.out.b.mono HBP.out.size))
                obtain ⟨bu, ou, rfl, _, cj, hrow, hncj, hcmj⟩ := HNS j hlt
                
                by_cases h100 : 100 < (R j).n
                · have h100i : (100 : Int) < ((R j).n : Int) := by omega
                  have HBW := Lib.hid (HBP.out.trans (SR.out.b.mono HBP.out.size))
                  go_wp2_with fail
                  refine (awake6_any _ (HT.out.grow HBW.out)).mono ?_
                  rintro e w9 ⟨rfl, hb9⟩
                  have HB9 := Lib.hid (HBW.out.trans (hb9.out.mono HBW.out.size))
                  clear hb9
                  go_wp2_with fail
                  go_ret
                  exact ⟨rfl, HB9.out⟩
                · have h100i : ¬ ((100 : Int) < ((R j).n : Int)) := by omega
                  have h100j : ((R j).n : Int) ≤ 100 := by omega
                  have HOF := Lib.hid (of_any n (R j).A (R j).n (R j).c _ (R j).zs wr hrow (Nat.le_refl _) (by omega) (by omega))
                  obtain ⟨FM, hmf, _, hfl, hnext⟩ := SR.out.first2 (keeps_mat _ _ _ _) keeps_no
                  have HMF := Lib.hid hmf
                  have HFL := Lib.hid hfl
                  have HNXT := Lib.hid hnext
                  have SR0 := Lib.hid SR.out
                  obtain ⟨wr0, rfl⟩ : ∃ W : World, W = wr := ⟨_, rfl⟩
                  clear HNS hmf hfl hnext
                  go_wp2_with fail
                  refine HOF.out.mono ?_
                  rintro e wv ⟨gv, hv, rfl, hgv1, hgv2, hvec, hbv⟩
                  have HGV : Hid (wr0.heap.size ≤ gv ∧ wr0.heap.size ≤ hv) := Lib.hid ⟨hgv1, hgv2⟩
                  have HBZ := Lib.hid hbv.out
                  clear hgv1 hgv2
                  have SV := Lib.hid (SR.out.below (keeps_mat _ _ _ _) (keeps_mat _ _ _ _) keeps_no hbv.out)
                  obtain ⟨X, hX⟩ : ∃ X, ofL n (R j).zs = X := ⟨_, rfl⟩
                  have hvx := hvec.out
                  rw [hX] at hvx
                  have HX := Lib.hid hX
                  have HVX := Lib.hid hvx
                  have bal : Below wv.heap.size wv (wv.alloc (.cells #[.int .u8 0, .int .u8 0] 5)) := (Below.refl _ _).alloc (Nat.le_refl _) _
                  have HAL := Lib.hid bal
                  have HV2 := Lib.hid (hvx.keep (bal.block _ hvx.lt.1) (bal.block _ hvx.lt.2))
                  have HDB := Lib.hid (heap_alloc_new wv (.cells #[.int .u8 0, .int .u8 0] 5))
                  have HGZ : Hid ((wv.alloc (.cells #[.int .u8 0, .int .u8 0] 5)).heap.size = wv.heap.size + 1) := Lib.hid (by simp)
                  have HBW := Lib.hid (HBP.out.trans ((SV.out.b.trans (bal.mono SV.out.b.size)).mono HBP.out.size))
                  clear hX hvx hvec hbv bal HOF SR
                  go_wp2_with fail
                  generalize (wv.alloc (.cells #[.int .u8 0, .int .u8 0] 5)) = wd at *
                  refine (list_any gv hv n X wd HV2.out (HT.out.grow HBW.out)).mono ?_
                  rintro e wl ⟨Al, cl, rfl, hol, hbl⟩
                  have HLR := Lib.hid (Row.of_own hol.out)
                  have HLO : Hid (∀ b, (Value.slice Al (Ls X).length cl).ownBlock = some b → wd.heap.size ≤ b) := Lib.hid fun b he => (hol.out.lt b he).1
                  have HWL := Lib.hid (HAL.out.trans (hbl.out.mono HAL.out.size))
                  have HD0 : Hid (DRel wl wl wv.heap.size (foldD (pieceS sb) ((Ls X).take 0))) := Lib.hid ⟨⟨rfl, rfl, rfl, Nat.le_refl _, fun _ _ _ => rfl⟩, (hbl.out.block _ (by have := HGZ.out; omega)).trans HDB.out⟩
                  have HLS : Hid (Ls X = L X n) := Lib.hid (L_more (by rw [← HX.out]; exact ofL_lt _) (by omega))
                  have HFO : Hid (foldD (pieceS sb) (Ls X) = sumD (pieceS sb) X n) := Lib.hid (by rw [HLS.out, foldD_L])
                  have HLM : Hid (∀ z, z < (Ls X).length → (Ls X).getD z 0 < n) := Lib.hid fun z hz => by
                    have hm : (Ls X).getD z 0 ∈ Ls X := by rw [List.getD_eq_getElem?_getD, List.getElem?_eq_getElem hz]; exact List.getElem_mem hz
                    rw [HLS.out] at hm
                    rw [HLS.out]
                    exact ((mem_L X n _).1 hm).1
                  have hlx : (Ls X).length ≤ 40 := by
                    rw [HLS.out]
                    exact Nat.le_trans (List.length_filter_le _ _) (by rw [List.length_range]; exact hn40)
                  obtain ⟨Lx, hLx⟩ : ∃ Lx, Ls X = Lx := ⟨_, rfl⟩
                  rw [hLx] at HLR HLO HD0 HFO HLM hlx ⊢
                  clear hLx HLS
                  have hlxi : (Lx.length : Int) ≤ 40 := by omega
                  have HPW : Hid (∀ W gd', DRel wl W wv.heap.size gd' → ∀ p : Addr, p.block < wp.heap.size → W.cell? p = wp.cell? p) := Lib.hid fun W gd' hd p hp => by
                    have h1 := SV.out.b.size
                    have h2 := HGZ.out
                    have h3 := HWL.out.size
                    exact (hd.g.cell_far p (by omega) (fun e => by injection e with e; omega)).trans ((SV.out.b.trans (HWL.out.mono SV.out.b.size)).cell hp)
                  have HLW : Hid (∀ W gd', DRel wl W wv.heap.size gd' → ∀ z, z < Lx.length → ∃ bl ol, Al = some ⟨bl, ol, none⟩ ∧ W.cell? ⟨bl, ol + z, none⟩ = some (.int .i64 ((Lx.getD z 0 : Nat) : Int))) := Lib.hid fun W gd' hd z hz => by
                    obtain ⟨bl, ol, e, hb, hc⟩ := HLR.out.cellAt (k := z) hz (u := .int .i64 ((Lx.getD z 0 : Nat) : Int)) (by simp [nv, hz, List.getD])
                    have hg := HLO.out bl (by rw [e]; rfl)
                    refine ⟨bl, ol, e, (hd.g.cell_far ⟨bl, ol + z, none⟩ hb (fun e => by injection e with e; have := HGZ.out; simp at e; omega)).trans hc⟩
                  clear hol hbl
                  go_wp2_with fail
                  go_loopw [104] (fun i wr => ∃ z : Nat, z ≤ Lx.length ∧ i = .int .i64 z ∧ Hid (DRel wl wr wv.heap.size (foldD (pieceS sb) (Lx.take z)))) (fun i _ => Lx.length - (intOf i).toNat)
                  case atStart => exact ⟨0, by omega, rfl, HD0⟩
                  case round =>
                    obtain ⟨z, hz, rfl, HD⟩ := hrel
                    clear HD0
                    by_cases hzl : z < Lx.length
                    · have hzi : (z : Int) < (Lx.length : Int) := by omega
                      obtain ⟨bl, ol, rfl, hcl⟩ := HLW.out wr _ HD.out z hzl
                      obtain ⟨e, he⟩ : ∃ e, Lx.getD z 0 = e := ⟨_, rfl⟩
                      have hen := HLM.out z hzl
                      rw [he] at hcl hen
                      have hei : (e : Int) < (n : Int) := by omega
                      have hei2 : ¬ (n : Int) ≤ (e : Int) := by omega
                      obtain ⟨r, hre, hrl⟩ : ∃ r, es[e]? = some r ∧ r.l = pieceS sb e := by
                        have h := congrArg (fun l : List (List UInt8) => l[e]?) HES.out
                        simp only [List.getElem?_map, List.getElem?_range hen] at h
                        cases hx : es[e]? with
                        | none => rw [hx] at h; cases h
                        | some r => rw [hx] at h; exact ⟨r, rfl, Option.some.inj h⟩
                      obtain ⟨ccs, k1, k2, k3⟩ := HPC.out.row
                      obtain ⟨a1, a2, dd, a3, _⟩ := HPC.out.at_ r (List.mem_of_getElem? hre)
                      have q0 : wp.cell? ⟨gp, e, none⟩ = some (.slice (some ⟨dd, 0, none⟩) 2 r.c) := by
                        rw [cell_of_row wp gp e ccs _ (0, 0) k1, k3 e r hre]
                        unfold BRow.val
                        rw [a1, a3, hrl]
                        rfl
                      obtain ⟨pa, pb, hpe⟩ : ∃ pa pb, pieceS sb e = [pa, pb] := ⟨_, _, rfl⟩
                      have hrow := a2.row
                      rw [hrl, a3, hpe] at hrow
                      have q1 : wp.cell? ⟨dd, 0, none⟩ = some (.int .u8 (pa.toNat : Int)) := by
                        obtain ⟨b, o, e, _, hc⟩ := hrow.cellAt (k := 0) (u := .int .u8 (pa.toNat : Int)) (by simp) rfl
                        injection e with e
                        injection e with e1 e2
                        subst e1 e2
                        exact hc
                      have q2 : wp.cell? ⟨dd, 1, none⟩ = some (.int .u8 (pb.toNat : Int)) := by
                        obtain ⟨b, o, e, _, hc⟩ := hrow.cellAt (k := 1) (u := .int .u8 (pb.toNat : Int)) (by simp) rfl
                        injection e with e
                        injection e with e1 e2
                        subst e1 e2
                        exact hc
                      have hgpl : gp < wp.heap.size := (Array.getElem?_eq_some_iff.1 k1).1
                      have hddl : dd < wp.heap.size := block_lt_of_cell q1
                      have HOLD : Hid (∀ W gd', DRel wl W wv.heap.size gd' → W.cell? ⟨gp, e, none⟩ = some (.slice (some ⟨dd, 0, none⟩) 2 r.c) ∧ W.cell? ⟨dd, 0, none⟩ = some (.int .u8 (pa.toNat : Int)) ∧ W.cell? ⟨dd, 1, none⟩ = some (.int .u8 (pb.toNat : Int))) := Lib.hid fun W gd' hd => ⟨(HPW.out W gd' hd _ hgpl).trans q0, (HPW.out W gd' hd _ hddl).trans q1, (HPW.out W gd' hd _ hddl).trans q2⟩
                      obtain ⟨dA, hdA⟩ : ∃ dA, foldD (pieceS sb) (Lx.take z) = dA := ⟨_, rfl⟩
                      have HDN : Hid (foldD (pieceS sb) (Lx.take (z + 1)) = [dA.getD 0 0 ^^^ pa, dA.getD 1 0 ^^^ pb]) := Lib.hid (by
                        have h1 : Lx.take (z + 1) = Lx.take z ++ [e] := by rw [List.take_add_one, List.getElem?_eq_getElem hzl, ← he]; simp [List.getD, hzl]
                        have hl2 : dA.length = 2 := by rw [← hdA]; exact foldD_length _ _
                        rw [h1, foldD_snoc, hdA, hpe]
                        apply ext_2 (Z := 2) (by rw [xorL_length, hl2]) rfl
                        intro j hj
                        rw [xorL_at2 _ _ _ (by rw [hl2]; exact hj)]
                        have : j = 0 ∨ j = 1 := by omega
                        rcases this with rfl | rfl <;> rfl)
                      rw [hdA] at HD
                      obtain ⟨d0, hd0⟩ : ∃ d0, dA.getD 0 0 = d0 := ⟨_, rfl⟩
                      obtain ⟨d1, hd1⟩ : ∃ d1, dA.getD 1 0 = d1 := ⟨_, rfl⟩
                      have HDE : Hid (∃ dE, dE = dA) := Lib.hid ⟨_, rfl⟩
                      obtain ⟨o1, o2, o3⟩ := HOLD.out wr _ HD.out
                      have hcd := HD.out.c
                      rw [hd0, hd1] at hcd HDN
                      have hset := fun x => HD.out.set x
                      rw [hd1] at hset
                      have HSET := Lib.hid hset
                      have g0 : wr.cell? ⟨wv.heap.size, 0, none⟩ = some (.int .u8 (d0.toNat : Int)) := by rw [cell_of_row wr _ 0 _ _ (0, 0) hcd]; rfl
                      have fz := frozen_of_row wr wv.heap.size 0 _ _ hcd
                      have HX0 := Lib.hid (xor_int d0 pa)
                      have HX1 := Lib.hid (xor_int d1 pb)
                      clear q0 q1 q2 k1 k2 k3 a1 a2 a3 hrow hre hrl hpe hgpl hddl he hdA hcd hd0 hd1 hset HDE
                      go_upto_region 30 with fail
                      go_region
                      rw [HX0.out]
                      have HD1 := Lib.hid (HSET.out (d0 ^^^ pa))
                      clear o1 o2 o3 g0 fz HSET HD
                      generalize (wr.setCell ⟨wv.heap.size, 0, none⟩ (.int .u8 ((d0 ^^^ pa).toNat : Int))).drew = wr1 at *
                      obtain ⟨o1, o2, o3⟩ := HOLD.out wr1 _ HD1.out
                      have hcd := HD1.out.c
                      have g1 : wr1.cell? ⟨wv.heap.size, 1, none⟩ = some (.int .u8 (d1.toNat : Int)) := by rw [cell_of_row wr1 _ 1 _ _ (0, 0) hcd]; rfl
                      have fz := frozen_of_row wr1 wv.heap.size 1 _ _ hcd
                      clear hcd
                      go_upto_region 31 with fail
                      go_region
                      rw [HX1.out]
                      have HD2 : Hid (DRel wl (wr1.setCell ⟨wv.heap.size, 1, none⟩ (.int .u8 ((d1 ^^^ pb).toNat : Int))).drew wv.heap.size (foldD (pieceS sb) (Lx.take (z + 1)))) := Lib.hid (by rw [HDN.out]; exact HD1.out.set1 (d1 ^^^ pb))
                      clear o1 o2 o3 g1 fz HD1 HOLD HDN
                      generalize (wr1.setCell ⟨wv.heap.size, 1, none⟩ (.int .u8 ((d1 ^^^ pb).toNat : Int))).drew = wr2 at *
                      go_wp2_with fail
                      go_roundw
                      case rel => exact ⟨z + 1, by omega, by go_num, HD2⟩
                      case measure => simp [intOf]; omega
                    · obtain rfl : Lx.length = z := by omega
                      clear hzl
                      rw [List.take_length, HFO.out] at HD
                      have HBV := Lib.hid (HD.out.below HWL.out (Nat.le_refl _))
                      have HBR := Lib.hid (HBZ.out.trans (HBV.out.mono HBZ.out.size))
                      have HVR := Lib.hid (HVX.out.keep (HBV.out.block _ HVX.out.lt.1) (HBV.out.block _ HVX.out.lt.2))
                      have HTR := Lib.hid (HT.out.grow (HBP.out.trans ((SR0.out.b.trans (HBR.out.mono SR0.out.b.size)).mono HBP.out.size)))
                      have HAD := Lib.hid (addI (c0 := 2) (HMF.out.below HBR.out) (matS_got (p := pieceS sb) (x := (fun i => ofL n (R i).zs)) (n := n) (by omega) (fun i => ofL_lt _) j).inv HVR.out (HD.out.row (sumD_length _ _ _)) (sumD_length _ _ _) HTR.out)
                      have HMS : Hid ((addMx n (matS n (pieceS sb) (fun i => ofL n (R i).zs) j) X (sumD (pieceS sb) X n)).1 = matS n (pieceS sb) (fun i => ofL n (R i).zs) (j + 1)) := Lib.hid (by rw [← HX.out]; rfl)
                      have HAG : Hid (decide ((redM (matS n (pieceS sb) (fun i => ofL n (R i).zs) (j + 1)) X [] n).1 ≠ 0) = false) := Lib.hid (by
                        have h := matS_again (p := pieceS sb) (x := (fun i => ofL n (R i).zs)) (n := n) (by omega) (fun i => ofL_lt _) j
                        rw [← HX.out]
                        exact h)
                      go_wp2_with fail
                      refine HAD.out.mono ?_
                      rintro e wz ⟨rfl, hmz2, hfz⟩
                      rw [HMS.out] at hmz2
                      have HFZ : Hid (Fr wr0 wz FM) := Lib.hid ((Fr.of_below (F := FM) HBR.out).trans hfz.out (fun _ _ h => h))
                      have hmz3 : IsMat wz (fun b => FM b ∨ (wr0.heap.size ≤ b ∧ b < wz.heap.size)) ga n 2 (matS n (pieceS sb) (fun i => ofL n (R i).zs) (j + 1)) := hmz2.out.more fun b hb => hb.elim .inl fun h => .inr ⟨Nat.le_trans HBR.out.size h.1, h.2⟩
                      have HM3 := Lib.hid hmz3
                      have SZ : Hid (Sep3 (matO ga n 2 (matS n (pieceS sb) (fun i => ofL n (R i).zs) (j + 1))) (matO gb n 2 (matS n (pieceS sb) (fun i => ofL n (R ((i + t) % m)).zs) 0)) noObj wp wz) := Lib.hid (HNXT.out wz (matO ga n 2 (matS n (pieceS sb) (fun i => ofL n (R i).zs) (j + 1))) HM3.out HFZ.out)
                      have HVZ := Lib.hid (HVR.out.keep (hfz.out.block _ HVR.out.lt.1 (fun h => by have := HFL.out _ h; have := HGV.out; omega)) (hfz.out.block _ HVR.out.lt.2 (fun h => by have := HFL.out _ h; have := HGV.out; omega)))
                      have HTZ := Lib.hid (HT.out.grow (HBP.out.trans (SZ.out.b.mono HBP.out.size)))
                      have HSY := saysI hmz3 HVZ.out HTZ.out
                      rw [HAG.out] at HSY
                      have HSY2 := Lib.hid HSY
                      clear HAD hmz2 hfz hmz3 HSY HM3
                      go_wp2_with fail
                      refine HSY2.out.mono ?_
                      rintro e wy ⟨rfl, hby⟩
                      have SY := Lib.hid (SZ.out.below (keeps_mat _ _ _ _) (keeps_mat _ _ _ _) keeps_no hby.out)
                      clear HSY2 hby
                      go_wp2_with fail
                      go_roundw
                      case rel => exact ⟨j + 1, by omega, by go_num, SY⟩
                      case measure => simp [intOf]; omega
              · obtain rfl : m = j := by omega
                clear hlt
                go_wp2_with fail
                go_roundw
                case rel => exact .inr (.inl ⟨rfl, SR⟩)
                case measure => simp [intOf]
          · skip
            have hix : ∀ w' : World, (Instr.index 65 (.agg #[.pointer (some ⟨ga, 0, none⟩), .pointer (some ⟨gb, 0, none⟩)]) (.int .i64 1)).run Tryd.prog w' = .ok (.pointer (some ⟨gb, 0, none⟩)) w' := fun w' => by kernel_rfl
            go_wp2_with fail
            clear hix
            go_loopw [75] (fun i wr => ∃ j : Nat, j ≤ m ∧ i = .int .i64 j ∧ Hid (Sep3 (matO ga n 2 (matS n (pieceS sb) (fun i => ofL n (R i).zs) m)) (matO gb n 2 (matS n (pieceS sb) (fun i => ofL n (R ((i + t) % m)).zs) j)) noObj wp wr)) (fun i _ => m - (intOf i).toNat)
            case atStart => exact ⟨0, by omega, rfl, SS⟩
            case round =>
              obtain ⟨j, hj, rfl, SR⟩ := hrel
              clear SS
              by_cases hlt : j < m
              · have hji : (j : Int) < (m : Int) := by omega
                obtain ⟨q, hq⟩ : ∃ q, (j + t) % m = q := ⟨_, rfl⟩
                have HQ := Lib.hid hq
                have hqm : q < m := by rw [← hq]; exact Nat.mod_lt _ (by omega)
                have hqi : (q : Int) < (m : Int) := by omega
                have hr1 : ((j : Int) + (t : Int)) % (m : Int) = (q : Int) := by rw [← hq, Int.natCast_emod, Int.natCast_add]
                have hr2 : ((j : Int) + (t : Int)).tmod (m : Int) = (q : Int) := by rw [Int.tmod_eq_emod_of_nonneg (by omega)]; exact hr1
                have hmz : ¬ ((m : Int) = 0) := by omega
                have hti : (t : Int) ≤ 60 := by omega
                have HNS := Numss.keep HR.out (HBP.out.trans (SR.out.b.mono HBP.out.size))
                obtain ⟨bu, ou, rfl, _, cj, hrow, hncj, hcmj⟩ := HNS j hlt
                obtain ⟨_, _, e2, _, cq, hrowq, hncq, hcmq⟩ := HNS q hqm
                injection e2 with e2
                injection e2 with e3 e4
                subst e3 e4
                by_cases h100 : 100 < (R q).n
                · have h100i : (100 : Int) < ((R q).n : Int) := by omega
                  have HBW := Lib.hid (HBP.out.trans (SR.out.b.mono HBP.out.size))
                  go_wp2_with fail
                  refine (awake6_any _ (HT.out.grow HBW.out)).mono ?_
                  rintro e w9 ⟨rfl, hb9⟩
                  have HB9 := Lib.hid (HBW.out.trans (hb9.out.mono HBW.out.size))
                  clear hb9
                  go_wp2_with fail
                  go_ret
                  exact ⟨rfl, HB9.out⟩
                · have h100i : ¬ ((100 : Int) < ((R q).n : Int)) := by omega
                  have h100j : ((R q).n : Int) ≤ 100 := by omega
                  have HOF := Lib.hid (of_any n (R q).A (R q).n (R q).c _ (R q).zs wr hrowq (Nat.le_refl _) (by omega) (by omega))
                  obtain ⟨FM, hmf, _, hfl, hnext⟩ := SR.out.swap.first2 (keeps_mat _ _ _ _) keeps_no
                  have HMF := Lib.hid hmf
                  have HFL := Lib.hid hfl
                  have HNXT := Lib.hid hnext
                  have SR0 := Lib.hid SR.out
                  obtain ⟨wr0, rfl⟩ : ∃ W : World, W = wr := ⟨_, rfl⟩
                  clear HNS hmf hfl hnext
                  go_wp2_with fail
                  refine HOF.out.mono ?_
                  rintro e wv ⟨gv, hv, rfl, hgv1, hgv2, hvec, hbv⟩
                  have HGV : Hid (wr0.heap.size ≤ gv ∧ wr0.heap.size ≤ hv) := Lib.hid ⟨hgv1, hgv2⟩
                  have HBZ := Lib.hid hbv.out
                  clear hgv1 hgv2
                  have SV := Lib.hid (SR.out.below (keeps_mat _ _ _ _) (keeps_mat _ _ _ _) keeps_no hbv.out)
                  obtain ⟨X, hX⟩ : ∃ X, ofL n (R q).zs = X := ⟨_, rfl⟩
                  have hvx := hvec.out
                  rw [hX] at hvx
                  have HX := Lib.hid hX
                  have HVX := Lib.hid hvx
                  have bal : Below wv.heap.size wv (wv.alloc (.cells #[.int .u8 0, .int .u8 0] 5)) := (Below.refl _ _).alloc (Nat.le_refl _) _
                  have HAL := Lib.hid bal
                  have HV2 := Lib.hid (hvx.keep (bal.block _ hvx.lt.1) (bal.block _ hvx.lt.2))
                  have HDB := Lib.hid (heap_alloc_new wv (.cells #[.int .u8 0, .int .u8 0] 5))
                  have HGZ : Hid ((wv.alloc (.cells #[.int .u8 0, .int .u8 0] 5)).heap.size = wv.heap.size + 1) := Lib.hid (by simp)
                  have HBW := Lib.hid (HBP.out.trans ((SV.out.b.trans (bal.mono SV.out.b.size)).mono HBP.out.size))
                  clear hX hvx hvec hbv bal HOF SR
                  go_wp2_with fail
                  generalize (wv.alloc (.cells #[.int .u8 0, .int .u8 0] 5)) = wd at *
                  refine (list_any gv hv n X wd HV2.out (HT.out.grow HBW.out)).mono ?_
                  rintro e wl ⟨Al, cl, rfl, hol, hbl⟩
                  have HLR := Lib.hid (Row.of_own hol.out)
                  have HLO : Hid (∀ b, (Value.slice Al (Ls X).length cl).ownBlock = some b → wd.heap.size ≤ b) := Lib.hid fun b he => (hol.out.lt b he).1
                  have HWL := Lib.hid (HAL.out.trans (hbl.out.mono HAL.out.size))
                  have HD0 : Hid (DRel wl wl wv.heap.size (foldD (pieceS sb) ((Ls X).take 0))) := Lib.hid ⟨⟨rfl, rfl, rfl, Nat.le_refl _, fun _ _ _ => rfl⟩, (hbl.out.block _ (by have := HGZ.out; omega)).trans HDB.out⟩
                  have HLS : Hid (Ls X = L X n) := Lib.hid (L_more (by rw [← HX.out]; exact ofL_lt _) (by omega))
                  have HFO : Hid (foldD (pieceS sb) (Ls X) = sumD (pieceS sb) X n) := Lib.hid (by rw [HLS.out, foldD_L])
                  have HLM : Hid (∀ z, z < (Ls X).length → (Ls X).getD z 0 < n) := Lib.hid fun z hz => by
                    have hm : (Ls X).getD z 0 ∈ Ls X := by rw [List.getD_eq_getElem?_getD, List.getElem?_eq_getElem hz]; exact List.getElem_mem hz
                    rw [HLS.out] at hm
                    rw [HLS.out]
                    exact ((mem_L X n _).1 hm).1
                  have hlx : (Ls X).length ≤ 40 := by
                    rw [HLS.out]
                    exact Nat.le_trans (List.length_filter_le _ _) (by rw [List.length_range]; exact hn40)
                  obtain ⟨Lx, hLx⟩ : ∃ Lx, Ls X = Lx := ⟨_, rfl⟩
                  rw [hLx] at HLR HLO HD0 HFO HLM hlx ⊢
                  clear hLx HLS
                  have hlxi : (Lx.length : Int) ≤ 40 := by omega
                  have HPW : Hid (∀ W gd', DRel wl W wv.heap.size gd' → ∀ p : Addr, p.block < wp.heap.size → W.cell? p = wp.cell? p) := Lib.hid fun W gd' hd p hp => by
                    have h1 := SV.out.b.size
                    have h2 := HGZ.out
                    have h3 := HWL.out.size
                    exact (hd.g.cell_far p (by omega) (fun e => by injection e with e; omega)).trans ((SV.out.b.trans (HWL.out.mono SV.out.b.size)).cell hp)
                  have HLW : Hid (∀ W gd', DRel wl W wv.heap.size gd' → ∀ z, z < Lx.length → ∃ bl ol, Al = some ⟨bl, ol, none⟩ ∧ W.cell? ⟨bl, ol + z, none⟩ = some (.int .i64 ((Lx.getD z 0 : Nat) : Int))) := Lib.hid fun W gd' hd z hz => by
                    obtain ⟨bl, ol, e, hb, hc⟩ := HLR.out.cellAt (k := z) hz (u := .int .i64 ((Lx.getD z 0 : Nat) : Int)) (by simp [nv, hz, List.getD])
                    have hg := HLO.out bl (by rw [e]; rfl)
                    refine ⟨bl, ol, e, (hd.g.cell_far ⟨bl, ol + z, none⟩ hb (fun e => by injection e with e; have := HGZ.out; simp at e; omega)).trans hc⟩
                  clear hol hbl
                  go_wp2_with fail
                  go_loopw [104] (fun i wr => ∃ z : Nat, z ≤ Lx.length ∧ i = .int .i64 z ∧ Hid (DRel wl wr wv.heap.size (foldD (pieceS sb) (Lx.take z)))) (fun i _ => Lx.length - (intOf i).toNat)
                  case atStart => exact ⟨0, by omega, rfl, HD0⟩
                  case round =>
                    obtain ⟨z, hz, rfl, HD⟩ := hrel
                    clear HD0
                    by_cases hzl : z < Lx.length
                    · have hzi : (z : Int) < (Lx.length : Int) := by omega
                      obtain ⟨bl, ol, rfl, hcl⟩ := HLW.out wr _ HD.out z hzl
                      obtain ⟨e, he⟩ : ∃ e, Lx.getD z 0 = e := ⟨_, rfl⟩
                      have hen := HLM.out z hzl
                      rw [he] at hcl hen
                      have hei : (e : Int) < (n : Int) := by omega
                      have hei2 : ¬ (n : Int) ≤ (e : Int) := by omega
                      obtain ⟨r, hre, hrl⟩ : ∃ r, es[e]? = some r ∧ r.l = pieceS sb e := by
                        have h := congrArg (fun l : List (List UInt8) => l[e]?) HES.out
                        simp only [List.getElem?_map, List.getElem?_range hen] at h
                        cases hx : es[e]? with
                        | none => rw [hx] at h; cases h
                        | some r => rw [hx] at h; exact ⟨r, rfl, Option.some.inj h⟩
                      obtain ⟨ccs, k1, k2, k3⟩ := HPC.out.row
                      obtain ⟨a1, a2, dd, a3, _⟩ := HPC.out.at_ r (List.mem_of_getElem? hre)
                      have q0 : wp.cell? ⟨gp, e, none⟩ = some (.slice (some ⟨dd, 0, none⟩) 2 r.c) := by
                        rw [cell_of_row wp gp e ccs _ (0, 0) k1, k3 e r hre]
                        unfold BRow.val
                        rw [a1, a3, hrl]
                        rfl
                      obtain ⟨pa, pb, hpe⟩ : ∃ pa pb, pieceS sb e = [pa, pb] := ⟨_, _, rfl⟩
                      have hrow := a2.row
                      rw [hrl, a3, hpe] at hrow
                      have q1 : wp.cell? ⟨dd, 0, none⟩ = some (.int .u8 (pa.toNat : Int)) := by
                        obtain ⟨b, o, e, _, hc⟩ := hrow.cellAt (k := 0) (u := .int .u8 (pa.toNat : Int)) (by simp) rfl
                        injection e with e
                        injection e with e1 e2
                        subst e1 e2
                        exact hc
                      have q2 : wp.cell? ⟨dd, 1, none⟩ = some (.int .u8 (pb.toNat : Int)) := by
                        obtain ⟨b, o, e, _, hc⟩ := hrow.cellAt (k := 1) (u := .int .u8 (pb.toNat : Int)) (by simp) rfl
                        injection e with e
                        injection e with e1 e2
                        subst e1 e2
                        exact hc
                      have hgpl : gp < wp.heap.size := (Array.getElem?_eq_some_iff.1 k1).1
                      have hddl : dd < wp.heap.size := block_lt_of_cell q1
                      have HOLD : Hid (∀ W gd', DRel wl W wv.heap.size gd' → W.cell? ⟨gp, e, none⟩ = some (.slice (some ⟨dd, 0, none⟩) 2 r.c) ∧ W.cell? ⟨dd, 0, none⟩ = some (.int .u8 (pa.toNat : Int)) ∧ W.cell? ⟨dd, 1, none⟩ = some (.int .u8 (pb.toNat : Int))) := Lib.hid fun W gd' hd => ⟨(HPW.out W gd' hd _ hgpl).trans q0, (HPW.out W gd' hd _ hddl).trans q1, (HPW.out W gd' hd _ hddl).trans q2⟩
                      obtain ⟨dA, hdA⟩ : ∃ dA, foldD (pieceS sb) (Lx.take z) = dA := ⟨_, rfl⟩
                      have HDN : Hid (foldD (pieceS sb) (Lx.take (z + 1)) = [dA.getD 0 0 ^^^ pa, dA.getD 1 0 ^^^ pb]) := Lib.hid (by
                        have h1 : Lx.take (z + 1) = Lx.take z ++ [e] := by rw [List.take_add_one, List.getElem?_eq_getElem hzl, ← he]; simp [List.getD, hzl]
                        have hl2 : dA.length = 2 := by rw [← hdA]; exact foldD_length _ _
                        rw [h1, foldD_snoc, hdA, hpe]
                        apply ext_2 (Z := 2) (by rw [xorL_length, hl2]) rfl
                        intro j hj
                        rw [xorL_at2 _ _ _ (by rw [hl2]; exact hj)]
                        have : j = 0 ∨ j = 1 := by omega
                        rcases this with rfl | rfl <;> rfl)
                      rw [hdA] at HD
                      obtain ⟨d0, hd0⟩ : ∃ d0, dA.getD 0 0 = d0 := ⟨_, rfl⟩
                      obtain ⟨d1, hd1⟩ : ∃ d1, dA.getD 1 0 = d1 := ⟨_, rfl⟩
                      have HDE : Hid (∃ dE, dE = dA) := Lib.hid ⟨_, rfl⟩
                      obtain ⟨o1, o2, o3⟩ := HOLD.out wr _ HD.out
                      have hcd := HD.out.c
                      rw [hd0, hd1] at hcd HDN
                      have hset := fun x => HD.out.set x
                      rw [hd1] at hset
                      have HSET := Lib.hid hset
                      have g0 : wr.cell? ⟨wv.heap.size, 0, none⟩ = some (.int .u8 (d0.toNat : Int)) := by rw [cell_of_row wr _ 0 _ _ (0, 0) hcd]; rfl
                      have fz := frozen_of_row wr wv.heap.size 0 _ _ hcd
                      have HX0 := Lib.hid (xor_int d0 pa)
                      have HX1 := Lib.hid (xor_int d1 pb)
                      clear q0 q1 q2 k1 k2 k3 a1 a2 a3 hrow hre hrl hpe hgpl hddl he hdA hcd hd0 hd1 hset HDE
                      go_upto_region 30 with fail
                      go_region
                      rw [HX0.out]
                      have HD1 := Lib.hid (HSET.out (d0 ^^^ pa))
                      clear o1 o2 o3 g0 fz HSET HD
                      generalize (wr.setCell ⟨wv.heap.size, 0, none⟩ (.int .u8 ((d0 ^^^ pa).toNat : Int))).drew = wr1 at *
                      obtain ⟨o1, o2, o3⟩ := HOLD.out wr1 _ HD1.out
                      have hcd := HD1.out.c
                      have g1 : wr1.cell? ⟨wv.heap.size, 1, none⟩ = some (.int .u8 (d1.toNat : Int)) := by rw [cell_of_row wr1 _ 1 _ _ (0, 0) hcd]; rfl
                      have fz := frozen_of_row wr1 wv.heap.size 1 _ _ hcd
                      clear hcd
                      go_upto_region 31 with fail
                      go_region
                      rw [HX1.out]
                      have HD2 : Hid (DRel wl (wr1.setCell ⟨wv.heap.size, 1, none⟩ (.int .u8 ((d1 ^^^ pb).toNat : Int))).drew wv.heap.size (foldD (pieceS sb) (Lx.take (z + 1)))) := Lib.hid (by rw [HDN.out]; exact HD1.out.set1 (d1 ^^^ pb))
                      clear o1 o2 o3 g1 fz HD1 HOLD HDN
                      generalize (wr1.setCell ⟨wv.heap.size, 1, none⟩ (.int .u8 ((d1 ^^^ pb).toNat : Int))).drew = wr2 at *
                      go_wp2_with fail
                      go_roundw
                      case rel => exact ⟨z + 1, by omega, by go_num, HD2⟩
                      case measure => simp [intOf]; omega
                    · obtain rfl : Lx.length = z := by omega
                      clear hzl
                      rw [List.take_length, HFO.out] at HD
                      have HBV := Lib.hid (HD.out.below HWL.out (Nat.le_refl _))
                      have HBR := Lib.hid (HBZ.out.trans (HBV.out.mono HBZ.out.size))
                      have HVR := Lib.hid (HVX.out.keep (HBV.out.block _ HVX.out.lt.1) (HBV.out.block _ HVX.out.lt.2))
                      have HTR := Lib.hid (HT.out.grow (HBP.out.trans ((SR0.out.b.trans (HBR.out.mono SR0.out.b.size)).mono HBP.out.size)))
                      have HAD := Lib.hid (addI (c0 := 2) (HMF.out.below HBR.out) (matS_got (p := pieceS sb) (x := (fun i => ofL n (R ((i + t) % m)).zs)) (n := n) (by omega) (fun i => ofL_lt _) j).inv HVR.out (HD.out.row (sumD_length _ _ _)) (sumD_length _ _ _) HTR.out)
                      have HMS : Hid ((addMx n (matS n (pieceS sb) (fun i => ofL n (R ((i + t) % m)).zs) j) X (sumD (pieceS sb) X n)).1 = matS n (pieceS sb) (fun i => ofL n (R ((i + t) % m)).zs) (j + 1)) := Lib.hid (by rw [← HX.out]; rw [← HQ.out]; rfl)
                      have HAG : Hid (decide ((redM (matS n (pieceS sb) (fun i => ofL n (R ((i + t) % m)).zs) (j + 1)) X [] n).1 ≠ 0) = false) := Lib.hid (by
                        have h := matS_again (p := pieceS sb) (x := (fun i => ofL n (R ((i + t) % m)).zs)) (n := n) (by omega) (fun i => ofL_lt _) j
                        rw [← HX.out]
                        rw [← HQ.out]; exact h)
                      go_wp2_with fail
                      refine HAD.out.mono ?_
                      rintro e wz ⟨rfl, hmz2, hfz⟩
                      rw [HMS.out] at hmz2
                      have HFZ : Hid (Fr wr0 wz FM) := Lib.hid ((Fr.of_below (F := FM) HBR.out).trans hfz.out (fun _ _ h => h))
                      have hmz3 : IsMat wz (fun b => FM b ∨ (wr0.heap.size ≤ b ∧ b < wz.heap.size)) gb n 2 (matS n (pieceS sb) (fun i => ofL n (R ((i + t) % m)).zs) (j + 1)) := hmz2.out.more fun b hb => hb.elim .inl fun h => .inr ⟨Nat.le_trans HBR.out.size h.1, h.2⟩
                      have HM3 := Lib.hid hmz3
                      have SZ : Hid (Sep3 (matO ga n 2 (matS n (pieceS sb) (fun i => ofL n (R i).zs) m)) (matO gb n 2 (matS n (pieceS sb) (fun i => ofL n (R ((i + t) % m)).zs) (j + 1))) noObj wp wz) := Lib.hid ((HNXT.out wz (matO gb n 2 (matS n (pieceS sb) (fun i => ofL n (R ((i + t) % m)).zs) (j + 1))) HM3.out HFZ.out).swap)
                      have HVZ := Lib.hid (HVR.out.keep (hfz.out.block _ HVR.out.lt.1 (fun h => by have := HFL.out _ h; have := HGV.out; omega)) (hfz.out.block _ HVR.out.lt.2 (fun h => by have := HFL.out _ h; have := HGV.out; omega)))
                      have HTZ := Lib.hid (HT.out.grow (HBP.out.trans (SZ.out.b.mono HBP.out.size)))
                      have HSY := saysI hmz3 HVZ.out HTZ.out
                      rw [HAG.out] at HSY
                      have HSY2 := Lib.hid HSY
                      clear HAD hmz2 hfz hmz3 HSY HM3
                      go_wp2_with fail
                      refine HSY2.out.mono ?_
                      rintro e wy ⟨rfl, hby⟩
                      have SY := Lib.hid (SZ.out.below (keeps_mat _ _ _ _) (keeps_mat _ _ _ _) keeps_no hby.out)
                      clear HSY2 hby
                      go_wp2_with fail
                      go_roundw
                      case rel => exact ⟨j + 1, by omega, by go_num, SY⟩
                      case measure => simp [intOf]; omega
              · obtain rfl : m = j := by omega
                clear hlt
                go_wp2_with fail
                go_roundw
                case rel => exact .inr (.inr ⟨rfl, SR⟩)
                case measure => simp [intOf]
          · skip
            have hturn : matS n (pieceS sb) (fun i => ofL n (R ((i + t) % m)).zs) m = matS n (pieceS sb) (fun i => ofL n (R i).zs) m := matS_turn (p := pieceS sb) (x := (fun i => ofL n (R i).zs)) (by omega) (fun i => ofL_lt _) t m
            rw [hturn] at SS
            have hiv := (matS_got (p := pieceS sb) (x := (fun i => ofL n (R i).zs)) (n := n) (by omega) (fun i => ofL_lt _) m).inv
            have hsol := fun hf => matS_solved (p := pieceS sb) (x := (fun i => ofL n (R i).zs)) (n := n) (m := m) (by omega) (fun i => ofL_lt _) (pieceS_len sb) hf
            obtain ⟨M, hM⟩ : ∃ M, matS n (pieceS sb) (fun i => ofL n (R i).zs) m = M := ⟨_, rfl⟩
            rw [hM] at SS hiv hsol
            obtain ⟨FA, FB, FC, hA, hB, _, _, _, _, _, hbw⟩ := SS.out
            have HMA : Hid (∀ W, Below wr.heap.size wr W → IsMat W FA ga n 2 M) := Lib.hid fun W hW => IsMat.below hA hW
            have HMB : Hid (∀ W, Below wr.heap.size wr W → IsMat W FB gb n 2 M) := Lib.hid fun W hW => IsMat.below hB hW
            have HBX := Lib.hid hbw
            have HSOL := Lib.hid hsol
            obtain ⟨lb, hlb⟩ : ∃ lb, bytesM n 2 M = lb := ⟨_, rfl⟩
            have HLB := Lib.hid hlb
            clear hturn hM hA hB hbw hsol hiv hlb SS
            go_upto_region 38 with fail
            go_cut [160] (fun v wx => v = .bool false ∧ Hid (Below wr.heap.size wr wx))
            case first =>
              refine wp_region_noPanic ?_
              refine wp_region_held_drew (S := (fun W => Below (wr.heap.size) wr W)) (by kernel_rfl) (Below.refl _ _).drew (fun hH0 => ?_)
              have hH0 : Below (wr.heap.size) wr wr.drew := hH0
              generalize wr.drew = wd9000 at *
              refine wpAnyH_take (i := 0) (oi := { dst := some 147, op := Op.move (Operand.tmp 11), type := 25, pos := "law.go:159", after := #[], guard := none }) (v := ?tkv9001) rfl (by kernel_rfl) (by kernel_rfl) (by kernel_rfl) (fun _ _ _ h => h) (Or.inl ⟨by rfl, ?tky9001⟩) hH0 ?tkr9001
              case tky9001 => (intro w' hSw; clear hSw; go_simp; try with_reducible rfl)
              try simp only [Act.put, List.setIfInBounds_toArray, List.set_cons_zero, List.set_cons_succ]
              refine wpAnyH_take (i := 3) (oi := { dst := some 150, op := Op.move (Operand.tmp 12), type := 25, pos := "law.go:159", after := #[], guard := none }) (v := ?tkv9002) rfl (by kernel_rfl) (by kernel_rfl) (by kernel_rfl) (fun _ _ _ h => h) (Or.inl ⟨by rfl, ?tky9002⟩) hH0 ?tkr9002
              case tky9002 => (intro w' hSw; clear hSw; go_simp; try with_reducible rfl)
              try simp only [Act.put, List.setIfInBounds_toArray, List.set_cons_zero, List.set_cons_succ]
              refine wpAnyH_ready (rs := [1]) (by kernel_rfl) (by simp) ?_
              refine AllReadyH.cons (o := { dst := some 148, op := Op.call { callee := Callee.value (Operand.func 29), args := #[Operand.tmp 147], argTypes := #[25] }, type := 30, pos := "law.go:159", after := #[{ on := 0, ground := Ground.data }], guard := none }) rfl (fun K hK => ?_) AllReadyH.nil
              go_simp
              refine (bytesI (HMA.out wd9000 (hH0))).mono ?_
              rw [HLB.out]
              rintro e' wn9003 ⟨A9003, c9003, rfl, ho9003, hb9003'⟩
              have hb9003 := hb9003'.out
              have CV9003 := Lib.hid (convO c9003 ho9003.out)
              clear hb9003' ho9003
              go_simp
              have hS9003 : Below (wr.heap.size) wr wn9003 := (hH0).trans (hb9003.mono (hH0).size)
              refine hK.out _ _ hS9003 (fun hH9003 => ?_)
              have hH9003 : Below (wr.heap.size) wr wn9003 := hH9003
              clear hK K hS9003
              try simp only [Act.put, List.setIfInBounds_toArray, List.set_cons_zero, List.set_cons_succ]
              refine wpAnyH_ready (rs := [2, 4]) (by kernel_rfl) (by simp) ?_
              refine AllReadyH.cons (o := { dst := some 149, op := Op.convert 30 9 (Operand.tmp 148), type := 9, pos := "law.go:159", after := #[{ on := 1, ground := Ground.data }], guard := none }) rfl (fun K hK => ?_) (AllReadyH.cons (o := { dst := some 151, op := Op.call { callee := Callee.value (Operand.func 29), args := #[Operand.tmp 150], argTypes := #[25] }, type := 30, pos := "law.go:159", after := #[{ on := 3, ground := Ground.data }, { on := 1, ground := Ground.chain }], guard := none }) rfl (fun K hK => ?_) AllReadyH.nil)
              · have hcv9004 := CV9003.out wn9003 (Below.refl wn9003.heap.size wn9003)
                go_simp
                clear hcv9004
                have hS9004 : Below (wr.heap.size) wr wn9003 := hH9003
                refine hK.out _ _ hS9004 (fun hH9004 => ?_)
                have hH9004 : Below (wr.heap.size) wr wn9003 := hH9004
                clear hK K hS9004
                try simp only [Act.put, List.setIfInBounds_toArray, List.set_cons_zero, List.set_cons_succ]
                refine wpAnyH_ready (rs := [4]) (by kernel_rfl) (by simp) ?_
                refine AllReadyH.cons (o := { dst := some 151, op := Op.call { callee := Callee.value (Operand.func 29), args := #[Operand.tmp 150], argTypes := #[25] }, type := 30, pos := "law.go:159", after := #[{ on := 3, ground := Ground.data }, { on := 1, ground := Ground.chain }], guard := none }) rfl (fun K hK => ?_) AllReadyH.nil
                go_simp
                refine (bytesI (HMB.out wn9003 (hH9004))).mono ?_
                rw [HLB.out]
                rintro e' wn9005 ⟨A9005, c9005, rfl, ho9005, hb9005'⟩
                have hb9005 := hb9005'.out
                have CV9005 := Lib.hid (convO c9005 ho9005.out)
                clear hb9005' ho9005
                go_simp
                have hS9005 : Below (wr.heap.size) wr wn9005 := (hH9004).trans (hb9005.mono (hH9004).size)
                refine hK.out _ _ hS9005 (fun hH9005 => ?_)
                have hH9005 : Below (wr.heap.size) wr wn9005 := hH9005
                clear hK K hS9005
                try simp only [Act.put, List.setIfInBounds_toArray, List.set_cons_zero, List.set_cons_succ]
                refine wpAnyH_ready (rs := [5]) (by kernel_rfl) (by simp) ?_
                refine AllReadyH.cons (o := { dst := some 152, op := Op.convert 30 9 (Operand.tmp 151), type := 9, pos := "law.go:159", after := #[{ on := 4, ground := Ground.data }], guard := none }) rfl (fun K hK => ?_) AllReadyH.nil
                have hcv9006 := CV9005.out wn9005 (Below.refl wn9005.heap.size wn9005)
                go_simp
                clear hcv9006
                have hS9006 : Below (wr.heap.size) wr wn9005 := hH9005
                refine hK.out _ _ hS9006 (fun hH9006 => ?_)
                have hH9006 : Below (wr.heap.size) wr wn9005 := hH9006
                clear hK K hS9006
                try simp only [Act.put, List.setIfInBounds_toArray, List.set_cons_zero, List.set_cons_succ]
                refine wpAnyH_take (i := 6) (oi := { dst := some 153, op := Op.binOp BinOp.neq 9 (Operand.tmp 149) (Operand.tmp 152) 9, type := 4, pos := "law.go:159", after := #[{ on := 2, ground := Ground.data }, { on := 5, ground := Ground.data }], guard := none }) (v := ?tkv9007) rfl (by kernel_rfl) (by kernel_rfl) (by kernel_rfl) (fun _ _ _ h => h) (Or.inl ⟨by rfl, ?tky9007⟩) hH9006 ?tkr9007
                case tky9007 => (intro w' hSw; clear hSw; go_simp; try with_reducible rfl)
                try simp only [Act.put, List.setIfInBounds_toArray, List.set_cons_zero, List.set_cons_succ]
                refine wpAnyH_take (i := 7) (oi := { dst := some 154, op := Op.move (Operand.tmp 153), type := 4, pos := "law.go:159", after := #[{ on := 6, ground := Ground.data }, { on := 4, ground := Ground.chain }], guard := none }) (v := ?tkv9008) rfl (by kernel_rfl) (by kernel_rfl) (by kernel_rfl) (fun _ _ _ h => h) (Or.inl ⟨by rfl, ?tky9008⟩) hH9006 ?tkr9008
                case tky9008 => (intro w' hSw; clear hSw; go_simp; try with_reducible rfl)
                try simp only [Act.put, List.setIfInBounds_toArray, List.set_cons_zero, List.set_cons_succ]
                refine wpAnyH_take (i := 8) (oi := { dst := some 155, op := Op.move (Operand.tmp 11), type := 25, pos := "law.go:159", after := #[{ on := 7, ground := Ground.guard }], guard := some (7, false) }) (v := ?tkv9009) rfl (by kernel_rfl) (by kernel_rfl) (by kernel_rfl) (fun _ _ _ h => h) (Or.inl ⟨by rfl, ?tky9009⟩) hH9006 ?tkr9009
                case tky9009 => (intro w' hSw; clear hSw; go_simp; try with_reducible rfl)
                try simp only [Act.put, List.setIfInBounds_toArray, List.set_cons_zero, List.set_cons_succ]
                refine wpAnyH_take (i := 10) (oi := { dst := some 157, op := Op.move (Operand.tmp 12), type := 25, pos := "law.go:159", after := #[{ on := 7, ground := Ground.guard }], guard := some (7, false) }) (v := ?tkv9010) rfl (by kernel_rfl) (by kernel_rfl) (by kernel_rfl) (fun _ _ _ h => h) (Or.inl ⟨by rfl, ?tky9010⟩) hH9006 ?tkr9010
                case tky9010 => (intro w' hSw; clear hSw; go_simp; try with_reducible rfl)
                try simp only [Act.put, List.setIfInBounds_toArray, List.set_cons_zero, List.set_cons_succ]
                refine wpAnyH_ready (rs := [9]) (by kernel_rfl) (by simp) ?_
                refine AllReadyH.cons (o := { dst := some 156, op := Op.call { callee := Callee.value (Operand.func 27), args := #[Operand.tmp 155], argTypes := #[25] }, type := 3, pos := "law.go:159", after := #[{ on := 8, ground := Ground.data }, { on := 7, ground := Ground.chain }, { on := 7, ground := Ground.guard }], guard := some (7, false) }) rfl (fun K hK => ?_) AllReadyH.nil
                go_simp
                refine (rankI (HMA.out wn9005 (hH9006))).mono ?_
                rintro e' wx9011 ⟨rfl, rfl⟩
                go_simp
                have hS9011 : Below (wr.heap.size) wr wn9005 := hH9006
                refine hK.out _ _ hS9011 (fun hH9011 => ?_)
                have hH9011 : Below (wr.heap.size) wr wn9005 := hH9011
                clear hK K hS9011
                try simp only [Act.put, List.setIfInBounds_toArray, List.set_cons_zero, List.set_cons_succ]
                refine wpAnyH_ready (rs := [11]) (by kernel_rfl) (by simp) ?_
                refine AllReadyH.cons (o := { dst := some 158, op := Op.call { callee := Callee.value (Operand.func 27), args := #[Operand.tmp 157], argTypes := #[25] }, type := 3, pos := "law.go:159", after := #[{ on := 10, ground := Ground.data }, { on := 9, ground := Ground.chain }, { on := 7, ground := Ground.guard }], guard := some (7, false) }) rfl (fun K hK => ?_) AllReadyH.nil
                go_simp
                refine (rankI (HMB.out wn9005 (hH9011))).mono ?_
                rintro e' wx9012 ⟨rfl, rfl⟩
                go_simp
                have hS9012 : Below (wr.heap.size) wr wn9005 := hH9011
                refine hK.out _ _ hS9012 (fun hH9012 => ?_)
                have hH9012 : Below (wr.heap.size) wr wn9005 := hH9012
                clear hK K hS9012
                try simp only [Act.put, List.setIfInBounds_toArray, List.set_cons_zero, List.set_cons_succ]
                refine wpAnyH_take (i := 12) (oi := { dst := some 159, op := Op.binOp BinOp.neq 3 (Operand.tmp 156) (Operand.tmp 158) 3, type := 4, pos := "law.go:159", after := #[{ on := 9, ground := Ground.data }, { on := 11, ground := Ground.data }, { on := 7, ground := Ground.guard }], guard := some (7, false) }) (v := ?tkv9013) rfl (by kernel_rfl) (by kernel_rfl) (by kernel_rfl) (fun _ _ _ h => h) (Or.inl ⟨by rfl, ?tky9013⟩) hH9012 ?tkr9013
                case tky9013 => (intro w' hSw; clear hSw; go_simp; try with_reducible rfl)
                try simp only [Act.put, List.setIfInBounds_toArray, List.set_cons_zero, List.set_cons_succ]
                refine wpAnyH_take (i := 13) (oi := { dst := some 160, op := Op.pick (Operand.tmp 154) (Operand.const (Value.bool true)) (Operand.tmp 159), type := 4, pos := "law.go:159", after := #[{ on := 7, ground := Ground.data }, { on := 12, ground := Ground.data }], guard := none }) (v := ?tkv9014) rfl (by kernel_rfl) (by kernel_rfl) (by kernel_rfl) (fun _ _ _ h => h) (Or.inl ⟨by rfl, ?tky9014⟩) hH9012 ?tkr9014
                case tky9014 => (intro w' hSw; clear hSw; go_simp; try with_reducible rfl)
                try simp only [Act.put, List.setIfInBounds_toArray, List.set_cons_zero, List.set_cons_succ]
                refine wpAnyH_done (by kernel_rfl) ?_ _
                refine NoPanic.normal ?_
                obtain ⟨w38, rfl⟩ : ∃ x : World, x = wn9005 := ⟨_, rfl⟩
                have HB38 : Hid (Below wr.heap.size wr w38) := Lib.hid (hH9012)
                go_wp2_with fail
                go_meet
                exact ⟨rfl, HB38⟩
              · go_simp
                refine (bytesI (HMB.out wn9003 (hH9003))).mono ?_
                rw [HLB.out]
                rintro e' wn9015 ⟨A9015, c9015, rfl, ho9015, hb9015'⟩
                have hb9015 := hb9015'.out
                have CV9015 := Lib.hid (convO c9015 ho9015.out)
                clear hb9015' ho9015
                go_simp
                have hS9015 : Below (wr.heap.size) wr wn9015 := (hH9003).trans (hb9015.mono (hH9003).size)
                refine hK.out _ _ hS9015 (fun hH9015 => ?_)
                have hH9015 : Below (wr.heap.size) wr wn9015 := hH9015
                clear hK K hS9015
                try simp only [Act.put, List.setIfInBounds_toArray, List.set_cons_zero, List.set_cons_succ]
                refine wpAnyH_ready (rs := [2, 5]) (by kernel_rfl) (by simp) ?_
                refine AllReadyH.cons (o := { dst := some 149, op := Op.convert 30 9 (Operand.tmp 148), type := 9, pos := "law.go:159", after := #[{ on := 1, ground := Ground.data }], guard := none }) rfl (fun K hK => ?_) (AllReadyH.cons (o := { dst := some 152, op := Op.convert 30 9 (Operand.tmp 151), type := 9, pos := "law.go:159", after := #[{ on := 4, ground := Ground.data }], guard := none }) rfl (fun K hK => ?_) AllReadyH.nil)
                · have hcv9016 := CV9003.out wn9015 (((Below.refl wn9003.heap.size wn9003)).trans (hb9015.mono ((Below.refl wn9003.heap.size wn9003)).size))
                  go_simp
                  clear hcv9016
                  have hS9016 : Below (wr.heap.size) wr wn9015 := hH9015
                  refine hK.out _ _ hS9016 (fun hH9016 => ?_)
                  have hH9016 : Below (wr.heap.size) wr wn9015 := hH9016
                  clear hK K hS9016
                  try simp only [Act.put, List.setIfInBounds_toArray, List.set_cons_zero, List.set_cons_succ]
                  refine wpAnyH_ready (rs := [5]) (by kernel_rfl) (by simp) ?_
                  refine AllReadyH.cons (o := { dst := some 152, op := Op.convert 30 9 (Operand.tmp 151), type := 9, pos := "law.go:159", after := #[{ on := 4, ground := Ground.data }], guard := none }) rfl (fun K hK => ?_) AllReadyH.nil
                  have hcv9017 := CV9015.out wn9015 (Below.refl wn9015.heap.size wn9015)
                  go_simp
                  clear hcv9017
                  have hS9017 : Below (wr.heap.size) wr wn9015 := hH9016
                  refine hK.out _ _ hS9017 (fun hH9017 => ?_)
                  have hH9017 : Below (wr.heap.size) wr wn9015 := hH9017
                  clear hK K hS9017
                  try simp only [Act.put, List.setIfInBounds_toArray, List.set_cons_zero, List.set_cons_succ]
                  refine wpAnyH_take (i := 6) (oi := { dst := some 153, op := Op.binOp BinOp.neq 9 (Operand.tmp 149) (Operand.tmp 152) 9, type := 4, pos := "law.go:159", after := #[{ on := 2, ground := Ground.data }, { on := 5, ground := Ground.data }], guard := none }) (v := ?tkv9018) rfl (by kernel_rfl) (by kernel_rfl) (by kernel_rfl) (fun _ _ _ h => h) (Or.inl ⟨by rfl, ?tky9018⟩) hH9017 ?tkr9018
                  case tky9018 => (intro w' hSw; clear hSw; go_simp; try with_reducible rfl)
                  try simp only [Act.put, List.setIfInBounds_toArray, List.set_cons_zero, List.set_cons_succ]
                  refine wpAnyH_take (i := 7) (oi := { dst := some 154, op := Op.move (Operand.tmp 153), type := 4, pos := "law.go:159", after := #[{ on := 6, ground := Ground.data }, { on := 4, ground := Ground.chain }], guard := none }) (v := ?tkv9019) rfl (by kernel_rfl) (by kernel_rfl) (by kernel_rfl) (fun _ _ _ h => h) (Or.inl ⟨by rfl, ?tky9019⟩) hH9017 ?tkr9019
                  case tky9019 => (intro w' hSw; clear hSw; go_simp; try with_reducible rfl)
                  try simp only [Act.put, List.setIfInBounds_toArray, List.set_cons_zero, List.set_cons_succ]
                  refine wpAnyH_take (i := 8) (oi := { dst := some 155, op := Op.move (Operand.tmp 11), type := 25, pos := "law.go:159", after := #[{ on := 7, ground := Ground.guard }], guard := some (7, false) }) (v := ?tkv9020) rfl (by kernel_rfl) (by kernel_rfl) (by kernel_rfl) (fun _ _ _ h => h) (Or.inl ⟨by rfl, ?tky9020⟩) hH9017 ?tkr9020
                  case tky9020 => (intro w' hSw; clear hSw; go_simp; try with_reducible rfl)
                  try simp only [Act.put, List.setIfInBounds_toArray, List.set_cons_zero, List.set_cons_succ]
                  refine wpAnyH_take (i := 10) (oi := { dst := some 157, op := Op.move (Operand.tmp 12), type := 25, pos := "law.go:159", after := #[{ on := 7, ground := Ground.guard }], guard := some (7, false) }) (v := ?tkv9021) rfl (by kernel_rfl) (by kernel_rfl) (by kernel_rfl) (fun _ _ _ h => h) (Or.inl ⟨by rfl, ?tky9021⟩) hH9017 ?tkr9021
                  case tky9021 => (intro w' hSw; clear hSw; go_simp; try with_reducible rfl)
                  try simp only [Act.put, List.setIfInBounds_toArray, List.set_cons_zero, List.set_cons_succ]
                  refine wpAnyH_ready (rs := [9]) (by kernel_rfl) (by simp) ?_
                  refine AllReadyH.cons (o := { dst := some 156, op := Op.call { callee := Callee.value (Operand.func 27), args := #[Operand.tmp 155], argTypes := #[25] }, type := 3, pos := "law.go:159", after := #[{ on := 8, ground := Ground.data }, { on := 7, ground := Ground.chain }, { on := 7, ground := Ground.guard }], guard := some (7, false) }) rfl (fun K hK => ?_) AllReadyH.nil
                  go_simp
                  refine (rankI (HMA.out wn9015 (hH9017))).mono ?_
                  rintro e' wx9022 ⟨rfl, rfl⟩
                  go_simp
                  have hS9022 : Below (wr.heap.size) wr wn9015 := hH9017
                  refine hK.out _ _ hS9022 (fun hH9022 => ?_)
                  have hH9022 : Below (wr.heap.size) wr wn9015 := hH9022
                  clear hK K hS9022
                  try simp only [Act.put, List.setIfInBounds_toArray, List.set_cons_zero, List.set_cons_succ]
                  refine wpAnyH_ready (rs := [11]) (by kernel_rfl) (by simp) ?_
                  refine AllReadyH.cons (o := { dst := some 158, op := Op.call { callee := Callee.value (Operand.func 27), args := #[Operand.tmp 157], argTypes := #[25] }, type := 3, pos := "law.go:159", after := #[{ on := 10, ground := Ground.data }, { on := 9, ground := Ground.chain }, { on := 7, ground := Ground.guard }], guard := some (7, false) }) rfl (fun K hK => ?_) AllReadyH.nil
                  go_simp
                  refine (rankI (HMB.out wn9015 (hH9022))).mono ?_
                  rintro e' wx9023 ⟨rfl, rfl⟩
                  go_simp
                  have hS9023 : Below (wr.heap.size) wr wn9015 := hH9022
                  refine hK.out _ _ hS9023 (fun hH9023 => ?_)
                  have hH9023 : Below (wr.heap.size) wr wn9015 := hH9023
                  clear hK K hS9023
                  try simp only [Act.put, List.setIfInBounds_toArray, List.set_cons_zero, List.set_cons_succ]
                  refine wpAnyH_take (i := 12) (oi := { dst := some 159, op := Op.binOp BinOp.neq 3 (Operand.tmp 156) (Operand.tmp 158) 3, type := 4, pos := "law.go:159", after := #[{ on := 9, ground := Ground.data }, { on := 11, ground := Ground.data }, { on := 7, ground := Ground.guard }], guard := some (7, false) }) (v := ?tkv9024) rfl (by kernel_rfl) (by kernel_rfl) (by kernel_rfl) (fun _ _ _ h => h) (Or.inl ⟨by rfl, ?tky9024⟩) hH9023 ?tkr9024
                  case tky9024 => (intro w' hSw; clear hSw; go_simp; try with_reducible rfl)
                  try simp only [Act.put, List.setIfInBounds_toArray, List.set_cons_zero, List.set_cons_succ]
                  refine wpAnyH_take (i := 13) (oi := { dst := some 160, op := Op.pick (Operand.tmp 154) (Operand.const (Value.bool true)) (Operand.tmp 159), type := 4, pos := "law.go:159", after := #[{ on := 7, ground := Ground.data }, { on := 12, ground := Ground.data }], guard := none }) (v := ?tkv9025) rfl (by kernel_rfl) (by kernel_rfl) (by kernel_rfl) (fun _ _ _ h => h) (Or.inl ⟨by rfl, ?tky9025⟩) hH9023 ?tkr9025
                  case tky9025 => (intro w' hSw; clear hSw; go_simp; try with_reducible rfl)
                  try simp only [Act.put, List.setIfInBounds_toArray, List.set_cons_zero, List.set_cons_succ]
                  refine wpAnyH_done (by kernel_rfl) ?_ _
                  refine NoPanic.normal ?_
                  obtain ⟨w38, rfl⟩ : ∃ x : World, x = wn9015 := ⟨_, rfl⟩
                  have HB38 : Hid (Below wr.heap.size wr w38) := Lib.hid (hH9023)
                  go_wp2_with fail
                  go_meet
                  exact ⟨rfl, HB38⟩
                · have hcv9026 := CV9015.out wn9015 (Below.refl wn9015.heap.size wn9015)
                  go_simp
                  clear hcv9026
                  have hS9026 : Below (wr.heap.size) wr wn9015 := hH9015
                  refine hK.out _ _ hS9026 (fun hH9026 => ?_)
                  have hH9026 : Below (wr.heap.size) wr wn9015 := hH9026
                  clear hK K hS9026
                  try simp only [Act.put, List.setIfInBounds_toArray, List.set_cons_zero, List.set_cons_succ]
                  refine wpAnyH_ready (rs := [2]) (by kernel_rfl) (by simp) ?_
                  refine AllReadyH.cons (o := { dst := some 149, op := Op.convert 30 9 (Operand.tmp 148), type := 9, pos := "law.go:159", after := #[{ on := 1, ground := Ground.data }], guard := none }) rfl (fun K hK => ?_) AllReadyH.nil
                  have hcv9027 := CV9003.out wn9015 (((Below.refl wn9003.heap.size wn9003)).trans (hb9015.mono ((Below.refl wn9003.heap.size wn9003)).size))
                  go_simp
                  clear hcv9027
                  have hS9027 : Below (wr.heap.size) wr wn9015 := hH9026
                  refine hK.out _ _ hS9027 (fun hH9027 => ?_)
                  have hH9027 : Below (wr.heap.size) wr wn9015 := hH9027
                  clear hK K hS9027
                  try simp only [Act.put, List.setIfInBounds_toArray, List.set_cons_zero, List.set_cons_succ]
                  refine wpAnyH_take (i := 6) (oi := { dst := some 153, op := Op.binOp BinOp.neq 9 (Operand.tmp 149) (Operand.tmp 152) 9, type := 4, pos := "law.go:159", after := #[{ on := 2, ground := Ground.data }, { on := 5, ground := Ground.data }], guard := none }) (v := ?tkv9028) rfl (by kernel_rfl) (by kernel_rfl) (by kernel_rfl) (fun _ _ _ h => h) (Or.inl ⟨by rfl, ?tky9028⟩) hH9027 ?tkr9028
                  case tky9028 => (intro w' hSw; clear hSw; go_simp; try with_reducible rfl)
                  try simp only [Act.put, List.setIfInBounds_toArray, List.set_cons_zero, List.set_cons_succ]
                  refine wpAnyH_take (i := 7) (oi := { dst := some 154, op := Op.move (Operand.tmp 153), type := 4, pos := "law.go:159", after := #[{ on := 6, ground := Ground.data }, { on := 4, ground := Ground.chain }], guard := none }) (v := ?tkv9029) rfl (by kernel_rfl) (by kernel_rfl) (by kernel_rfl) (fun _ _ _ h => h) (Or.inl ⟨by rfl, ?tky9029⟩) hH9027 ?tkr9029
                  case tky9029 => (intro w' hSw; clear hSw; go_simp; try with_reducible rfl)
                  try simp only [Act.put, List.setIfInBounds_toArray, List.set_cons_zero, List.set_cons_succ]
                  refine wpAnyH_take (i := 8) (oi := { dst := some 155, op := Op.move (Operand.tmp 11), type := 25, pos := "law.go:159", after := #[{ on := 7, ground := Ground.guard }], guard := some (7, false) }) (v := ?tkv9030) rfl (by kernel_rfl) (by kernel_rfl) (by kernel_rfl) (fun _ _ _ h => h) (Or.inl ⟨by rfl, ?tky9030⟩) hH9027 ?tkr9030
                  case tky9030 => (intro w' hSw; clear hSw; go_simp; try with_reducible rfl)
                  try simp only [Act.put, List.setIfInBounds_toArray, List.set_cons_zero, List.set_cons_succ]
                  refine wpAnyH_take (i := 10) (oi := { dst := some 157, op := Op.move (Operand.tmp 12), type := 25, pos := "law.go:159", after := #[{ on := 7, ground := Ground.guard }], guard := some (7, false) }) (v := ?tkv9031) rfl (by kernel_rfl) (by kernel_rfl) (by kernel_rfl) (fun _ _ _ h => h) (Or.inl ⟨by rfl, ?tky9031⟩) hH9027 ?tkr9031
                  case tky9031 => (intro w' hSw; clear hSw; go_simp; try with_reducible rfl)
                  try simp only [Act.put, List.setIfInBounds_toArray, List.set_cons_zero, List.set_cons_succ]
                  refine wpAnyH_ready (rs := [9]) (by kernel_rfl) (by simp) ?_
                  refine AllReadyH.cons (o := { dst := some 156, op := Op.call { callee := Callee.value (Operand.func 27), args := #[Operand.tmp 155], argTypes := #[25] }, type := 3, pos := "law.go:159", after := #[{ on := 8, ground := Ground.data }, { on := 7, ground := Ground.chain }, { on := 7, ground := Ground.guard }], guard := some (7, false) }) rfl (fun K hK => ?_) AllReadyH.nil
                  go_simp
                  refine (rankI (HMA.out wn9015 (hH9027))).mono ?_
                  rintro e' wx9032 ⟨rfl, rfl⟩
                  go_simp
                  have hS9032 : Below (wr.heap.size) wr wn9015 := hH9027
                  refine hK.out _ _ hS9032 (fun hH9032 => ?_)
                  have hH9032 : Below (wr.heap.size) wr wn9015 := hH9032
                  clear hK K hS9032
                  try simp only [Act.put, List.setIfInBounds_toArray, List.set_cons_zero, List.set_cons_succ]
                  refine wpAnyH_ready (rs := [11]) (by kernel_rfl) (by simp) ?_
                  refine AllReadyH.cons (o := { dst := some 158, op := Op.call { callee := Callee.value (Operand.func 27), args := #[Operand.tmp 157], argTypes := #[25] }, type := 3, pos := "law.go:159", after := #[{ on := 10, ground := Ground.data }, { on := 9, ground := Ground.chain }, { on := 7, ground := Ground.guard }], guard := some (7, false) }) rfl (fun K hK => ?_) AllReadyH.nil
                  go_simp
                  refine (rankI (HMB.out wn9015 (hH9032))).mono ?_
                  rintro e' wx9033 ⟨rfl, rfl⟩
                  go_simp
                  have hS9033 : Below (wr.heap.size) wr wn9015 := hH9032
                  refine hK.out _ _ hS9033 (fun hH9033 => ?_)
                  have hH9033 : Below (wr.heap.size) wr wn9015 := hH9033
                  clear hK K hS9033
                  try simp only [Act.put, List.setIfInBounds_toArray, List.set_cons_zero, List.set_cons_succ]
                  refine wpAnyH_take (i := 12) (oi := { dst := some 159, op := Op.binOp BinOp.neq 3 (Operand.tmp 156) (Operand.tmp 158) 3, type := 4, pos := "law.go:159", after := #[{ on := 9, ground := Ground.data }, { on := 11, ground := Ground.data }, { on := 7, ground := Ground.guard }], guard := some (7, false) }) (v := ?tkv9034) rfl (by kernel_rfl) (by kernel_rfl) (by kernel_rfl) (fun _ _ _ h => h) (Or.inl ⟨by rfl, ?tky9034⟩) hH9033 ?tkr9034
                  case tky9034 => (intro w' hSw; clear hSw; go_simp; try with_reducible rfl)
                  try simp only [Act.put, List.setIfInBounds_toArray, List.set_cons_zero, List.set_cons_succ]
                  refine wpAnyH_take (i := 13) (oi := { dst := some 160, op := Op.pick (Operand.tmp 154) (Operand.const (Value.bool true)) (Operand.tmp 159), type := 4, pos := "law.go:159", after := #[{ on := 7, ground := Ground.data }, { on := 12, ground := Ground.data }], guard := none }) (v := ?tkv9035) rfl (by kernel_rfl) (by kernel_rfl) (by kernel_rfl) (fun _ _ _ h => h) (Or.inl ⟨by rfl, ?tky9035⟩) hH9033 ?tkr9035
                  case tky9035 => (intro w' hSw; clear hSw; go_simp; try with_reducible rfl)
                  try simp only [Act.put, List.setIfInBounds_toArray, List.set_cons_zero, List.set_cons_succ]
                  refine wpAnyH_done (by kernel_rfl) ?_ _
                  refine NoPanic.normal ?_
                  obtain ⟨w38, rfl⟩ : ∃ x : World, x = wn9015 := ⟨_, rfl⟩
                  have HB38 : Hid (Below wr.heap.size wr w38) := Lib.hid (hH9033)
                  go_wp2_with fail
                  go_meet
                  exact ⟨rfl, HB38⟩
            case rest =>
              obtain ⟨rfl, HB38⟩ := hcut
              obtain ⟨w38, rfl⟩ : ∃ x : World, x = wc := ⟨_, rfl⟩
              have HBY := Lib.hid (HBX.out.trans (HB38.out.mono HBX.out.size))
              by_cases hf : rankM M = n
              · have HSO := Lib.hid (solveI (HMA.out w38 HB38.out) hf)
                have HSL := Lib.hid (HSOL.out hf)
                clear hf
                go_wp2_with fail
                refine HSO.out.mono ?_
                rintro e w40 ⟨gl, es2, rfl, hes2, hs2⟩
                have HS2 := Lib.hid hs2.out
                have HE2 : Hid (es2.map (·.l) = (List.range n).map (pieceS sb)) := Lib.hid (by rw [hes2, HSL.out])
                have HBZ := Lib.hid (HBY.out.trans (hs2.out.b.mono HBY.out.size))
                clear hes2 hs2 HSO HSL
                go_wp2_with fail
                go_loopw [164] (fun i wr => ∃ t : Nat, t ≤ n ∧ i = .int .i64 t ∧ Hid (Below w40.heap.size w40 wr)) (fun i _ => n - (intOf i).toNat)
                case atStart => exact ⟨0, by omega, rfl, Lib.hid (Below.refl _ _)⟩
                case round =>
                  obtain ⟨t, ht, rfl, HBK⟩ := hrel
                  by_cases hlt : t < n
                  · have hti : (t : Int) < (n : Int) := by omega
                    obtain ⟨_, da, ca, qa, ra⟩ := row_at (HS2.out.below HBK.out) HE2.out (pieceS_len sb t) hlt
                    obtain ⟨_, db, cb, qb, rb⟩ := row_at (HPC.out.below (HBZ.out.trans (HBK.out.mono HBZ.out.size))) HES.out (pieceS_len sb t) hlt
                    have hti2 : ¬ (n : Int) ≤ (t : Int) := by omega
                    have HF43 : Hid (∀ W, Below wr.heap.size wr W → (convert 30 9 (.slice (some ⟨da, 0, none⟩) 2 ca)).run Tryd.prog W = .ok (.string ⟨(pieceS sb t).toArray⟩) W ∧ (convert 30 9 (.slice (some ⟨db, 0, none⟩) 2 cb)).run Tryd.prog W = .ok (.string ⟨(pieceS sb t).toArray⟩) W ∧ W.cell? ⟨gp, t, none⟩ = some (.slice (some ⟨db, 0, none⟩) 2 cb)) := Lib.hid fun W hW => ⟨convR ca ra (Nat.le_refl _) W hW, convR cb rb (Nat.le_refl _) W hW, (hW.cell (p := ⟨gp, t, none⟩) (block_lt_of_cell qb)).trans qb⟩
                    obtain ⟨lp, hlp⟩ : ∃ lp : ByteArray, (⟨(pieceS sb t).toArray⟩ : ByteArray) = lp := ⟨_, rfl⟩
                    rw [hlp] at HF43
                    clear ra rb hlp qb
                    go_upto_region 43 with fail
                    refine wp_region_noPanic ?_
                    refine wp_region_held_drew (S := (fun W => Below (wr.heap.size) wr W)) (by kernel_rfl) (Below.refl _ _).drew (fun hH0 => ?_)
                    have hH0 : Below (wr.heap.size) wr wr.drew := hH0
                    generalize wr.drew = wd9500 at *
                    refine wpAnyH_take (i := 0) (oi := { dst := some 169, op := Op.move (Operand.tmp 22), type := 3, pos := "law.go:163", after := #[], guard := none }) (v := ?tkv9501) rfl (by kernel_rfl) (by kernel_rfl) (by kernel_rfl) (fun _ _ _ h => h) (Or.inl ⟨by rfl, ?tky9501⟩) hH0 ?tkr9501
                    case tky9501 => (intro w' hSw; clear hSw; go_simp; try with_reducible rfl)
                    try simp only [Act.put, List.setIfInBounds_toArray, List.set_cons_zero, List.set_cons_succ]
                    refine wpAnyH_take (i := 1) (oi := { dst := some 170, op := Op.move (Operand.tmp 0), type := 3, pos := "law.go:163", after := #[], guard := none }) (v := ?tkv9502) rfl (by kernel_rfl) (by kernel_rfl) (by kernel_rfl) (fun _ _ _ h => h) (Or.inl ⟨by rfl, ?tky9502⟩) hH0 ?tkr9502
                    case tky9502 => (intro w' hSw; clear hSw; go_simp; try with_reducible rfl)
                    try simp only [Act.put, List.setIfInBounds_toArray, List.set_cons_zero, List.set_cons_succ]
                    refine wpAnyH_take (i := 2) (oi := { dst := some 171, op := Op.binOp BinOp.geq 3 (Operand.tmp 169) (Operand.tmp 170) 3, type := 4, pos := "law.go:163", after := #[{ on := 0, ground := Ground.data }, { on := 1, ground := Ground.data }], guard := none }) (v := ?tkv9503) rfl (by kernel_rfl) (by kernel_rfl) (by kernel_rfl) (fun _ _ _ h => h) (Or.inl ⟨by rfl, ?tky9503⟩) hH0 ?tkr9503
                    case tky9503 => (intro w' hSw; clear hSw; go_simp; try with_reducible rfl)
                    try simp only [Act.put, List.setIfInBounds_toArray, List.set_cons_zero, List.set_cons_succ]
                    refine wpAnyH_take (i := 3) (oi := { dst := some 172, op := Op.move (Operand.tmp 171), type := 4, pos := "law.go:163", after := #[{ on := 2, ground := Ground.data }], guard := none }) (v := ?tkv9504) rfl (by kernel_rfl) (by kernel_rfl) (by kernel_rfl) (fun _ _ _ h => h) (Or.inl ⟨by rfl, ?tky9504⟩) hH0 ?tkr9504
                    case tky9504 => (intro w' hSw; clear hSw; go_simp; try with_reducible rfl)
                    try simp only [Act.put, List.setIfInBounds_toArray, List.set_cons_zero, List.set_cons_succ]
                    refine wpAnyH_take (i := 4) (oi := { dst := some 173, op := Op.move (Operand.tmp 23), type := 30, pos := "law.go:163", after := #[{ on := 3, ground := Ground.guard }], guard := some (3, false) }) (v := ?tkv9505) rfl (by kernel_rfl) (by kernel_rfl) (by kernel_rfl) (fun _ _ _ h => h) (Or.inl ⟨by rfl, ?tky9505⟩) hH0 ?tkr9505
                    case tky9505 => (intro w' hSw; clear hSw; go_simp; try with_reducible rfl)
                    try simp only [Act.put, List.setIfInBounds_toArray, List.set_cons_zero, List.set_cons_succ]
                    refine wpAnyH_take (i := 5) (oi := { dst := some 174, op := Op.convert 30 9 (Operand.tmp 173), type := 9, pos := "law.go:163", after := #[{ on := 4, ground := Ground.data }, { on := 3, ground := Ground.guard }], guard := some (3, false) }) (v := ?tkv9506) rfl (by kernel_rfl) (by kernel_rfl) (by kernel_rfl) (fun _ _ _ h => h) (Or.inl ⟨by rfl, ?tky9506⟩) hH0 ?tkr9506
                    case tky9506 => (intro w' hSw; have z0 := HF43.out _ hSw; clear hSw; go_simp; try with_reducible rfl)
                    try simp only [Act.put, List.setIfInBounds_toArray, List.set_cons_zero, List.set_cons_succ]
                    refine wpAnyH_take (i := 6) (oi := { dst := some 175, op := Op.move (Operand.tmp 9), type := 43, pos := "law.go:163", after := #[{ on := 3, ground := Ground.guard }], guard := some (3, false) }) (v := ?tkv9507) rfl (by kernel_rfl) (by kernel_rfl) (by kernel_rfl) (fun _ _ _ h => h) (Or.inl ⟨by rfl, ?tky9507⟩) hH0 ?tkr9507
                    case tky9507 => (intro w' hSw; clear hSw; go_simp; try with_reducible rfl)
                    try simp only [Act.put, List.setIfInBounds_toArray, List.set_cons_zero, List.set_cons_succ]
                    refine wpAnyH_take (i := 7) (oi := { dst := some 176, op := Op.move (Operand.tmp 22), type := 3, pos := "law.go:163", after := #[{ on := 3, ground := Ground.guard }], guard := some (3, false) }) (v := ?tkv9508) rfl (by kernel_rfl) (by kernel_rfl) (by kernel_rfl) (fun _ _ _ h => h) (Or.inl ⟨by rfl, ?tky9508⟩) hH0 ?tkr9508
                    case tky9508 => (intro w' hSw; clear hSw; go_simp; try with_reducible rfl)
                    try simp only [Act.put, List.setIfInBounds_toArray, List.set_cons_zero, List.set_cons_succ]
                    refine wpAnyH_take (i := 8) (oi := { dst := some 177, op := Op.indexAddr 43 (Operand.tmp 175) (Operand.tmp 176), type := 0, pos := "law.go:163", after := #[{ on := 6, ground := Ground.data }, { on := 7, ground := Ground.data }, { on := 3, ground := Ground.guard }], guard := some (3, false) }) (v := ?tkv9509) rfl (by kernel_rfl) (by kernel_rfl) (by kernel_rfl) (fun _ _ _ h => h) (Or.inl ⟨by rfl, ?tky9509⟩) hH0 ?tkr9509
                    case tky9509 => (intro w' hSw; clear hSw; go_simp; try with_reducible rfl)
                    try simp only [Act.put, List.setIfInBounds_toArray, List.set_cons_zero, List.set_cons_succ]
                    refine wpAnyH_take (i := 9) (oi := { dst := some 178, op := Op.load 30 (Operand.tmp 177), type := 30, pos := "law.go:163", after := #[{ on := 8, ground := Ground.data }, { on := 3, ground := Ground.guard }], guard := some (3, false) }) (v := ?tkv9510) rfl (by kernel_rfl) (by kernel_rfl) (by kernel_rfl) (fun _ _ _ h => h) (Or.inl ⟨by rfl, ?tky9510⟩) hH0 ?tkr9510
                    case tky9510 => (intro w' hSw; have z0 := HF43.out _ hSw; clear hSw; go_simp; try with_reducible rfl)
                    try simp only [Act.put, List.setIfInBounds_toArray, List.set_cons_zero, List.set_cons_succ]
                    refine wpAnyH_take (i := 10) (oi := { dst := some 179, op := Op.convert 30 9 (Operand.tmp 178), type := 9, pos := "law.go:163", after := #[{ on := 9, ground := Ground.data }, { on := 3, ground := Ground.guard }], guard := some (3, false) }) (v := ?tkv9511) rfl (by kernel_rfl) (by kernel_rfl) (by kernel_rfl) (fun _ _ _ h => h) (Or.inl ⟨by rfl, ?tky9511⟩) hH0 ?tkr9511
                    case tky9511 => (intro w' hSw; have z0 := HF43.out _ hSw; clear hSw; go_simp; try with_reducible rfl)
                    try simp only [Act.put, List.setIfInBounds_toArray, List.set_cons_zero, List.set_cons_succ]
                    refine wpAnyH_take (i := 11) (oi := { dst := some 180, op := Op.binOp BinOp.neq 9 (Operand.tmp 174) (Operand.tmp 179) 9, type := 4, pos := "law.go:163", after := #[{ on := 5, ground := Ground.data }, { on := 10, ground := Ground.data }, { on := 3, ground := Ground.guard }], guard := some (3, false) }) (v := ?tkv9512) rfl (by kernel_rfl) (by kernel_rfl) (by kernel_rfl) (fun _ _ _ h => h) (Or.inl ⟨by rfl, ?tky9512⟩) hH0 ?tkr9512
                    case tky9512 => (intro w' hSw; clear hSw; go_simp; try with_reducible rfl)
                    try simp only [Act.put, List.setIfInBounds_toArray, List.set_cons_zero, List.set_cons_succ]
                    refine wpAnyH_take (i := 12) (oi := { dst := some 181, op := Op.pick (Operand.tmp 172) (Operand.const (Value.bool true)) (Operand.tmp 180), type := 4, pos := "law.go:163", after := #[{ on := 3, ground := Ground.data }, { on := 11, ground := Ground.data }], guard := none }) (v := ?tkv9513) rfl (by kernel_rfl) (by kernel_rfl) (by kernel_rfl) (fun _ _ _ h => h) (Or.inl ⟨by rfl, ?tky9513⟩) hH0 ?tkr9513
                    case tky9513 => (intro w' hSw; clear hSw; go_simp; try with_reducible rfl)
                    try simp only [Act.put, List.setIfInBounds_toArray, List.set_cons_zero, List.set_cons_succ]
                    refine wpAnyH_done (by kernel_rfl) ?_ _
                    refine NoPanic.normal ?_
                    have HBD := Lib.hid (HBK.out.trans ((hH0).mono HBK.out.size))
                    go_wp2_with fail
                    go_roundw
                    case rel => exact ⟨t + 1, by omega, by go_num, HBD⟩
                    case measure => simp [intOf]; omega
                  · obtain rfl : n = t := by omega
                    clear hlt
                    have HBF := Lib.hid (HBP.out.trans ((HBZ.out.trans (HBK.out.mono HBZ.out.size)).mono HBP.out.size))
                    clear HBK
                    go_wp2_with fail
                    refine (awake6_any wr (HT.out.grow HBF.out)).mono ?_
                    rintro e w9 ⟨rfl, hb9⟩
                    have HB9 := Lib.hid (HBF.out.trans (hb9.out.mono HBF.out.size))
                    clear hb9
                    go_wp2_with fail
                    go_ret
                    exact ⟨rfl, HB9.out⟩
              · have HSO := Lib.hid (solveI_no (HMA.out w38 HB38.out) hf)
                clear hf
                go_wp2_with fail
                refine HSO.out.mono ?_
                rintro e w40 ⟨rfl, hb40⟩
                have HBF := Lib.hid (HBP.out.trans ((HBY.out.trans (hb40.out.mono HBY.out.size)).mono HBP.out.size))
                clear hb40 HSO
                go_wp2_with fail
                go_loopw [164] (fun i wr => i = .int .i64 0 ∧ wr = w40) (fun i _ => 0)
                case atStart => exact ⟨rfl, rfl⟩
                case round =>
                  obtain ⟨rfl, rfl⟩ := hrel
                  go_wp2_with fail
                  refine (awake6_any _ (HT.out.grow HBF.out)).mono ?_
                  rintro e w9 ⟨rfl, hb9⟩
                  have HB9 := Lib.hid (HBF.out.trans (hb9.out.mono HBF.out.size))
                  clear hb9
                  go_wp2_with fail
                  go_ret
                  exact ⟨rfl, HB9.out⟩
end Go.Proofs.YtdogbdbjagechaaDoor.El
