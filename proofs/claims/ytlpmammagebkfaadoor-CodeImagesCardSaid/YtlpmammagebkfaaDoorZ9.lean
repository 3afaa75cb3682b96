/- Contracts of the functions that the law calls, part 9. -/
import Derived.Test.YtlpmammagebkfaaDoorRows
import Derived.ProofKit
import Derived.SizedLaws
import Derived.LaidMore
import Derived.LaidLaws
import Derived.Stop.Joined
import Derived.SevenTiedAt
import Derived.Test.YtlpmammagebkfaaDoorTie
import Derived.Test.YtlpmammagebkfaaDoorCards
import Derived.Test.YtlpmammagebkfaaDoorZ8
namespace Go.Proofs.YtlpmammagebkfaaDoor.Cd
open Go.RowKit
open VecM RdM Vc Sp Pc
set_option maxRecDepth 100000 in
set_option maxHeartbeats 800000 in
theorem sym_nil (id : Nat) (w : World) : Calls Tryd.prog 9 #[.pointer none, .int .u32 (id : Int)] w (FreshBytes w.heap.size [] w) := by
  go_enter Tryd.func9, Tryd.ntmps9
  go_wp2_with fail
  refine (made_nil w).mono ?_
  rintro e w1 ⟨rfl, hb1⟩
  go_wp2_with fail
  refine (known_nil w1).mono ?_
  rintro e w2 ⟨rfl, hb2⟩
  have HB2 := Lib.hid (hb1.out.trans (hb2.out.mono hb1.out.size))
  clear hb1 hb2
  go_wp2_with fail
  refine (row_no 0 id 0 0 0 w2 (by decide)).mono ?_
  rintro e w3 ⟨rfl, hb3⟩
  have HB3 := Lib.hid (HB2.out.trans (hb3.out.mono HB2.out.size))
  clear hb3
  go_wp2_with fail
  refine (list_nil w3).mono ?_
  rintro e w4 ⟨rfl, rfl⟩
  go_wp2_with fail
  go_loopw [5, 17] (fun v i wr => v = .slice none 0 0 ∧ i = .int .i64 0 ∧ w3 = wr) (fun _ _ _ => 0)
  case atStart => exact ⟨rfl, rfl, rfl⟩
  case round =>
    obtain ⟨rfl, rfl, rfl⟩ := hrel
    go_wp2_with fail
    refine (sum_none 0 none w3).mono ?_
    rintro e w5 ⟨A5, n5, c5, rfl, hn5, hown5, hb5⟩
    have HO := Lib.hid (own_base hown5 HB3.out.size)
    have HE := Lib.hid (HB3.out.trans (hb5.mono HB3.out.size))
    have HN := Lib.hid hn5
    clear hown5 hb5 hn5
    go_wp2_with fail
    go_ret
    exact ⟨A5, n5, c5, rfl, HN.out, HO.out, HE.out⟩
def PcsOkH (s K P Z : Nat) (img : List UInt8) (g B : Nat) (R : World → Prop) (w : World) (e : Ending) (w' : World) : Prop :=
  ∃ A c, e = .returned (.slice A (K + P) c) ∧ Hid (PW (allC s K P Z img) w.heap.size (.slice A (K + P) c) w') ∧ Hid (HM s K P Z img w' B g) ∧ Hid (R w')
set_option maxRecDepth 100000 in
set_option maxHeartbeats 3200000 in
theorem pcs_gen (s K P Z g B : Nat) (img : List UInt8) (R : World → Prop) (w : World) (hK : 1 ≤ K ∧ K ≤ 64) (hP : P ≤ 16) (hZ : 1 ≤ Z ∧ Z ≤ 16)
    (hR : Grows R w) (hm : Calls Tryd.prog 19 #[.pointer (some ⟨g, 0, none⟩)] w (MadeOk s K P Z img g B R)) :
    Calls Tryd.prog 10 #[.pointer (some ⟨g, 0, none⟩)] w (PcsOkH s K P Z img g B R w) := by
  obtain ⟨i0, hi, hz0, hz1, hz2⟩ := info_parts Tryd.info25
  have HMD := Lib.hid hm
  have HRR := Lib.hid hR
  have HZ := Lib.hid hZ
  obtain ⟨n, hn⟩ : ∃ n, K + P = n := ⟨_, rfl⟩
  have hn80 : n ≤ 80 := by omega
  have HN := Lib.hid hn
  clear hm hR hZ hK hP hn
  go_enter Tryd.func10, Tryd.ntmps10
  go_wp2_with fail
  refine HMD.out.mono ?_
  rintro e w4 ⟨A, c, rfl, hv1, hr1⟩
  have HV4 := Lib.hid hv1.out
  have HR4 := Lib.hid hr1.out
  obtain ⟨iv, hh1, hpw1, hgB⟩ := hv1.out
  obtain ⟨A', c', es, hve, hes, hrows, _⟩ := hpw1.rows
  rw [allC_length] at hve hrows
  injection hve with e1 e2 e3
  subst e1 e3
  rw [HN.out] at hrows ⊢
  have HROWS := Lib.hid hrows
  have HES := Lib.hid hes
  have HG := Lib.hid (HRR.out.2.1 _ HR4.out)
  have HLEN : Hid (es.length = n) := Lib.hid hrows.len
  have HZN : Hid (∀ r ∈ es, r.n = Z) := Lib.hid fun r hr => by
    rw [← (hrows.2 r hr).blen]
    exact allC_z _ (by rw [← hes]; exact List.mem_map_of_mem hr)
  clear HMD hh1 hpw1 hgB hrows hes hv1 hr1
  go_wp2_with fail
  go_loopw [3, 9] (fun v i wr => ∃ k : Nat, k ≤ n ∧ i = .int .i64 k ∧ Hid (PW ((es.map (·.l)).take k) w4.heap.size v wr) ∧ Hid (Below w4.heap.size w4 wr)) (fun _ i _ => n - (intOf i).toNat)
  case atStart => exact ⟨0, by omega, rfl, Lib.hid ⟨[], by simp, World.ownsRow_nil _ _ _ _, fun r hr => by cases hr⟩, Lib.hid (Below.refl _ _)⟩
  case round =>
    obtain ⟨k, hk, rfl, hpw, hbk⟩ := hrel
    have hsz := hbk.out.size
    by_cases hlt : k < n
    · obtain ⟨fs, f1, f2, f3⟩ := hpw.out
      have hlen : ((es.map (·.l)).take k).length = k := by have := HLEN.out; simp; omega
      rw [hlen] at f2
      obtain ⟨Av, cv, rfl, _⟩ := own_slice f2
      obtain ⟨b, o, rfl, r, hr, hcell, hrow⟩ := (HROWS.out.below hbk.out).at_ hlt
      have hrn := HZN.out r (List.mem_of_getElem? hr)
      have htk : (es.map (·.l)).take (k + 1) = (es.map (·.l)).take k ++ [r.l] := by
        have hlk : k < (es.map (·.l)).length := by have := HLEN.out; simp; omega
        rw [List.take_succ_eq_append_getElem hlk]
        have : es[k]'(by simpa using hlk) = r := by
          have h2 := List.getElem?_eq_getElem (l := es) (i := k) (by simpa using hlk)
          rw [h2] at hr; injection hr
        simp [this]
      have HTK := Lib.hid htk
      have hrl : r.l.length = Z := by rw [← hrn]; exact hrow.blen
      have HCL := Lib.hid (clone_any w4.heap.size r.n r.c r.A r.l wr hrow (by have := HZ.out; omega) hsz)
      have HF2 := Lib.hid f2
      have HF1 := Lib.hid f1
      have HF3 := Lib.hid f3
      have HRL := Lib.hid hrl
      have HLN := Lib.hid hlen
      have hki : (k : Int) < (n : Int) := by omega
      have HG4 := Lib.hid hsz
      clear f1 f2 f3 htk hr hrn hrow hpw hlen hrl
      go_wp2_with fail
      refine HCL.out.mono ?_
      rintro e w5 ⟨A5, m5, c5, rfl, hm5, hown5, hb5⟩
      have hm5' : m5 = Z := by rw [hm5]; exact HRL.out
      obtain ⟨g5, c5', hv5, hg5, _⟩ := hown5.form (by have := HZ.out; omega)
      injection hv5 with e1 e2 e3
      subst e1 e3
      subst hm5'
      have HB5 := Lib.hid hb5
      have HO5 := Lib.hid hown5
      clear hm5 hb5 hown5 HCL hcell hsz
      go_wp2_with (at_builtin; refine wpList_app rfl (.tmp 13) (.tmp 16) 31 rfl w4.heap.size 25 i0 (.slice none 0 0) 24 Tryd.underlying31 hi hz0 hz1 hz2 rfl _ k _ rfl (own_below HF2.out (HB5.out.alloc HB5.out.size _)) _ _ 1 1 _ rfl (row_new w5 _ _ _) (by intro u hu; simp at hu; subst hu; rfl) (by unfold maxLen; omega) (by omega) (Nat.le_trans HG4.out (HB5.out.alloc HB5.out.size _).size) ?_; intro v6 w6 hown6 hg6 hat6)
      have hbW := HB5.out.alloc HB5.out.size (.cells #[.slice (some ⟨g5, 0, none⟩) m5 c5] 25)
      have hnext : Hid (PW ((es.map (·.l)).take (k + 1)) w4.heap.size v6 w6) := by
        rw [HTK.out]
        exact Lib.hid (PW.app HLN.out HF1.out HF2.out HF3.out hbW (own_below HO5.out ((Below.refl _ _).alloc (Nat.le_refl _) _)) HG4.out hown6 hg6 hat6)
      have hbn : Hid (Below w4.heap.size w4 w6) := Lib.hid (below_app (hbk.out.trans (hbW.mono HG4.out)) (Nat.le_trans HG4.out hbW.size) (own_below HF2.out hbW) (Nat.le_refl _) hg6)
      clear hbW hown6 hg6 hat6 hbk
      go_wp2_with fail
      go_roundw
      case rel => exact ⟨k + 1, by omega, by go_num, hnext, hbn⟩
      case measure => simp [intOf]; omega
    · obtain rfl : n = k := by omega
      clear hlt
      have hpw0 := hpw.out
      rw [List.take_of_length_le (by have := HLEN.out; simp; omega), HES.out] at hpw0
      obtain ⟨A9, c9, _, hv9, _⟩ := hpw0.rows
      rw [allC_length, HN.out] at hv9
      subst hv9
      have HPW := Lib.hid (hpw0.mono HG.out)
      have HM7 := Lib.hid (HV4.out.below hbk.out).hm
      have HR7 := Lib.hid (HRR.out.1 _ _ HR4.out hbk.out)
      clear hpw0 hpw hbk hsz
      go_wp2_with fail
      go_ret
      unfold PcsOkH
      rw [HN.out]
      exact ⟨A9, c9, rfl, HPW, HM7, HR7⟩
set_option maxRecDepth 100000 in
theorem pcs_nil (w : World) : Calls Tryd.prog 10 #[.pointer none] w fun e w' => e = .returned (.slice none 0 0) ∧ Hid (Below w.heap.size w w') := by
  go_enter Tryd.func10, Tryd.ntmps10
  go_wp2_with fail
  refine (made_nil w).mono ?_
  rintro e w1 ⟨rfl, hb1⟩
  have HB := Lib.hid hb1.out
  clear hb1
  go_wp2_with fail
  go_loopw [3, 9] (fun v i wr => v = .slice none 0 0 ∧ i = .int .i64 0 ∧ w1 = wr) (fun _ _ _ => 0)
  case atStart => exact ⟨rfl, rfl, rfl⟩
  case round =>
    obtain ⟨rfl, rfl, rfl⟩ := hrel
    go_wp2_with fail
    go_ret
    exact ⟨rfl, HB⟩
/-- the head that was made anew; the one that was asked -/
theorem grows_but {s K P Z : Nat} {img : List UInt8} {w : World} {g : Nat} (h : HF s K P Z img w g) (ht : DTab w) : Grows (fun W => But w.heap.size g w W) w :=
  ⟨fun _ _ h1 hb => h1.trans (But.of_below (hb.mono h1.size)), fun _ h1 => h1.size, fun _ h1 => DTab.but ht h1 (Nat.le_refl _) (h.ne_tab ht)⟩
theorem grows_below {w : World} (ht : DTab w) : Grows (fun W => Below w.heap.size w W) w :=
  ⟨fun _ _ h1 hb => h1.trans (hb.mono h1.size), fun _ h1 => h1.size, fun _ h1 => ht.grow h1⟩
end Go.Proofs.YtlpmammagebkfaaDoor.Cd
namespace Go.Proofs.YtlpmammagebkfaaDoor.Cd
open Go.RowKit
open VecM RdM Vc Sp Pc
theorem size_facts (N zz K : Nat) (h1 : 1 ≤ N) (h2 : N ≤ 301) (hz : 1 ≤ zz ∧ zz ≤ 16) (hN : N ≤ 64 * zz) (hK : (N + zz - 1) / zz = K) : BlkM.count (N : Int) (zz : Int) = K ∧ 1 ≤ K ∧ K ≤ 64 := by
  have hq : ((N : Int) + (zz : Int) - 1) / (zz : Int) = (K : Int) := by
    rw [← hK]
    have : ((N : Int) + (zz : Int) - 1) = ((N + zz - 1 : Nat) : Int) := by omega
    rw [this]; rfl
  have hk1 : 1 ≤ K := by
    rw [← hK]
    exact Nat.div_pos (by omega) (by omega)
  have hk2 : K ≤ 64 := by
    rw [← hK]
    have : (N + zz - 1) / zz < 65 := (Nat.div_lt_iff_lt_mul (by omega)).2 (by omega)
    omega
  refine ⟨?_, hk1, hk2⟩
  unfold BlkM.count
  rw [if_neg (by omega), hq, if_neg (by omega)]
  rfl
def SoundOk11 (s : Nat) (w : World) (e : Ending) (w' : World) : Prop :=
  ∃ (K P Z : Nat) (A : Option Addr) (c : Nat) (img : List UInt8), e = .returned (.tuple #[parV s K P Z, .slice A img.length c]) ∧ Hid ((1 ≤ K ∧ K ≤ 64) ∧ P ≤ 16 ∧ (1 ≤ Z ∧ Z ≤ 16) ∧ (1 ≤ img.length ∧ img.length ≤ 301) ∧ BlkM.count (img.length : Int) (Z : Int) = K) ∧
    Hid (w'.ownsRow w.heap.size 5 1 (.slice A img.length c) img.length (bv img)) ∧ Hid (Below w.heap.size w w')
set_option maxRecDepth 100000 in
set_option maxHeartbeats 3200000 in
theorem sound11_q (s n c B q z p zz K : Nat) (K0 P0 Z0 : Int) (A : Option Addr) (l : List UInt8) (w : World) (hr : Row w B A n (bv l)) (hn : n ≤ c ∧ c ≤ 9223372036854775807) (hB : B ≤ w.heap.size)
    (hq : min (n : Int) 300 = (q : Int)) (hqn : q ≤ n) (hq3 : q ≤ 300) (hpp : wrap64 ((IntKind.u64.wrap P0).tmod 17) = (p : Int)) (hp : p ≤ 16) (hzp : wrap64 ((IntKind.u64.wrap Z0).tmod 16) = (z : Int)) (hz : z ≤ 15)
    (hm : max (1 + (z : Int)) (((q : Int) + 1 + 64 - 1) / 64) = (zz : Int)) (hzz : 1 ≤ zz ∧ zz ≤ 16) (hK : ((q : Int) + 1 + (zz : Int) - 1) / (zz : Int) = (K : Int)) (hKn : (q + 1 + zz - 1) / zz = K) (hN : q + 1 ≤ 64 * zz) :
    Calls Tryd.prog 7 #[parV s K0 P0 Z0, .slice A n c] w (SoundOk11 s w) := by
  obtain ⟨iu, hui, huz, hus, hub⟩ := info_parts Tryd.info5
  have HPP := Lib.hid hpp
  have HZP := Lib.hid hzp
  have HQ := Lib.hid hq
  have HM := Lib.hid hm
  have HK := Lib.hid hK
  have HF := Lib.hid (size_facts (q + 1) zz K (by omega) (by omega) hzz hN hKn)
  have HZZ := Lib.hid hzz
  have hx1 := heap_alloc2_old w (.cells #[.int .u32 (s : Int), .int .i64 K0, .int .i64 P0, .int .i64 Z0] 24) (.cells #[.int .u32 0, .int .i64 0, .int .i64 0, .int .i64 0] 24)
  have hx2 := heap_alloc2_new w (.cells #[.int .u32 (s : Int), .int .i64 K0, .int .i64 P0, .int .i64 Z0] 24) (.cells #[.int .u32 0, .int .i64 0, .int .i64 0, .int .i64 0] 24)
  have hb0 : Below w.heap.size w ((w.alloc (.cells #[.int .u32 (s : Int), .int .i64 K0, .int .i64 P0, .int .i64 Z0] 24)).alloc (.cells #[.int .u32 0, .int .i64 0, .int .i64 0, .int .i64 0] 24)) := ((Below.refl _ _).alloc (Nat.le_refl _) _).alloc (by simp) _
  have hsz : ((w.alloc (.cells #[.int .u32 (s : Int), .int .i64 K0, .int .i64 P0, .int .i64 Z0] 24)).alloc (.cells #[.int .u32 0, .int .i64 0, .int .i64 0, .int .i64 0] 24)).heap.size = w.heap.size + 2 := by simp
  have HSZ := Lib.hid hsz
  have HX1 := Lib.hid hx1
  have HX2 := Lib.hid hx2
  have HB0 := Lib.hid hb0
  have HR := Lib.hid (hr.head (k := q) (by omega))
  rw [bv_take] at HR
  have HBB := Lib.hid hB
  have hl : (l.take q).length = q := by rw [List.length_take, hr.blen]; omega
  have HL := Lib.hid hl
  have hn1 := hn.1
  have hn2 := hn.2
  unfold parV
  clear hpp hzp hx1 hx2 hb0 hsz hr hn hq hm hK hKn hN hB hl hzz
  go_enter Tryd.func7, Tryd.ntmps7
  go_upto_region 1 with fail
  generalize ((w.alloc (.cells #[.int .u32 (s : Int), .int .i64 K0, .int .i64 P0, .int .i64 Z0] 24)).alloc (.cells #[.int .u32 0, .int .i64 0, .int .i64 0, .int .i64 0] 24)) = w0 at *
  have OW0 := Lib.hid (own_lit (w := w0) (base := w0.heap.size) (g := w0.heap.size) (n := 0) (e := 5) #[] rfl (Nat.le_refl _) rfl (by unfold maxLen; omega))
  have HBA : Hid (Below w0.heap.size w0 (w0.alloc (.cells #[] 5))) := Lib.hid ((Below.refl _ _).alloc (Nat.le_refl _) _)
  go_upto_region 2 with (first
    | rw [HQ.out]
    | (at_builtin; refine wpList_app rfl (.tmp 7) (.tmp 12) 25 rfl w0.heap.size 5 iu (.int .u8 0) 1 Tryd.underlying25 hui huz hus hub rfl _ 0 [] rfl OW0.out B A q c (bv (l.take q)) rfl (HR.out.below ((HB0.out.mono HBB.out).trans (HBA.out.mono (Nat.le_trans HBB.out HB0.out.size)))) (bv_one _) (by unfold maxLen; omega) (by omega) HBA.out.size ?_; intro v2 w2 hown2 hg2 hat2; rw [Nat.zero_add, List.nil_append] at hown2; have O2 := Lib.hid hown2; have B2 := Lib.hid (below_app HBA.out HBA.out.size OW0.out (Nat.le_refl _) hg2); clear hown2 hg2 hat2)
    | (at_builtin; refine wpList_app rfl (.tmp 13) (.tmp 14) 25 rfl w0.heap.size 5 iu (.int .u8 0) 1 Tryd.underlying25 hui huz hus hub rfl _ q _ rfl (own_below O2.out ((Below.refl _ _).alloc (Nat.le_refl _) _)) _ _ 1 1 (bv [7]) rfl (row_new w2 _ _ _) (bv_one _) (by unfold maxLen; omega) (by omega) (Nat.le_trans B2.out.size ((Below.refl _ _).alloc (Nat.le_refl _) _).size) ?_; intro v3 w3 hown3 hg3 hat3; have O3 := Lib.hid hown3; have B3 := Lib.hid (below_app (B2.out.alloc B2.out.size _) (B2.out.alloc B2.out.size _).size (own_below O2.out ((Below.refl _ _).alloc (Nat.le_refl _) _)) (Nat.le_refl _) hg3); clear hown3 hg3 hat3))
  obtain ⟨A3, c3, rfl, hc3, hc3m, _⟩ := own_slice O3.out
  have hx1 := (B3.out.block w.heap.size (by have := HSZ.out; omega)).trans HX1.out
  have hx2 := (B3.out.block (w.heap.size + 1) (by have := HSZ.out; omega)).trans HX2.out
  obtain ⟨c0, c1, c2, c3'⟩ := box4 hx1
  obtain ⟨d0, d1, d2, d3⟩ := box4 hx2
  obtain ⟨f0, f1, f2, f3⟩ := frozenBox hx2
  have HX3 := Lib.hid hx2
  clear hx1 hx2 HX1 HX2 OW0 HBA O2 B2 HR
  have hzzb : (zz : Int) ≤ 16 ∧ 1 ≤ (zz : Int) := by have := HZZ.out; omega
  have hz1 := hzzb.1
  have hz2 := hzzb.2
  go_upto_region 3 with (first | rw [HZP.out])
  rw [HM.out]
  have hpp := HPP.out
  have hK := HK.out
  have hzne : ¬ (zz : Int) = 0 := by omega
  go_region
  have hlen : (l.take q ++ [7]).length = q + 1 := by rw [List.length_append, HL.out]; rfl
  have hrow0 := setBox HX3.out (.int .u32 (s : Int)) (.int .i64 (K : Int)) (.int .i64 (p : Int)) (.int .i64 (zz : Int))
  have hrow : (((((w3.setCell ⟨w.heap.size + 1, 0, none⟩ (.int .u32 (s : Int))).setCell ⟨w.heap.size + 1, 1, none⟩ (.int .i64 (K : Int))).setCell ⟨w.heap.size + 1, 2, none⟩ (.int .i64 (p : Int))).setCell ⟨w.heap.size + 1, 3, none⟩ (.int .i64 (zz : Int))).drew).heap[w.heap.size + 1]? = some (.cells #[.int .u32 (s : Int), .int .i64 (K : Int), .int .i64 (p : Int), .int .i64 (zz : Int)] 24 (0, 0)) := hrow0
  have hbo : ∀ b, (Value.slice A3 (q + 1) c3).ownBlock = some b → some (w.heap.size + 1) ≠ some b := fun b e => by
    have h1 := (O3.out.lt b e).1
    have h2 := HSZ.out
    intro h
    injection h with h
    omega
  have ho0 := own_grown (own_grown (own_grown (own_grown O3.out (grown_set1 w3 (w.heap.size + 1) 0 (.int .u32 (s : Int))) hbo) (grown_set1 _ (w.heap.size + 1) 1 (.int .i64 (K : Int))) hbo) (grown_set1 _ (w.heap.size + 1) 2 (.int .i64 (p : Int))) hbo) (grown_set1 _ (w.heap.size + 1) 3 (.int .i64 (zz : Int))) hbo
  have ho1 := own_base (own_below ho0 (Below.refl _ _).drew) HB0.out.size
  have hbf : Below w.heap.size w (((((w3.setCell ⟨w.heap.size + 1, 0, none⟩ (.int .u32 (s : Int))).setCell ⟨w.heap.size + 1, 1, none⟩ (.int .i64 (K : Int))).setCell ⟨w.heap.size + 1, 2, none⟩ (.int .i64 (p : Int))).setCell ⟨w.heap.size + 1, 3, none⟩ (.int .i64 (zz : Int))).drew) := (((((HB0.out.trans (B3.out.mono HB0.out.size)).setCell (by show w.heap.size ≤ w.heap.size + 1; omega) _).setCell (by show w.heap.size ≤ w.heap.size + 1; omega) _).setCell (by show w.heap.size ≤ w.heap.size + 1; omega) _).setCell (by show w.heap.size ≤ w.heap.size + 1; omega) _).drew
  have HRW := Lib.hid hrow
  have HOF := Lib.hid ho1
  have HBF := Lib.hid hbf
  have HLN := Lib.hid hlen
  clear hrow0 hrow hbo ho0 ho1 hbf hlen
  generalize ((((w3.setCell ⟨w.heap.size + 1, 0, none⟩ (.int .u32 (s : Int))).setCell ⟨w.heap.size + 1, 1, none⟩ (.int .i64 (K : Int))).setCell ⟨w.heap.size + 1, 2, none⟩ (.int .i64 (p : Int))).setCell ⟨w.heap.size + 1, 3, none⟩ (.int .i64 (zz : Int))).drew = wf at *
  go_wp2_with fail
  refine bodyPost_ret (Pc.results_cell_row rfl _ _ (w.heap.size + 1) _ _ (0, 0) _ rfl HRW.out Tryd.underlying24 rfl (by kernel_rfl)) rfl ?_
  refine ⟨K, p, zz, A3, c3, l.take q ++ [7], ?_, Lib.hid ⟨HF.out.2, hp, HZZ.out, ?_, ?_⟩, ?_, HBF⟩
  · rw [HLN.out]; rfl
  · rw [HLN.out]; omega
  · rw [HLN.out]; exact HF.out.1
  · rw [HLN.out, bv_append]; exact HOF
set_option maxRecDepth 100000 in
theorem sound11_any (s n c B : Nat) (K0 P0 Z0 : Int) (A : Option Addr) (l : List UInt8) (w : World) (hr : Row w B A n (bv l)) (hn : n ≤ c ∧ c ≤ 9223372036854775807) (hB : B ≤ w.heap.size) :
    Calls Tryd.prog 7 #[parV s K0 P0 Z0, .slice A n c] w (SoundOk11 s w) := by
  obtain ⟨p, hp, hpp⟩ := pick_in P0 17 (by omega) (by omega)
  obtain ⟨z, hz, hzp⟩ := pick_in Z0 16 (by omega) (by omega)
  obtain ⟨q, hq⟩ : ∃ q : Nat, min n 300 = q := ⟨_, rfl⟩
  obtain ⟨zz, hzz⟩ : ∃ zz : Nat, max (1 + z) ((q + 1 + 64 - 1) / 64) = zz := ⟨_, rfl⟩
  have hd : ((q : Int) + 1 + 64 - 1) / 64 = (((q + 1 + 64 - 1) / 64 : Nat) : Int) := by omega
  have hz1 : 1 ≤ zz ∧ zz ≤ 16 := by omega
  have hN : q + 1 ≤ 64 * zz := by omega
  refine sound11_q s n c B q z p zz _ K0 P0 Z0 A l w hr hn hB (by omega) (by omega) (by omega) hpp (by omega) hzp (by omega) (by rw [hd]; omega) hz1 ?_ rfl hN
  have : ((q : Int) + 1 + (zz : Int) - 1) = ((q + 1 + zz - 1 : Nat) : Int) := by omega
  rw [this]
  rfl
end Go.Proofs.YtlpmammagebkfaaDoor.Cd
namespace Go.Proofs.YtlpmammagebkfaaDoor.Cd
open Go.RowKit
open VecM RdM Vc Sp Pc
theorem aw11_0 : symX 1 2 1 2 [1, 2, 3] 0 = [1, 2] := by
  rw [symX_first (by omega) (by omega) (by omega), allC_first (by omega)]
  decide
theorem aw11_1 : symX 1 2 1 2 [1, 2, 3] 1 = [3, 0] := by
  rw [symX_first (by omega) (by omega) (by omega), allC_first (by omega)]
  decide
set_option maxRecDepth 100000 in
set_option maxHeartbeats 1600000 in
theorem awake11_any (w : World) (ht : DTab w) : Calls Tryd.prog 15 #[] w fun e w' => e = .returned (.bool true) ∧ Hid (Below w.heap.size w w') := by
  have hal : Below w.heap.size w (w.alloc (.cells #[.int .u8 1, .int .u8 2, .int .u8 3] 5)) := (Below.refl _ _).alloc (Nat.le_refl _) _
  have hz : (w.alloc (.cells #[.int .u8 1, .int .u8 2, .int .u8 3] 5)).heap.size = w.heap.size + 1 := by simp
  have HR : Hid (Row (w.alloc (.cells #[.int .u8 1, .int .u8 2, .int .u8 3] 5)) (w.heap.size + 1) (some ⟨w.heap.size, 0, none⟩) 3 (bv [1, 2, 3])) := Lib.hid (row_new w _ _ _)
  have HAL := Lib.hid hal
  have HZ := Lib.hid hz
  have HT := Lib.hid ht
  clear hal hz ht
  go_enter Tryd.func15, Tryd.ntmps15
  go_wp2_with fail
  generalize (w.alloc (.cells #[.int .u8 1, .int .u8 2, .int .u8 3] 5)) = w0 at *
  refine (new_yes 1 2 1 2 (w.heap.size + 1) 3 _ [1, 2, 3] w0 ⟨by omega, by omega⟩ (by omega) ⟨by omega, by omega⟩ HR.out (by have := HZ.out; omega) (by simp) (by decide +kernel)).mono ?_
  rintro e w1 ⟨g, rfl, hg, _, hq1, hb1⟩
  have HF1 := Lib.hid hq1.out.hf
  clear hq1
  have HB1 := Lib.hid (HAL.out.trans (hb1.out.mono HAL.out.size))
  have HT1 := Lib.hid (HT.out.grow HB1.out)
  have HG : Hid (w.heap.size ≤ g) := Lib.hid (Nat.le_trans HAL.out.size hg)
  clear hg hb1 HR
  have S1 := Lib.hid (sym_gen 1 2 1 2 0 g _ [1, 2, 3] _ w1 (by omega) (by omega) ⟨by omega, by omega⟩ (by omega) ⟨by omega, by omega⟩ (grows_but HF1.out HT1.out) (made_first 1 2 1 2 g [1, 2, 3] w1 (by omega) ⟨by omega, by omega⟩ (by omega) ⟨by omega, by omega⟩ (by decide +kernel) HF1.out))
  go_wp2_with fail
  refine S1.out.mono ?_
  rintro e w2 ⟨A2, n2, c2, rfl, hn2, ho2, HM2, hr2⟩
  rw [aw11_0] at ho2
  have hk2 := conv_own c2 ho2.out w2 (Below.refl _ _)
  have HB2 := Lib.hid (HB1.out.trans (hr2.out.below HG.out HB1.out.size))
  have HT2 := Lib.hid (HT.out.grow HB2.out)
  clear S1 ho2 hr2 hn2
  obtain ⟨A3, c3, hv3⟩ := HM2.out.hv
  have HV3 := Lib.hid hv3
  have S2 := Lib.hid (sym_gen 1 2 1 2 1 g _ [1, 2, 3] _ w2 (by omega) (by omega) ⟨by omega, by omega⟩ (by omega) ⟨by omega, by omega⟩ (grows_below HT2.out) (made_done 1 2 1 2 c3 g _ A3 [1, 2, 3] w2 hv3))
  clear hv3
  go_wp2_with fail
  refine S2.out.mono ?_
  rintro e w4 ⟨A4, n4, c4, rfl, hn4, ho4, HM4, hr4⟩
  rw [aw11_1] at ho4
  have hk4 := conv_own c4 ho4.out w4 (Below.refl _ _)
  have HB4 := Lib.hid (HB2.out.trans (hr4.out.mono HB2.out.size))
  have HT4 := Lib.hid (HT.out.grow HB4.out)
  obtain ⟨A5, c5, hv5⟩ := HM4.out.hv
  have S3 := Lib.hid (pcs_gen 1 2 1 2 g _ [1, 2, 3] _ w4 ⟨by omega, by omega⟩ (by omega) ⟨by omega, by omega⟩ (grows_below HT4.out) (made_done 1 2 1 2 c5 g _ A5 [1, 2, 3] w4 hv5))
  clear S2 hk2 ho4 hr4 hn4 hv5 HV3
  go_wp2_with fail
  refine S3.out.mono ?_
  rintro e w6 ⟨A6, c6, rfl, hp6, _, hr6⟩
  have HB6 := Lib.hid (HB4.out.trans (hr6.out.mono HB4.out.size))
  clear S3 hp6 hr6 hk4
  go_wp2_with fail
  go_ret
  exact ⟨rfl, HB6⟩
end Go.Proofs.YtlpmammagebkfaaDoor.Cd
namespace Go.Proofs.YtlpmammagebkfaaDoor
open Go.ChangeShapes Go.WideShapes Go.ChangeAt Go.RowKit

theorem Tryd.own : ownKnob Tryd.prog.godebug = none := by kernel_rfl
theorem Tryd.laidOut : laidOutB Tryd.prog = true := by kernel_rfl
theorem Tryd.cells5 : Tryd.prog.cellsOf 5 = 1 := by kernel_rfl

theorem trodAll_below {H : Type} {enc : TypeId × Value → H} {P : Program} (hl : laidOutB P = true) {W W' : World} (hb : Below W.heap.size W W') :
    ∀ {ts : List TypeId} {vs : List Value} {ds : List (DataW H)} {ps : List MemPlace}, (ts.all fun t => P.readableRec t && decide (t < P.types.size)) = true →
      (∀ x ∈ ps, x.block < W.heap.size) → DataW.TrodAll enc P W 0 (fun _ => true) true ts vs ds ps → DataW.TrodAll enc P W' 0 (fun b => decide (b < W.heap.size)) true ts vs ds ps
  | [], [], [], _, _, _, h => h
  | t :: ts, v :: vs, d :: ds, ps, hr, hlt, h => by
    obtain ⟨p, q, h1, h2, e⟩ := h
    subst e
    simp only [List.all_cons, Bool.and_eq_true, decide_eq_true_eq] at hr
    exact ⟨p, q, Below.trod hl hr.1.1 hr.1.2 h1 hb (fun x hx => hlt x (by simp [hx])), trodAll_below hl hb hr.2 (fun x hx => hlt x (by simp [hx])) h2, rfl⟩
  | [], [], _ :: _, _, _, _, h => h.elim
  | [], _ :: _, _, _, _, _, h => by cases ‹List (DataW H)› <;> exact h.elim
  | _ :: _, [], _, _, _, _, h => by cases ‹List (DataW H)› <;> exact h.elim
  | _ :: _, _ :: _, [], _, _, _, h => h.elim

theorem trodAll_length {H : Type} {enc : TypeId × Value → H} {P : Program} {W : World} {base : Nat} {sp : Nat → Bool} {hd : Bool} : ∀ {ts : List TypeId} {vs : List Value} {ds : List (DataW H)} {ps : List MemPlace},
    DataW.TrodAll enc P W base sp hd ts vs ds ps → ds.length = ts.length
  | [], vs, ds, ps, h => by obtain ⟨_, rfl, _⟩ := trodAll_nil h; rfl
  | t :: ts, vs, ds, ps, h => by
    obtain ⟨v, vs', d, ds', p, q, _, rfl, _, _, h2⟩ := trodAll_cons h
    simp [trodAll_length h2]

theorem law_lift {C : Checked} {os : Os} {f : FuncId} {fn : Func} {s : ChangeSpec} {conds : List PathCond} {H : Type} {enc : TypeId × Value → H} {tb : TypeId}
    (own : ownKnob C.prog.godebug = none) (started : os.Started) (noInit : C.prog.inits.idxOf? f = none) (hfn : C.prog.funcs[f]? = some fn)
    (witness : ∃ (w : World) (tape : Tape) (i : Input), w.os = os ∧ (w.forCall tape i).Shaped C.prog ∧ i.vars = [] ∧ Input.okWide C.prog (w.forCall tape i) .any w.heap.size f i ∧
      s.pre6 enc C.prog fn conds false (w.forCall tape i).memory i.args ∧ ({} : Assume).holds C.prog (lone (Frame.enter C.prog f i.args .normal) [] (w.forCall tape i)))
    (hl : laidOutB C.prog = true) (hr : (fn.params.toList.all fun t => C.prog.readableRec t && decide (t < C.prog.types.size)) = true)
    (hv : s.vars = []) (hres : fn.resultTypes = #[tb]) (htb : C.prog.underlying tb = some .bool)
    (hspec : ∀ ds : List (DataW H), ds.length = fn.params.toList.length → s.fn H ds = { results := [.lit (.bool true)], args := ds })
    (walk : ∀ (W : World) (base : Nat) (args : Array Value) (ds : List (DataW H)) (p : List MemPlace),
      (∀ (j : Nat) t v, fn.params[j]? = some t → args[j]? = some v → Value.okWide C.prog W .any base t v) →
      DataW.TrodAll enc C.prog W 0 (fun _ => true) true fn.params.toList args.toList ds p → (∀ x ∈ p, x.block < W.heap.size) →
      conds.all (PathCond.test C.prog ⟨fn.params.toList, ds, s.plain.varTypes C.prog, []⟩) = true →
      (DataW.weightsEach C.prog fn.params.toList ds).all (· ≤ reachBytes) = true →
      Calls C.prog f args W fun e W' => e = .returned (.bool true) ∧ Below W.heap.size W W') :
    ReturnsInHanded {} C os f .any (s.pre6 enc C.prog fn conds false) (s.post enc C.prog fn false true false false) := by
  refine returnsInHanded_of_change_sized own started noInit hfn witness ?_
  intro W base args ds gs before hval hW hcnd hsz _
  have hW' := hW
  obtain ⟨p, q, hA, hV, rfl, hfz, hnd⟩ := hW
  rw [hv] at hV
  obtain ⟨rfl, rfl⟩ := trodVars_none hV
  have hlt : ∀ x ∈ p, x.block < W.heap.size := fun x hx => hW'.lt x (by simp [hx])
  have hvt : s.plain.varTypes C.prog = [] := by simp [ChangeSpec.plain, DataSpec.varTypes, hv]
  rw [List.append_nil, hvt, List.append_nil] at hsz
  refine (walk W base args ds p hval hA hlt hcnd hsz).mono fun e W' ⟨he, hb⟩ => ⟨_, he, ?_⟩
  have hs : s.fn H (ds ++ []) = { results := [.lit (.bool true)], args := ds } := by rw [List.append_nil]; exact hspec ds (trodAll_length hA)
  refine ⟨ds, [], p ++ [], [], p, [], hW', ?_, ?_, ?_, hb.frame _, fun h => by cases h⟩
  · rw [hs, hres]
    exact trodAll_mk1 (shut_bool htb _)
  · rw [hs]
    exact trodAll_below hl hb hr hlt hA
  · rw [hs, hv]
    rfl

theorem weights_cons {H : Type} {P : Program} {t : TypeId} {ts : List TypeId} {d : DataW H} {r : List (DataW H)} (h : (DataW.weightsEach P (t :: ts) (d :: r)).all (· ≤ reachBytes) = true) :
    (d.weights P t).all (· ≤ reachBytes) = true ∧ (DataW.weightsEach P ts r).all (· ≤ reachBytes) = true := by
  simpa [DataW.weightsEach, List.all_append] using h
/-- a byte slice that came in, whatever it is -/
theorem open_rbytes {H : Type} {enc : TypeId × Value → H} {P : Program} {W : World} {base : Nat} {t e : TypeId} {v : Value} {d : DataW H} {ps : List MemPlace}
    (ht : P.underlying t = some (.slice e)) (he : P.underlying e = some (.int .u8)) (hc : P.cellsOf e = 1) (hval : Value.okWide P W .any base t v) (h : DataW.Trod enc P W 0 (fun _ => true) true t v d ps) :
    ∃ (A : Option Addr) (n cap : Nat) (l : List UInt8), v = .slice A n cap ∧ Row W W.heap.size A n (bv l) ∧ n ≤ cap ∧ cap ≤ 9223372036854775807 ∧ (P.bytesOf e = 1 → (d.weights P t).all (· ≤ reachBytes) = true → n ≤ 140737488351232) := by
  obtain ⟨a0, len, cap, rfl⟩ := okWide_slice ht hval
  obtain ⟨fuel, hf⟩ := h
  rcases open_ints ht he hc hf with ⟨hcs, hx⟩ | ⟨a, len', cap', zs, hcs, _, hl, hm, hz, hx, hcell, hwz⟩
  · simp [Value.cells] at hcs
    obtain ⟨rfl, rfl, rfl⟩ := hcs
    exact ⟨none, 0, 0, [], rfl, Row.nil _ _ _, Nat.le_refl _, by omega, fun _ _ => by omega⟩
  · simp [Value.cells] at hcs
    obtain ⟨rfl, rfl, rfl⟩ := hcs
    unfold maxLen at hm
    simp at hz
    refine ⟨_, _, _, _, rfl, row_of_ints (by omega) hcell hwz ?_, hl, by omega, fun hb hw => ?_⟩
    rotate_left
    · injection hx with hx _
      subst hx
      simp only [DataW.weights, ht, hb, List.all_cons, Bool.and_eq_true, decide_eq_true_eq] at hw
      have := hw.1
      simp [lits, reachBytes] at this
      omega
    rcases Nat.eq_zero_or_pos len with h0 | h0
    · exact .inr h0
    · left
      have := block_lt_of_cell (hcell 0 (by omega))
      simpa [Addr.add] using this
theorem open_bytes {H : Type} {enc : TypeId × Value → H} {P : Program} {W : World} {base : Nat} {t e : TypeId} {v : Value} {d : DataW H} {ps : List MemPlace}
    (ht : P.underlying t = some (.slice e)) (he : P.underlying e = some (.int .u8)) (hc : P.cellsOf e = 1) (hval : Value.okWide P W .any base t v) (h : DataW.Trod enc P W 0 (fun _ => true) true t v d ps) :
    ∃ (A : Option Addr) (n cap : Nat) (l : List UInt8), v = .slice A n cap ∧ Row W W.heap.size A n (bv l) ∧ n ≤ cap ∧ cap ≤ 9223372036854775807 := by
  obtain ⟨A, n, cap, l, h1, h2, h3, h4, _⟩ := open_rbytes ht he hc hval h
  exact ⟨A, n, cap, l, h1, h2, h3, h4⟩
/-- a byte, a number of 32 bits, a number of 64 bits that came in -/
theorem open_byte {H : Type} {enc : TypeId × Value → H} {P : Program} {W : World} {base : Nat} {t : TypeId} {v : Value} {d : DataW H} {ps : List MemPlace}
    (ht : P.underlying t = some (.int .u8)) (hval : Value.okWide P W .any base t v) (h : DataW.Trod enc P W 0 (fun _ => true) true t v d ps) : ∃ x : UInt8, v = .int .u8 (x.toNat : Int) := by
  obtain ⟨x, rfl, _, _, wx⟩ := open_int ht hval h
  have hb : 0 ≤ x ∧ x ≤ 255 := by simpa [Lit.wf, IntKind.min, IntKind.max, IntKind.signed, IntKind.bits] using wx
  refine ⟨UInt8.ofNat x.toNat, ?_⟩
  congr 1
  simp
  omega
theorem open_u32 {H : Type} {enc : TypeId × Value → H} {P : Program} {W : World} {base : Nat} {t : TypeId} {v : Value} {d : DataW H} {ps : List MemPlace}
    (ht : P.underlying t = some (.int .u32)) (hval : Value.okWide P W .any base t v) (h : DataW.Trod enc P W 0 (fun _ => true) true t v d ps) : ∃ x : Nat, v = .int .u32 (x : Int) ∧ x < 2 ^ 32 := by
  obtain ⟨x, rfl, _, _, wx⟩ := open_int ht hval h
  have hb : 0 ≤ x ∧ x ≤ 4294967295 := by simpa [Lit.wf, IntKind.min, IntKind.max, IntKind.signed, IntKind.bits] using wx
  exact ⟨x.toNat, by congr 1; omega, by omega⟩
theorem open_i64 {H : Type} {enc : TypeId × Value → H} {P : Program} {W : World} {base : Nat} {t : TypeId} {v : Value} {d : DataW H} {ps : List MemPlace}
    (ht : P.underlying t = some (.int .i64)) (hval : Value.okWide P W .any base t v) (h : DataW.Trod enc P W 0 (fun _ => true) true t v d ps) : ∃ x : Int, v = .int .i64 x ∧ -9223372036854775808 ≤ x ∧ x ≤ 9223372036854775807 := by
  obtain ⟨x, rfl, _, _, wx⟩ := open_int ht hval h
  have hb : -9223372036854775808 ≤ x ∧ x ≤ 9223372036854775807 := by simpa [Lit.wf, IntKind.min, IntKind.max, IntKind.signed, IntKind.bits] using wx
  exact ⟨x, rfl, hb.1, hb.2⟩
/-- an array of bytes that came in, by value -/
theorem open_arr {H : Type} {enc : TypeId × Value → H} {P : Program} {W : World} {base k : Nat} {t e : TypeId} {v : Value} {d : DataW H} {ps : List MemPlace}
    (ht : P.underlying t = some (.array k e)) (he : P.underlying e = some (.int .u8)) (hc : P.cellsOf e = 1) (hct : P.cellsOf t = k) (hval : Value.okWide P W .any base t v) (h : DataW.Trod enc P W 0 (fun _ => true) true t v d ps) :
    ∃ bs : List UInt8, bs.length = k ∧ v = .agg (bv bs).toArray := by
  have hv := hval
  unfold Value.okWide at hv
  rw [ht] at hv
  obtain ⟨cs, rfl, hsz, _⟩ := hv
  rw [hct] at hsz
  obtain ⟨fuel, hf⟩ := h
  obtain ⟨xs, m, _, _, _, hxl, hx⟩ := DataW.trod_array ht hf
  have hcell : ∀ i (hi : i < k), ∃ b : UInt8, cs[i]? = some (.int .u8 (b.toNat : Int)) := by
    intro i hi
    have h1 := hx i hi
    rw [hc, Nat.mul_one] at h1
    have e1 : (Value.agg cs).cells.toList = cs.toList := rfl
    rw [e1, List.drop_eq_getElem_cons (by simp; omega), List.take_succ_cons, List.take_zero] at h1
    have h2 : xs[i]? = some xs[i] := List.getElem?_eq_getElem (by omega)
    rw [h2] at h1
    obtain ⟨n, hn, _, hw⟩ := DataW.trod_int he h1
    have hb : 0 ≤ n ∧ n ≤ 255 := by simpa [Lit.wf, IntKind.min, IntKind.max, IntKind.signed, IntKind.bits] using hw
    refine ⟨UInt8.ofNat n.toNat, ?_⟩
    rw [Array.getElem?_eq_getElem (by omega)]
    simp at hn
    rw [hn]
    congr 2
    simp
    omega
  refine ⟨cs.toList.map fun v => match v with | .int _ n => UInt8.ofNat n.toNat | _ => 0, by simp [hsz], ?_⟩
  congr 1
  apply Array.ext
  · simp [bv]
  · intro i h1 h2
    obtain ⟨b, hb⟩ := hcell i (by omega)
    rw [Array.getElem?_eq_getElem h1] at hb
    injection hb with hb
    simp [bv, hb]
end Go.Proofs.YtlpmammagebkfaaDoor
namespace Go.Proofs.YtlpmammagebkfaaDoor
open Go.ChangeShapes Go.WideShapes Go.ChangeAt Go.RowKit
theorem law_lift_laid {C : Checked} {os : Os} {f : FuncId} {fn : Func} {s : ChangeSpec} {conds : List PathCond} {H : Type} {enc : TypeId × Value → H} {tb : TypeId} {X : World → Array Value → Prop}
    (hX : ∀ (w w' : World) (args : Array Value), w.heap = w'.heap → X w args → X w' args)
    (own : ownKnob C.prog.godebug = none) (started : os.Started) (noInit : C.prog.inits.idxOf? f = none) (hfn : C.prog.funcs[f]? = some fn)
    (witness : ∃ (w : World) (tape : Tape) (i : Input), w.os = os ∧ (w.forCall tape i).Shaped C.prog ∧ i.vars = [] ∧ Input.okWide C.prog (w.forCall tape i) .any w.heap.size f i ∧
      ((s.pre enc C.prog fn conds false (w.forCall tape i).memory i.args ∧ X (w.forCall tape i).memory i.args) ∧ sizedMet enc C.prog fn (OpenSpec.ofChange s) false (w.forCall tape i).memory i.args) ∧ ({} : Assume).holds C.prog (lone (Frame.enter C.prog f i.args .normal) [] (w.forCall tape i)))
    (hl : laidOutB C.prog = true) (hr : (fn.params.toList.all fun t => C.prog.readableRec t && decide (t < C.prog.types.size)) = true)
    (hv : s.vars = []) (hres : fn.resultTypes = #[tb]) (htb : C.prog.underlying tb = some .bool)
    (hspec : ∀ ds : List (DataW H), ds.length = fn.params.toList.length → s.fn H ds = { results := [.lit (.bool true)], args := ds })
    (walk : ∀ (W : World) (base : Nat) (args : Array Value) (ds : List (DataW H)) (p : List MemPlace),
      (∀ (j : Nat) t v, fn.params[j]? = some t → args[j]? = some v → Value.okWide C.prog W .any base t v) →
      DataW.TrodAll enc C.prog W 0 (fun _ => true) true fn.params.toList args.toList ds p → (∀ x ∈ p, x.block < W.heap.size) →
      conds.all (PathCond.test C.prog ⟨fn.params.toList, ds, s.plain.varTypes C.prog, []⟩) = true →
      (DataW.weightsEach C.prog fn.params.toList ds).all (· ≤ reachBytes) = true → X W args →
      Calls C.prog f args W fun e W' => e = .returned (.bool true) ∧ Below W.heap.size W W') :
    ReturnsInHanded {} C os f .any (fun w args => (s.pre enc C.prog fn conds false w args ∧ X w args) ∧ sizedMet enc C.prog fn (OpenSpec.ofChange s) false w args) (s.post enc C.prog fn false true false false) := by
  refine returnsInHanded_of_change_and hX own started noInit hfn witness ?_
  intro W base args ds gs before hval hW hcnd hsz hx _
  have hW' := hW
  obtain ⟨p, q, hA, hV, rfl, hfz, hnd⟩ := hW
  rw [hv] at hV
  obtain ⟨rfl, rfl⟩ := trodVars_none hV
  have hlt : ∀ x ∈ p, x.block < W.heap.size := fun x hx => hW'.lt x (by simp [hx])
  have hvt : s.plain.varTypes C.prog = [] := by simp [ChangeSpec.plain, DataSpec.varTypes, hv]
  rw [List.append_nil, hvt, List.append_nil] at hsz
  refine (walk W base args ds p hval hA hlt hcnd hsz hx).mono fun e W' ⟨he, hb⟩ => ⟨_, he, ?_⟩
  have hs : s.fn H (ds ++ []) = { results := [.lit (.bool true)], args := ds } := by rw [List.append_nil]; exact hspec ds (trodAll_length hA)
  refine ⟨ds, [], p ++ [], [], p, [], hW', ?_, ?_, ?_, hb.frame _, fun h => by cases h⟩
  · rw [hs, hres]
    exact trodAll_mk1 (shut_bool htb _)
  · rw [hs]
    exact trodAll_below hl hb hr hlt hA
  · rw [hs, hv]
    rfl
end Go.Proofs.YtlpmammagebkfaaDoor
namespace Go.Proofs.YtlpmammagebkfaaDoor.Vc
open Go.RowKit Go.ChangeShapes Go.WideShapes Go.ChangeAt Go.WideMaps Go.WideElems
theorem laid_u8 {H : Type} {enc : TypeId × Value → H} {P : Program} {W : World} {base n : Nat} {t e : TypeId} {spare : Nat → Bool} {held : Bool} {fuel : Nat} {cs : List Value} {ds : List (DataW H)} {p : List MemPlace} (ht : P.underlying t = some (.array n e)) (he : P.underlying e = some (.int .u8)) (hc : P.cellsOf e = 1) (hct : P.cellsOf t = n) (ns : List Nat) (hds : ds = ns.map fun k : Nat => .lit (.int .u8 (k : Int)))
    (hn : ns.length = n) (h : DataW.trod enc P W base spare held fuel t cs = some (.agg ds, p)) : ∀ i, i < n → cs[i]? = some (.int .u8 (ns.getD i 0 : Int)) := by
  intro i hi
  obtain ⟨xs, m, _, hx, hl, hxl, hel⟩ := DataW.trod_array ht h
  rw [hct] at hl
  simp only [Prod.mk.injEq, DataW.agg.injEq] at hx
  have hx1 := hx.1
  have h1 := hel i hi
  rw [hc, Nat.mul_one, List.drop_eq_getElem_cons (by omega), List.take_succ_cons, List.take_zero] at h1
  have h2 : xs[i]? = some xs[i] := List.getElem?_eq_getElem (by omega)
  rw [h2] at h1
  obtain ⟨k, e1, e2, _⟩ := DataW.trod_int he h1
  have h3 : (xs.map (·.1))[i]? = some (.lit (.int .u8 k)) := by rw [List.getElem?_map, h2, Option.map_some, e2]
  rw [← hx1, hds, List.getElem?_map, List.getElem?_eq_getElem (by omega), Option.map_some] at h3
  injection h3 with h3
  injection h3 with h3
  injection h3 with _ h3
  rw [List.getElem?_eq_getElem (by omega), List.getD_eq_getElem?_getD, List.getElem?_eq_getElem (by omega), Option.getD_some, h3]
  injection e1 with e1
  rw [e1]
def LB : List (String × DataW Unit) := [("math/bits.deBruijn64tab", Rows.laid_math_bits_deBruijn64tab)]
theorem gBr : Tryd.prog.globalNamed "math/bits.deBruijn64tab" = some 0 := by kernel_rfl
theorem tBr : (Tryd.prog.globals[0]?).map (·.type) = some 92 := by kernel_rfl
theorem brNs : (Rows.laid_math_bits_deBruijn64tab : DataW Unit) = .agg (Lib.deBruijn64tab.map fun k : Nat => .lit (.int .u8 (k : Int))) := by rfl
theorem door_metB (os : Os) (args : Array Value) : laidMetH Tryd.prog LB ((World.doorLaid Tryd.prog 400 os).forCall (fun _ _ => 0) ⟨#[], args, []⟩).memory :=
  laidMetH_of_parts3 (fuel := 8) (laidMet_of_run' 8 (by kernel_rfl) (by kernel_rfl)) (by kernel_rfl) (by kernel_rfl)
theorem dtab_of_laid {W : World} (h : laidMetH Tryd.prog LB W) : DTab W := by
  rw [MakeChecks.laidMetH_plain _ _ _ (by kernel_rfl)] at h
  obtain ⟨ps, ⟨g0, t0, cs0, f0, p0, q0, hg0, ht0, hv0, hd0, _, _⟩, _, _⟩ := h
  obtain rfl := Option.some.inj (gBr.symm.trans hg0)
  obtain rfl := Option.some.inj (tBr.symm.trans ht0)
  rw [brNs] at hd0
  have c0 := laid_u8 Tryd.underlying92 Tryd.underlying5 (by kernel_rfl) (by kernel_rfl) Lib.deBruijn64tab rfl rfl hd0
  have k0 : ∀ i, i < 64 → W.cell? ⟨0, i, none⟩ = some (.int .u8 (Lib.deBruijn64tab.getD i 0 : Int)) := by
    intro i hi
    have := World.var?_cell hg0 hv0 i
    rw [this]
    have hc := c0 i hi
    simpa using hc
  exact ⟨block_lt_of_cell (k0 0 (by omega)), k0⟩
end Go.Proofs.YtlpmammagebkfaaDoor.Vc
namespace Go.Proofs.YtlpmammagebkfaaDoor
open Go.ChangeShapes Go.WideShapes Go.ChangeAt Go.RowKit
theorem open_cbytes {H : Type} {enc : TypeId × Value → H} {P : Program} {W : World} {t e : TypeId} {fuel : Nat} {cs : List Value} {x : DataW H × List MemPlace}
    (ht : P.underlying t = some (.slice e)) (he : P.underlying e = some (.int .u8)) (hc : P.cellsOf e = 1) (hf : DataW.trod enc P W 0 (fun _ => true) true fuel t cs = some x) :
    ∃ (A : Option Addr) (n cap : Nat) (l : List UInt8), cs = [.slice A n cap] ∧ Row W W.heap.size A n (bv l) ∧ n ≤ cap ∧ cap ≤ 9223372036854775807 := by
  rcases open_ints ht he hc hf with ⟨hcs, hx⟩ | ⟨a, len, cap, zs, hcs, _, hl, hm, hz, hx, hcell, hwz⟩
  · exact ⟨none, 0, 0, [], hcs, Row.nil _ _ _, Nat.le_refl _, by omega⟩
  · unfold maxLen at hm
    simp at hz
    refine ⟨_, _, _, _, hcs, row_of_ints (by omega) hcell hwz ?_, hl, by omega⟩
    rcases Nat.eq_zero_or_pos len with h0 | h0
    · exact .inr h0
    · left
      have := block_lt_of_cell (hcell 0 (by omega))
      simpa [Addr.add] using this
theorem open_cu32 {H : Type} {enc : TypeId × Value → H} {P : Program} {W : World} {t : TypeId} {fuel : Nat} {cs : List Value} {x : DataW H × List MemPlace}
    (ht : P.underlying t = some (.int .u32)) (hf : DataW.trod enc P W 0 (fun _ => true) true fuel t cs = some x) : ∃ n : Nat, cs = [.int .u32 (n : Int)] ∧ n < 4294967296 := by
  obtain ⟨x, hx, _, wx⟩ := DataW.trod_int ht hf
  have hb : 0 ≤ x ∧ x ≤ 4294967295 := by simpa [Lit.wf, IntKind.min, IntKind.max, IntKind.signed, IntKind.bits] using wx
  exact ⟨x.toNat, by rw [hx]; congr 2; omega, by omega⟩
theorem open_sym {H : Type} {enc : TypeId × Value → H} {P : Program} {W : World} {base : Nat} {t e : TypeId} {v : Value} {d : DataW H} {ps : List MemPlace} {f0 f1 f2 : Field}
    (ht : P.underlying t = some (.struct #[f0, f1, f2])) (ho : f0.offset = 0 ∧ f1.offset = 1 ∧ f2.offset = 2) (h0 : P.underlying f0.type = some (.int .u32)) (h1 : P.underlying f1.type = some (.int .u32)) (h2 : P.underlying f2.type = some (.slice e))
    (he : P.underlying e = some (.int .u8)) (hc : P.cellsOf e = 1) (hcs : P.cellsOf f0.type = 1 ∧ P.cellsOf f1.type = 1 ∧ P.cellsOf f2.type = 1) (hct : P.cellsOf t = 3)
    (hval : Value.okWide P W .any base t v) (h : DataW.Trod enc P W 0 (fun _ => true) true t v d ps) :
    ∃ (s id : Nat) (A : Option Addr) (n cap : Nat) (l : List UInt8), v = .agg #[.int .u32 (s : Int), .int .u32 (id : Int), .slice A n cap] ∧ s < 4294967296 ∧ id < 4294967296 ∧ Row W W.heap.size A n (bv l) ∧ n ≤ cap ∧ cap ≤ 9223372036854775807 := by
  have hv := hval
  unfold Value.okWide at hv
  rw [ht] at hv
  obtain ⟨cs, rfl, hsz, _⟩ := hv
  rw [hct] at hsz
  obtain ⟨fuel, hf⟩ := h
  obtain ⟨xs, m, _, _, _, hxl, hx⟩ := DataW.trod_struct ht hf
  obtain ⟨c0, c1, c2, rfl⟩ : ∃ c0 c1 c2, cs = #[c0, c1, c2] := by
    match cs, hsz with
    | ⟨[c0, c1, c2]⟩, _ => exact ⟨c0, c1, c2, rfl⟩
  have e1 : (Value.agg #[c0, c1, c2]).cells.toList = [c0, c1, c2] := rfl
  have hxl3 : xs.length = 3 := hxl
  have g0 := hx 0 f0 rfl
  have g1 := hx 1 f1 rfl
  have g2 := hx 2 f2 rfl
  rw [e1, ho.1, hcs.1, List.getElem?_eq_getElem (by omega)] at g0
  rw [e1, ho.2.1, hcs.2.1, List.getElem?_eq_getElem (by omega)] at g1
  rw [e1, ho.2.2, hcs.2.2, List.getElem?_eq_getElem (by omega)] at g2
  obtain ⟨s, hs, hsl⟩ := open_cu32 h0 g0
  obtain ⟨id, hi, hil⟩ := open_cu32 h1 g1
  obtain ⟨A, n, cap, l, hd, hrow, hn, hcap⟩ := open_cbytes h2 he hc g2
  simp at hs hi hd
  subst hs hi hd
  exact ⟨s, id, A, n, cap, l, rfl, hsl, hil, hrow, hn, hcap⟩
end Go.Proofs.YtlpmammagebkfaaDoor
namespace Go.Proofs.YtlpmammagebkfaaDoor
open Go.ChangeShapes Go.WideShapes Go.ChangeAt Go.RowKit
theorem open_ci64 {H : Type} {enc : TypeId × Value → H} {P : Program} {W : World} {t : TypeId} {fuel : Nat} {cs : List Value} {x : DataW H × List MemPlace}
    (ht : P.underlying t = some (.int .i64)) (hf : DataW.trod enc P W 0 (fun _ => true) true fuel t cs = some x) : ∃ n : Int, cs = [.int .i64 n] ∧ -9223372036854775808 ≤ n ∧ n ≤ 9223372036854775807 := by
  obtain ⟨x, hx, _, wx⟩ := DataW.trod_int ht hf
  have hb : -9223372036854775808 ≤ x ∧ x ≤ 9223372036854775807 := by simpa [Lit.wf, IntKind.min, IntKind.max, IntKind.signed, IntKind.bits] using wx
  exact ⟨x, hx, hb.1, hb.2⟩
theorem open_par {H : Type} {enc : TypeId × Value → H} {P : Program} {W : World} {base : Nat} {t : TypeId} {v : Value} {d : DataW H} {ps : List MemPlace} {f0 f1 f2 f3 : Field}
    (ht : P.underlying t = some (.struct #[f0, f1, f2, f3])) (ho : f0.offset = 0 ∧ f1.offset = 1 ∧ f2.offset = 2 ∧ f3.offset = 3) (h0 : P.underlying f0.type = some (.int .u32)) (h1 : P.underlying f1.type = some (.int .i64)) (h2 : P.underlying f2.type = some (.int .i64)) (h3 : P.underlying f3.type = some (.int .i64))
    (hcs : P.cellsOf f0.type = 1 ∧ P.cellsOf f1.type = 1 ∧ P.cellsOf f2.type = 1 ∧ P.cellsOf f3.type = 1) (hct : P.cellsOf t = 4)
    (hval : Value.okWide P W .any base t v) (h : DataW.Trod enc P W 0 (fun _ => true) true t v d ps) :
    ∃ (s : Nat) (K L Z : Int), v = .agg #[.int .u32 (s : Int), .int .i64 K, .int .i64 L, .int .i64 Z] ∧ s < 4294967296 ∧ (-9223372036854775808 ≤ K ∧ K ≤ 9223372036854775807) ∧ (-9223372036854775808 ≤ L ∧ L ≤ 9223372036854775807) ∧ (-9223372036854775808 ≤ Z ∧ Z ≤ 9223372036854775807) := by
  have hv := hval
  unfold Value.okWide at hv
  rw [ht] at hv
  obtain ⟨cs, rfl, hsz, _⟩ := hv
  rw [hct] at hsz
  obtain ⟨fuel, hf⟩ := h
  obtain ⟨xs, m, _, _, _, hxl, hx⟩ := DataW.trod_struct ht hf
  obtain ⟨c0, c1, c2, c3, rfl⟩ : ∃ c0 c1 c2 c3, cs = #[c0, c1, c2, c3] := by
    match cs, hsz with
    | ⟨[c0, c1, c2, c3]⟩, _ => exact ⟨c0, c1, c2, c3, rfl⟩
  have e1 : (Value.agg #[c0, c1, c2, c3]).cells.toList = [c0, c1, c2, c3] := rfl
  have hxl4 : xs.length = 4 := hxl
  have g0 := hx 0 f0 rfl
  have g1 := hx 1 f1 rfl
  have g2 := hx 2 f2 rfl
  have g3 := hx 3 f3 rfl
  rw [e1, ho.1, hcs.1, List.getElem?_eq_getElem (by omega)] at g0
  rw [e1, ho.2.1, hcs.2.1, List.getElem?_eq_getElem (by omega)] at g1
  rw [e1, ho.2.2.1, hcs.2.2.1, List.getElem?_eq_getElem (by omega)] at g2
  rw [e1, ho.2.2.2, hcs.2.2.2, List.getElem?_eq_getElem (by omega)] at g3
  obtain ⟨s, hs, hsl⟩ := open_cu32 h0 g0
  obtain ⟨K, hK, hKl⟩ := open_ci64 h1 g1
  obtain ⟨L, hL, hLl⟩ := open_ci64 h2 g2
  obtain ⟨Z, hZ, hZl⟩ := open_ci64 h3 g3
  simp at hs hK hL hZ
  subst hs hK hL hZ
  exact ⟨s, K, L, Z, rfl, hsl, hKl, hLl, hZl⟩
end Go.Proofs.YtlpmammagebkfaaDoor
