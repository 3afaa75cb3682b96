/- ManifestForms' walk. -/
import Derived.Test.YtcgcmfhidolohaaDoorRParQ
import Derived.Test.YtcgcmfhidolohaaDoorManAwQ
import Derived.Test.YtcgcmfhidolohaaDoorManPlainQ
namespace Go.Proofs.YtcgcmfhidolohaaDoor
open Go.RowKit Sh
open CrcM (bend bend_length)
theorem bv_bend3 (p : List UInt8) (i : Nat) (x : UInt8) : (bv p).set i (.int .u8 (bits .xor .u8 ((p.getD i 0).toNat : Int) (x.toNat : Int))) = bv (CrcM.bend p i x) := by
  rw [u8_xor_nat _ _ (CrcM.b_lt _) (CrcM.b_lt _), ← UInt8.toNat_xor]
  simp only [bv, CrcM.bend, List.map_set]
def plB (M : LMan) : List UInt8 := if M.may then M.bytes else []
def plE (M : LMan) : Int := if M.may then 0 else 1
def tgB (key : List UInt8) (M : LMan) : List UInt8 := if M.may then M.bytes ++ tagOf key M.bytes else []
/-- bytes are told, and whether they are there -/
def RB (l : List UInt8) (E : Int) (w : World) (e : Ending) (w' : World) : Prop := ∃ A n c, e = .returned (.tuple #[.slice A n c, .int .i64 E]) ∧ Hid (n = l.length) ∧ Hid (RowP w' (fun _ => True) A n (bv l)) ∧ Hid (n ≤ c ∧ c ≤ 9223372036854775807) ∧ Hid (Below w.heap.size w w')
theorem rb_nil {w w' : World} {e : Ending} (h : e = .returned (.tuple #[.slice none 0 0, .int .i64 1]) ∧ Below w.heap.size w w') : RB [] 1 w e w' :=
  ⟨none, 0, 0, h.1, Lib.hid rfl, Lib.hid (.nil _ _ _), Lib.hid ⟨Nat.le_refl _, by omega⟩, Lib.hid h.2⟩
section
variable {w : World} {P : Nat → Prop} {cs : Array Value} {M : LMan}
theorem plainQ (h : IsMan w P cs M) (hw : M.w32) {l : List UInt8} {E : Int} (hl : Hid (plB M = l)) (hE : Hid (plE M = E)) : Calls Tryd.prog 5 #[.agg cs] w (RB l E w) := by
  rw [← hl.out, ← hE.out]
  unfold plB plE
  cases hm : M.may with
  | false => exact (plainM_no h hm).mono fun e w' hx => rb_nil hx
  | true =>
    refine (plainM_yes h hm hw).mono fun e w' ⟨A, c, he, ho, hb⟩ => ⟨A, 44, c, he, Lib.hid ?_, Lib.hid (RowP.of_row (Row.of_own ho.out)), Lib.hid (own_cap ho.out), hb⟩
    show 44 = M.bytes.length
    rw [bytes_len, may_32 hm]
theorem rplainQ (h : IsMan w P cs M) (hw : M.w32) {l : List UInt8} {E : Int} (hl : Hid (plB M = l)) (hE : Hid (plE M = E)) : Calls Tryd.prog 6 #[.agg cs] w (RB l E w) := by
  rw [← hl.out, ← hE.out]
  unfold plB plE
  cases hm : M.may with
  | false => exact (rplainS_no h hm).mono fun e w' hx => rb_nil hx
  | true => exact (rplainS_yes h hm hw.1 hw.2).mono fun e w' ⟨A, n, c, he, hn, ho, hb⟩ => ⟨A, n, c, he, hn, Lib.hid (RowP.of_row (Row.of_own ho.out)), Lib.hid (own_cap ho.out), hb⟩
theorem tagLen (w : World) (A : Option Addr) (key b : List UInt8) (h : RowP w (fun _ => True) A 32 (bv (tagOf key b))) : (tagOf key b).length = 32 := by have := h.1; rwa [bv_length] at this
theorem bytesQ {A : Option Addr} {n c : Nat} {key : List UInt8} (ht : Tab w) (hk : Row w w.heap.size A n (bv key)) (hn : n ≤ 100000) (h : IsMan w P cs M) (hw : M.w32) {l : List UInt8} {E : Int} (hl : Hid (tgB key M = l)) (hE : Hid (plE M = E)) : Calls Tryd.prog 7 #[.slice A n c, .agg cs] w (RB l E w) := by
  rw [← hl.out, ← hE.out]
  unfold tgB plE
  cases hm : M.may with
  | false => exact (manBytes_no A n c h hm).mono fun e w' hx => rb_nil hx
  | true =>
    refine (manBytes_yes A n c key ht hk (by omega) h hm hw).mono fun e w' ⟨A', c', he, ho, hb⟩ => ⟨A', 76, c', he, Lib.hid ?_, Lib.hid (RowP.of_row (Row.of_own ho.out)), Lib.hid (own_cap ho.out), hb⟩
    have h1 := (Row.of_own ho.out).blen
    exact h1.symm
theorem rbytesQ {A : Option Addr} {n c : Nat} {key : List UInt8} (hk : Row w w.heap.size A n (bv key)) (hn : n ≤ 100000) (h : IsMan w P cs M) (hw : M.w32) {l : List UInt8} {E : Int} (hl : Hid (tgB key M = l)) (hE : Hid (plE M = E)) : Calls Tryd.prog 8 #[.slice A n c, .agg cs] w (RB l E w) := by
  rw [← hl.out, ← hE.out]
  unfold tgB plE
  cases hm : M.may with
  | false => exact (rbytes_no A n c h hm).mono fun e w' hx => rb_nil hx
  | true => exact (rbytes_yes A n c key hk hn h hm hw).mono fun e w' ⟨A', n', c', he, hn', ho, hb⟩ => ⟨A', n', c', he, hn', Lib.hid (RowP.of_row (Row.of_own ho.out)), Lib.hid (own_cap ho.out), hb⟩
theorem manMayQ (hm : IsMan w P cs M) : Calls Tryd.prog 9 #[.agg cs] w fun e w' => e = .returned (.bool M.may) ∧ Below w.heap.size w w' := by
  obtain ⟨A, c, rfl, _⟩ := hm
  exact manMay_any _ _ _ _ _ _ _ _ w
theorem rmanMayQ (hm : IsMan w P cs M) : Calls Tryd.prog 10 #[.agg cs] w fun e w' => e = .returned (.bool M.may) ∧ Below w.heap.size w w' := by
  obtain ⟨A, c, rfl, _⟩ := hm
  exact rmanMay_any _ _ _ _ _ _ _ _ w
theorem rsameM {Q : Nat → Prop} {ds : Array Value} {K : LMan} (hl : IsMan w P cs M) (hk : IsMan w Q ds K) :
    Calls Tryd.prog 12 #[.agg cs, .agg ds] w fun e w' => e = .returned (.bool (M.eqb K)) ∧ Below w.heap.size w w' := by
  obtain ⟨A, c, rfl, r⟩ := hl
  obtain ⟨A', c', rfl, r'⟩ := hk
  refine (rmanSame_any _ _ _ _ _ _ _ _ _ _ w.heap.size _ _ _ _ _ _ _ _ w r.row r'.row (Nat.le_refl _)).mono ?_
  rintro e w' ⟨b, rfl, hb, hb1⟩
  exact ⟨by rw [hb.out]; rfl, hb1⟩
theorem eqbM_same (M : LMan) : M.eqb M = true := by simp [LMan.eqb]
end
theorem tagLen32 (key b : List UInt8) : (tagOf key b).length = 32 := tagOf_length key b
set_option maxRecDepth 100000 in
set_option maxHeartbeats 25600000 in
theorem mforms_walk (cs ds : Array Value) (M K : LMan) (Ak : Option Addr) (nk ck : Nat) (lk : List UInt8) (Ar : Option Addr) (nr cr : Nat) (lr : List UInt8) (at_ : Int) (x : UInt8) (w : World) (ht : Tab w) (hs : IsMan w (fun _ => True) cs M) (hk : IsMan w (fun _ => True) ds K) (hw : M.w32) (hkr : Row w w.heap.size Ak nk (bv lk)) (hrr : Row w w.heap.size Ar nr (bv lr)) (hrc : nr ≤ cr) (hrm : cr ≤ 9223372036854775807) :
    Calls Tryd.prog 3 #[.agg cs, .agg ds, .slice Ak nk ck, .slice Ar nr cr, .int .i64 at_, .int .u8 (x.toNat : Int)] w fun e w' => e = .returned (.bool true) ∧ Below w.heap.size w w' := by
  obtain ⟨i0, hi, hz0, hz1, hz2⟩ := info_parts Tryd.info5
  have e0 := ((((Env.start w).addMan hs).addMan hk).alloc cs 25).alloc ds 25
  rw [show (w.alloc (.cells cs 25)).heap.size = w.heap.size + 1 by simp] at e0
  have E0 := Lib.hid e0
  have HT := Lib.hid ht
  have IN := Lib.hid hs.inf
  have IK := Lib.hid hk.inf
  have HW := Lib.hid hw
  have KR0 := Lib.hid (RowP.of_row hkr)
  have RR0 := Lib.hid (RowP.of_row hrr)
  have HCR := Lib.hid (And.intro hrc hrm)
  obtain ⟨MA, mc, hmc, -⟩ := hs
  obtain ⟨KA, kc, hkc, -⟩ := hk
  have m5 : Hid (cs[5]? = some (.slice MA M.h.length mc)) := Lib.hid (by rw [hmc]; rfl)
  have k5 : Hid (ds[5]? = some (.slice KA K.h.length kc)) := Lib.hid (by rw [hkc]; rfl)
  have c5 := (e0.cell (.tail _ (.head _)) 5).trans m5.out
  have d5 := (e0.cell (.head _) 5).trans k5.out
  clear e0 ht hw hkr hrr hrc hrm hmc hkc m5 k5
  go_enter Tryd.func3, Tryd.ntmps3
  go_upto_region 1 with fail
  generalize (w.alloc (.cells cs 25)).alloc (.cells ds 25) = w0 at *
  by_cases h1 : 100 < M.h.length
  · have q1 : decide (100 < (M.h.length : Int)) = true := by rw [decide_eq_true_eq]; omega
    clear h1
    go_wp2_with fail
    refine (awake14_any _ (HT.out.below E0.out.b HT.out.1)).mono ?_
    rintro e wz ⟨rfl, hbz⟩
    have hb := (E0.out.below hbz).b
    go_wp2_with fail
    go_ret
    exact ⟨rfl, hb⟩
  have q1 : decide (100 < (M.h.length : Int)) = false := by rw [decide_eq_false_iff_not]; omega
  by_cases h2 : 100 < K.h.length
  · have q2 : decide (100 < (K.h.length : Int)) = true := by rw [decide_eq_true_eq]; omega
    clear h2
    go_wp2_with fail
    refine (awake14_any _ (HT.out.below E0.out.b HT.out.1)).mono ?_
    rintro e wz ⟨rfl, hbz⟩
    have hb := (E0.out.below hbz).b
    go_wp2_with fail
    go_ret
    exact ⟨rfl, hb⟩
  have q2 : decide (100 < (K.h.length : Int)) = false := by rw [decide_eq_false_iff_not]; omega
  by_cases h3 : 200 < nk
  · have q3 : decide (200 < (nk : Int)) = true := by rw [decide_eq_true_eq]; omega
    clear h3
    go_wp2_with fail
    refine (awake14_any _ (HT.out.below E0.out.b HT.out.1)).mono ?_
    rintro e wz ⟨rfl, hbz⟩
    have hb := (E0.out.below hbz).b
    go_wp2_with fail
    go_ret
    exact ⟨rfl, hb⟩
  have q3 : decide (200 < (nk : Int)) = false := by rw [decide_eq_false_iff_not]; omega
  by_cases h4 : 200 < nr
  · have q4 : decide (200 < (nr : Int)) = true := by rw [decide_eq_true_eq]; omega
    clear h4
    go_wp2_with fail
    refine (awake14_any _ (HT.out.below E0.out.b HT.out.1)).mono ?_
    rintro e wz ⟨rfl, hbz⟩
    have hb := (E0.out.below hbz).b
    go_wp2_with fail
    go_ret
    exact ⟨rfl, hb⟩
  have q4 : decide (200 < (nr : Int)) = false := by rw [decide_eq_false_iff_not]; omega
  have HKN : Hid (nk ≤ 100000) := Lib.hid (by omega)
  have HRN : Hid (nr ≤ 200) := Lib.hid (by omega)
  clear h1 h2 h3 h4
  obtain ⟨PB, hPB⟩ : ∃ x, plB M = x := ⟨_, rfl⟩
  obtain ⟨E, hE⟩ : ∃ x, plE M = x := ⟨_, rfl⟩
  obtain ⟨TB, hTB⟩ : ∃ x, tgB lk M = x := ⟨_, rfl⟩
  obtain ⟨my, hmy⟩ : ∃ x, M.may = x := ⟨_, rfl⟩
  obtain ⟨sm, hsm⟩ : ∃ x, M.eqb K = x := ⟨_, rfl⟩
  have HPB := Lib.hid hPB
  have HEE := Lib.hid hE
  have HTB := Lib.hid hTB
  have HMY := Lib.hid hmy
  have HSM := Lib.hid hsm
  clear hPB hE hTB hmy hsm
  go_wp2_with ((with_reducible show wpList _ _ _ _ _ _); refine wpList_load_row (o := ⟨some 56, _, _, _, _, _⟩) rfl _ (.tmp 6) rfl (w.heap.size) rfl _ _ _ _ (E0.out.bx _ _ _ (.tail _ (.head _))) Tryd.underlying25 rfl IN.out ?_)
  clear c5 d5 q1 q2 q3 q4
  refine (plainQ (E0.out.mn _ _ (.tail _ (.head _))) HW.out HPB HEE).mono ?_
  rintro e w1 ⟨A1t, n1t, c1t, rfl, -, r1, -, hb1⟩
  have E1 := Lib.hid (E0.out.below hb1.out)
  go_wp2_with ((with_reducible show wpList _ _ _ _ _ _); refine wpList_load_row (o := ⟨some 61, _, _, _, _, _⟩) rfl _ (.tmp 6) rfl (w.heap.size) rfl _ _ _ _ (E1.out.bx _ _ _ (.tail _ (.head _))) Tryd.underlying25 rfl IN.out ?_)
  refine (rplainQ (E1.out.mn _ _ (.tail _ (.head _))) HW.out HPB HEE).mono ?_
  rintro e w2 ⟨Aq, nq, cq, rfl, -, r2, HCQ, hb2⟩
  have E2 := Lib.hid (E1.out.below hb2.out)
  have r1' := Lib.hid (r1.out.below hb2.out)
  clear r1 hb1 hb2
  go_wp2_with ((with_reducible show wpList _ _ _ _ _ _); refine wpList_load_row (o := ⟨some 67, _, _, _, _, _⟩) rfl _ (.tmp 6) rfl (w.heap.size) rfl _ _ _ _ (E2.out.bx _ _ _ (.tail _ (.head _))) Tryd.underlying25 rfl IN.out ?_)
  refine (bytesQ (HT.out.below E2.out.b HT.out.1) (KR0.out.below E2.out.b).row HKN.out (E2.out.mn _ _ (.tail _ (.head _))) HW.out HTB HEE).mono ?_
  rintro e w3 ⟨A3t, n3t, c3t, rfl, -, r3, -, hb3⟩
  have E3 := Lib.hid (E2.out.below hb3.out)
  have r1 := Lib.hid (r1'.out.below hb3.out)
  have r2' := Lib.hid (r2.out.below hb3.out)
  clear r1' r2 hb3
  go_wp2_with ((with_reducible show wpList _ _ _ _ _ _); refine wpList_load_row (o := ⟨some 73, _, _, _, _, _⟩) rfl _ (.tmp 6) rfl (w.heap.size) rfl _ _ _ _ (E3.out.bx _ _ _ (.tail _ (.head _))) Tryd.underlying25 rfl IN.out ?_)
  refine (rbytesQ (KR0.out.below E3.out.b).row HKN.out (E3.out.mn _ _ (.tail _ (.head _))) HW.out HTB HEE).mono ?_
  rintro e wC ⟨A4t, n4t, c4t, rfl, HN4, R4, -, hb4⟩
  have E4 := Lib.hid (E3.out.below hb4.out)
  have R1 := Lib.hid (r1.out.below hb4.out)
  have R2 := Lib.hid (r2'.out.below hb4.out)
  have R3 := Lib.hid (r3.out.below hb4.out)
  have KR := Lib.hid (KR0.out.below E4.out.b)
  have RR := Lib.hid (RR0.out.below E4.out.b)
  clear r1 r2' r3 hb4 E0 E1 E2 E3 KR0 RR0
  go_upto_region 7 with fail
  have HT4 : Hid (n4t ≤ 200) := Lib.hid (by
    have h4 := HN4.out
    rw [← HTB.out] at h4
    unfold tgB at h4
    split at h4
    · rename_i hmm
      have hr := R4.out.1
      rw [List.length_append, bytes_len, may_32 hmm] at h4
      have h5 := tagLen32 lk M.bytes
      omega
    · simp at h4; omega)
  have HE : Hid (∀ W, Below wC.heap.size wC W → Env w W [(w.heap.size + 1, ds, 25), (w.heap.size, cs, 25)] [] [(ds, K), (cs, M)]) := Lib.hid (fun W hW => E4.out.below hW)
  have V1 : Hid (∀ W, Below wC.heap.size wC W → (convert 23 9 (.slice A1t n1t c1t)).run Tryd.prog W = .ok (.string ⟨PB.toArray⟩) W) := Lib.hid (fun W hW => run_string_row (P := Tryd.prog) (R1.out.below hW).row c1t 23 9 5 Tryd.underlying23 Tryd.underlying5 Tryd.underlying9)
  have V2 : Hid (∀ W, Below wC.heap.size wC W → (convert 23 9 (.slice Aq nq cq)).run Tryd.prog W = .ok (.string ⟨PB.toArray⟩) W) := Lib.hid (fun W hW => run_string_row (P := Tryd.prog) (R2.out.below hW).row cq 23 9 5 Tryd.underlying23 Tryd.underlying5 Tryd.underlying9)
  have V3 : Hid (∀ W, Below wC.heap.size wC W → (convert 23 9 (.slice A3t n3t c3t)).run Tryd.prog W = .ok (.string ⟨TB.toArray⟩) W) := Lib.hid (fun W hW => run_string_row (P := Tryd.prog) (R3.out.below hW).row c3t 23 9 5 Tryd.underlying23 Tryd.underlying5 Tryd.underlying9)
  have V4 : Hid (∀ W, Below wC.heap.size wC W → (convert 23 9 (.slice A4t n4t c4t)).run Tryd.prog W = .ok (.string ⟨TB.toArray⟩) W) := Lib.hid (fun W hW => run_string_row (P := Tryd.prog) (R4.out.below hW).row c4t 23 9 5 Tryd.underlying23 Tryd.underlying5 Tryd.underlying9)
  have nM : (my != my) = false := by simp
  have nS : (sm != sm) = false := by simp
  have nE : (E != E) = false := by simp
  clear R1 R3 E4
  refine wp_region_noPanic ?_
  refine wp_region_held_drew (S := (fun W => Below (wC.heap.size) wC W)) (by kernel_rfl) (Below.refl _ _).drew (fun hH0 => ?_)
  have hH0 : Below (wC.heap.size) wC wC.drew := hH0
  generalize wC.drew = wd3000 at *
  refine wpAnyH_take (i := 0) (oi := { dst := some 77, op := Op.load 25 (Operand.tmp 6), type := 25, pos := "law.go:32", after := #[], guard := none }) (v := .agg cs) rfl (by kernel_rfl) (by kernel_rfl) (by kernel_rfl) (fun _ _ _ h => h) (yields_row (by rfl) _ _ rfl (w.heap.size) rfl _ _ _ _ (fun W hW => (HE.out W hW).bx _ _ _ (.tail _ (.head _))) Tryd.underlying25 rfl IN.out) hH0 ?tkr3001
  try simp only [Act.put, List.setIfInBounds_toArray, List.set_cons_zero, List.set_cons_succ]
  refine wpAnyH_take (i := 2) (oi := { dst := some 79, op := Op.load 25 (Operand.tmp 6), type := 25, pos := "law.go:32", after := #[], guard := none }) (v := .agg cs) rfl (by kernel_rfl) (by kernel_rfl) (by kernel_rfl) (fun _ _ _ h => h) (yields_row (by rfl) _ _ rfl (w.heap.size) rfl _ _ _ _ (fun W hW => (HE.out W hW).bx _ _ _ (.tail _ (.head _))) Tryd.underlying25 rfl IN.out) hH0 ?tkr3002
  try simp only [Act.put, List.setIfInBounds_toArray, List.set_cons_zero, List.set_cons_succ]
  refine wpAnyH_ready (rs := [1]) (by kernel_rfl) (by simp) ?_
  refine AllReadyH.cons (o := { dst := some 78, op := Op.call { callee := Callee.value (Operand.func 9), args := #[Operand.tmp 77], argTypes := #[25] }, type := 4, pos := "law.go:32", after := #[{ on := 0, ground := Ground.data }], guard := none }) rfl (fun K hK => ?_) AllReadyH.nil
  go_simp
  refine (manMayQ ((HE.out wd3000 (hH0)).mn _ _ (.tail _ (.head _)))).mono ?_
  rintro e' wn3003 ⟨rfl, hb3003⟩
  rw [HMY.out]
  go_simp
  have hS3003 : Below (wC.heap.size) wC wn3003 := (hH0).trans (hb3003.mono (hH0).size)
  refine hK.out _ _ hS3003 (fun hH3003 => ?_)
  have hH3003 : Below (wC.heap.size) wC wn3003 := hH3003
  clear hK K hS3003
  try simp only [Act.put, List.setIfInBounds_toArray, List.set_cons_zero, List.set_cons_succ]
  refine wpAnyH_ready (rs := [3]) (by kernel_rfl) (by simp) ?_
  refine AllReadyH.cons (o := { dst := some 80, op := Op.call { callee := Callee.value (Operand.func 10), args := #[Operand.tmp 79], argTypes := #[25] }, type := 4, pos := "law.go:32", after := #[{ on := 2, ground := Ground.data }, { on := 1, ground := Ground.chain }], guard := none }) rfl (fun K hK => ?_) AllReadyH.nil
  go_simp
  refine (rmanMayQ ((HE.out wn3003 (hH3003)).mn _ _ (.tail _ (.head _)))).mono ?_
  rintro e' wn3004 ⟨rfl, hb3004⟩
  rw [HMY.out]
  go_simp
  have hS3004 : Below (wC.heap.size) wC wn3004 := (hH3003).trans (hb3004.mono (hH3003).size)
  refine hK.out _ _ hS3004 (fun hH3004 => ?_)
  have hH3004 : Below (wC.heap.size) wC wn3004 := hH3004
  clear hK K hS3004
  try simp only [Act.put, List.setIfInBounds_toArray, List.set_cons_zero, List.set_cons_succ]
  refine wpAnyH_take (i := 4) (oi := { dst := some 81, op := Op.binOp BinOp.neq 4 (Operand.tmp 78) (Operand.tmp 80) 4, type := 4, pos := "law.go:32", after := #[{ on := 1, ground := Ground.data }, { on := 3, ground := Ground.data }], guard := none }) (v := ?tkv3005) rfl (by kernel_rfl) (by kernel_rfl) (by kernel_rfl) (fun _ _ _ h => h) (Or.inl ⟨by rfl, ?tky3005⟩) hH3004 ?tkr3005
  case tky3005 => (intro w' hSw; clear hSw; go_simp; try with_reducible rfl)
  try simp only [Act.put, List.setIfInBounds_toArray, List.set_cons_zero, List.set_cons_succ]
  refine wpAnyH_take (i := 5) (oi := { dst := some 82, op := Op.move (Operand.tmp 81), type := 4, pos := "law.go:32", after := #[{ on := 4, ground := Ground.data }, { on := 3, ground := Ground.chain }], guard := none }) (v := ?tkv3006) rfl (by kernel_rfl) (by kernel_rfl) (by kernel_rfl) (fun _ _ _ h => h) (Or.inl ⟨by rfl, ?tky3006⟩) hH3004 ?tkr3006
  case tky3006 => (intro w' hSw; clear hSw; go_simp; try with_reducible rfl)
  try simp only [Act.put, List.setIfInBounds_toArray, List.set_cons_zero, List.set_cons_succ]
  refine wpAnyH_take (i := 6) (oi := { dst := some 83, op := Op.load 25 (Operand.tmp 6), type := 25, pos := "law.go:32", after := #[{ on := 5, ground := Ground.guard }], guard := some (5, false) }) (v := .agg cs) rfl (by kernel_rfl) (by kernel_rfl) (by kernel_rfl) (fun _ _ _ h => h) (yields_row (by rfl) _ _ rfl (w.heap.size) rfl _ _ _ _ (fun W hW => (HE.out W hW).bx _ _ _ (.tail _ (.head _))) Tryd.underlying25 rfl IN.out) hH3004 ?tkr3007
  try simp only [Act.put, List.setIfInBounds_toArray, List.set_cons_zero, List.set_cons_succ]
  refine wpAnyH_take (i := 7) (oi := { dst := some 84, op := Op.load 25 (Operand.tmp 7), type := 25, pos := "law.go:32", after := #[{ on := 5, ground := Ground.guard }], guard := some (5, false) }) (v := .agg ds) rfl (by kernel_rfl) (by kernel_rfl) (by kernel_rfl) (fun _ _ _ h => h) (yields_row (by rfl) _ _ rfl ((w.heap.size + 1)) rfl _ _ _ _ (fun W hW => (HE.out W hW).bx _ _ _ (.head _)) Tryd.underlying25 rfl IK.out) hH3004 ?tkr3008
  try simp only [Act.put, List.setIfInBounds_toArray, List.set_cons_zero, List.set_cons_succ]
  refine wpAnyH_take (i := 9) (oi := { dst := some 86, op := Op.load 25 (Operand.tmp 6), type := 25, pos := "law.go:32", after := #[{ on := 5, ground := Ground.guard }], guard := some (5, false) }) (v := .agg cs) rfl (by kernel_rfl) (by kernel_rfl) (by kernel_rfl) (fun _ _ _ h => h) (yields_row (by rfl) _ _ rfl (w.heap.size) rfl _ _ _ _ (fun W hW => (HE.out W hW).bx _ _ _ (.tail _ (.head _))) Tryd.underlying25 rfl IN.out) hH3004 ?tkr3009
  try simp only [Act.put, List.setIfInBounds_toArray, List.set_cons_zero, List.set_cons_succ]
  refine wpAnyH_take (i := 10) (oi := { dst := some 87, op := Op.load 25 (Operand.tmp 7), type := 25, pos := "law.go:32", after := #[{ on := 5, ground := Ground.guard }], guard := some (5, false) }) (v := .agg ds) rfl (by kernel_rfl) (by kernel_rfl) (by kernel_rfl) (fun _ _ _ h => h) (yields_row (by rfl) _ _ rfl ((w.heap.size + 1)) rfl _ _ _ _ (fun W hW => (HE.out W hW).bx _ _ _ (.head _)) Tryd.underlying25 rfl IK.out) hH3004 ?tkr3010
  try simp only [Act.put, List.setIfInBounds_toArray, List.set_cons_zero, List.set_cons_succ]
  refine wpAnyH_ready (rs := [8]) (by kernel_rfl) (by simp) ?_
  refine AllReadyH.cons (o := { dst := some 85, op := Op.call { callee := Callee.value (Operand.func 11), args := #[Operand.tmp 83, Operand.tmp 84], argTypes := #[25, 25] }, type := 4, pos := "law.go:32", after := #[{ on := 6, ground := Ground.data }, { on := 7, ground := Ground.data }, { on := 5, ground := Ground.chain }, { on := 5, ground := Ground.guard }], guard := some (5, false) }) rfl (fun K hK => ?_) AllReadyH.nil
  go_simp
  refine (sameM ((HE.out wn3004 (hH3004)).mn _ _ (.tail _ (.head _))) ((HE.out wn3004 (hH3004)).mn _ _ (.head _))).mono ?_
  rintro e' wn3011 ⟨rfl, hb3011⟩
  rw [HSM.out]
  go_simp
  have hS3011 : Below (wC.heap.size) wC wn3011 := (hH3004).trans (hb3011.mono (hH3004).size)
  refine hK.out _ _ hS3011 (fun hH3011 => ?_)
  have hH3011 : Below (wC.heap.size) wC wn3011 := hH3011
  clear hK K hS3011
  try simp only [Act.put, List.setIfInBounds_toArray, List.set_cons_zero, List.set_cons_succ]
  refine wpAnyH_ready (rs := [11]) (by kernel_rfl) (by simp) ?_
  refine AllReadyH.cons (o := { dst := some 88, op := Op.call { callee := Callee.value (Operand.func 12), args := #[Operand.tmp 86, Operand.tmp 87], argTypes := #[25, 25] }, type := 4, pos := "law.go:32", after := #[{ on := 9, ground := Ground.data }, { on := 10, ground := Ground.data }, { on := 8, ground := Ground.chain }, { on := 5, ground := Ground.guard }], guard := some (5, false) }) rfl (fun K hK => ?_) AllReadyH.nil
  go_simp
  refine (rsameM ((HE.out wn3011 (hH3011)).mn _ _ (.tail _ (.head _))) ((HE.out wn3011 (hH3011)).mn _ _ (.head _))).mono ?_
  rintro e' wn3012 ⟨rfl, hb3012⟩
  rw [HSM.out]
  go_simp
  have hS3012 : Below (wC.heap.size) wC wn3012 := (hH3011).trans (hb3012.mono (hH3011).size)
  refine hK.out _ _ hS3012 (fun hH3012 => ?_)
  have hH3012 : Below (wC.heap.size) wC wn3012 := hH3012
  clear hK K hS3012
  try simp only [Act.put, List.setIfInBounds_toArray, List.set_cons_zero, List.set_cons_succ]
  refine wpAnyH_take (i := 12) (oi := { dst := some 89, op := Op.binOp BinOp.neq 4 (Operand.tmp 85) (Operand.tmp 88) 4, type := 4, pos := "law.go:32", after := #[{ on := 8, ground := Ground.data }, { on := 11, ground := Ground.data }, { on := 5, ground := Ground.guard }], guard := some (5, false) }) (v := ?tkv3013) rfl (by kernel_rfl) (by kernel_rfl) (by kernel_rfl) (fun _ _ _ h => h) (Or.inl ⟨by rfl, ?tky3013⟩) hH3012 ?tkr3013
  case tky3013 => (intro w' hSw; clear hSw; go_simp; try with_reducible rfl)
  try simp only [Act.put, List.setIfInBounds_toArray, List.set_cons_zero, List.set_cons_succ]
  refine wpAnyH_take (i := 13) (oi := { dst := some 90, op := Op.pick (Operand.tmp 82) (Operand.const (Value.bool true)) (Operand.tmp 89), type := 4, pos := "law.go:32", after := #[{ on := 5, ground := Ground.data }, { on := 12, ground := Ground.data }], guard := none }) (v := ?tkv3014) rfl (by kernel_rfl) (by kernel_rfl) (by kernel_rfl) (fun _ _ _ h => h) (Or.inl ⟨by rfl, ?tky3014⟩) hH3012 ?tkr3014
  case tky3014 => (intro w' hSw; clear hSw; go_simp; try with_reducible rfl)
  try simp only [Act.put, List.setIfInBounds_toArray, List.set_cons_zero, List.set_cons_succ]
  refine wpAnyH_take (i := 14) (oi := { dst := some 91, op := Op.move (Operand.tmp 90), type := 4, pos := "law.go:32", after := #[{ on := 13, ground := Ground.data }, { on := 11, ground := Ground.chain }], guard := none }) (v := ?tkv3015) rfl (by kernel_rfl) (by kernel_rfl) (by kernel_rfl) (fun _ _ _ h => h) (Or.inl ⟨by rfl, ?tky3015⟩) hH3012 ?tkr3015
  case tky3015 => (intro w' hSw; clear hSw; go_simp; try with_reducible rfl)
  try simp only [Act.put, List.setIfInBounds_toArray, List.set_cons_zero, List.set_cons_succ]
  refine wpAnyH_take (i := 15) (oi := { dst := some 92, op := Op.move (Operand.tmp 13), type := 23, pos := "law.go:32", after := #[{ on := 14, ground := Ground.guard }], guard := some (14, false) }) (v := ?tkv3016) rfl (by kernel_rfl) (by kernel_rfl) (by kernel_rfl) (fun _ _ _ h => h) (Or.inl ⟨by rfl, ?tky3016⟩) hH3012 ?tkr3016
  case tky3016 => (intro w' hSw; clear hSw; go_simp; try with_reducible rfl)
  try simp only [Act.put, List.setIfInBounds_toArray, List.set_cons_zero, List.set_cons_succ]
  refine wpAnyH_take (i := 16) (oi := { dst := some 93, op := Op.convert 23 9 (Operand.tmp 92), type := 9, pos := "law.go:32", after := #[{ on := 15, ground := Ground.data }, { on := 14, ground := Ground.guard }], guard := some (14, false) }) (v := ?tkv3017) rfl (by kernel_rfl) (by kernel_rfl) (by kernel_rfl) (fun _ _ _ h => h) (Or.inl ⟨by rfl, ?tky3017⟩) hH3012 ?tkr3017
  case tky3017 => (intro w' hSw; have z0 := V1.out _ hSw; have z1 := V2.out _ hSw; have z2 := V3.out _ hSw; have z3 := V4.out _ hSw; clear hSw; go_simp; try with_reducible rfl)
  try simp only [Act.put, List.setIfInBounds_toArray, List.set_cons_zero, List.set_cons_succ]
  refine wpAnyH_take (i := 17) (oi := { dst := some 94, op := Op.move (Operand.tmp 15), type := 23, pos := "law.go:32", after := #[{ on := 14, ground := Ground.guard }], guard := some (14, false) }) (v := ?tkv3018) rfl (by kernel_rfl) (by kernel_rfl) (by kernel_rfl) (fun _ _ _ h => h) (Or.inl ⟨by rfl, ?tky3018⟩) hH3012 ?tkr3018
  case tky3018 => (intro w' hSw; clear hSw; go_simp; try with_reducible rfl)
  try simp only [Act.put, List.setIfInBounds_toArray, List.set_cons_zero, List.set_cons_succ]
  refine wpAnyH_take (i := 18) (oi := { dst := some 95, op := Op.convert 23 9 (Operand.tmp 94), type := 9, pos := "law.go:32", after := #[{ on := 17, ground := Ground.data }, { on := 14, ground := Ground.guard }], guard := some (14, false) }) (v := ?tkv3019) rfl (by kernel_rfl) (by kernel_rfl) (by kernel_rfl) (fun _ _ _ h => h) (Or.inl ⟨by rfl, ?tky3019⟩) hH3012 ?tkr3019
  case tky3019 => (intro w' hSw; have z0 := V1.out _ hSw; have z1 := V2.out _ hSw; have z2 := V3.out _ hSw; have z3 := V4.out _ hSw; clear hSw; go_simp; try with_reducible rfl)
  try simp only [Act.put, List.setIfInBounds_toArray, List.set_cons_zero, List.set_cons_succ]
  refine wpAnyH_take (i := 19) (oi := { dst := some 96, op := Op.binOp BinOp.neq 9 (Operand.tmp 93) (Operand.tmp 95) 9, type := 4, pos := "law.go:32", after := #[{ on := 16, ground := Ground.data }, { on := 18, ground := Ground.data }, { on := 14, ground := Ground.guard }], guard := some (14, false) }) (v := ?tkv3020) rfl (by kernel_rfl) (by kernel_rfl) (by kernel_rfl) (fun _ _ _ h => h) (Or.inl ⟨by rfl, ?tky3020⟩) hH3012 ?tkr3020
  case tky3020 => (intro w' hSw; clear hSw; go_simp; try with_reducible rfl)
  try simp only [Act.put, List.setIfInBounds_toArray, List.set_cons_zero, List.set_cons_succ]
  refine wpAnyH_take (i := 20) (oi := { dst := some 97, op := Op.pick (Operand.tmp 91) (Operand.const (Value.bool true)) (Operand.tmp 96), type := 4, pos := "law.go:32", after := #[{ on := 14, ground := Ground.data }, { on := 19, ground := Ground.data }], guard := none }) (v := ?tkv3021) rfl (by kernel_rfl) (by kernel_rfl) (by kernel_rfl) (fun _ _ _ h => h) (Or.inl ⟨by rfl, ?tky3021⟩) hH3012 ?tkr3021
  case tky3021 => (intro w' hSw; clear hSw; go_simp; try with_reducible rfl)
  try simp only [Act.put, List.setIfInBounds_toArray, List.set_cons_zero, List.set_cons_succ]
  refine wpAnyH_take (i := 21) (oi := { dst := some 98, op := Op.move (Operand.tmp 97), type := 4, pos := "law.go:32", after := #[{ on := 20, ground := Ground.data }, { on := 14, ground := Ground.chain }], guard := none }) (v := ?tkv3022) rfl (by kernel_rfl) (by kernel_rfl) (by kernel_rfl) (fun _ _ _ h => h) (Or.inl ⟨by rfl, ?tky3022⟩) hH3012 ?tkr3022
  case tky3022 => (intro w' hSw; clear hSw; go_simp; try with_reducible rfl)
  try simp only [Act.put, List.setIfInBounds_toArray, List.set_cons_zero, List.set_cons_succ]
  refine wpAnyH_take (i := 22) (oi := { dst := some 99, op := Op.move (Operand.tmp 14), type := 27, pos := "law.go:32", after := #[{ on := 21, ground := Ground.guard }], guard := some (21, false) }) (v := ?tkv3023) rfl (by kernel_rfl) (by kernel_rfl) (by kernel_rfl) (fun _ _ _ h => h) (Or.inl ⟨by rfl, ?tky3023⟩) hH3012 ?tkr3023
  case tky3023 => (intro w' hSw; clear hSw; go_simp; try with_reducible rfl)
  try simp only [Act.put, List.setIfInBounds_toArray, List.set_cons_zero, List.set_cons_succ]
  refine wpAnyH_take (i := 23) (oi := { dst := some 100, op := Op.move (Operand.tmp 16), type := 27, pos := "law.go:32", after := #[{ on := 21, ground := Ground.guard }], guard := some (21, false) }) (v := ?tkv3024) rfl (by kernel_rfl) (by kernel_rfl) (by kernel_rfl) (fun _ _ _ h => h) (Or.inl ⟨by rfl, ?tky3024⟩) hH3012 ?tkr3024
  case tky3024 => (intro w' hSw; clear hSw; go_simp; try with_reducible rfl)
  try simp only [Act.put, List.setIfInBounds_toArray, List.set_cons_zero, List.set_cons_succ]
  refine wpAnyH_take (i := 24) (oi := { dst := some 101, op := Op.binOp BinOp.neq 27 (Operand.tmp 99) (Operand.tmp 100) 27, type := 4, pos := "law.go:32", after := #[{ on := 22, ground := Ground.data }, { on := 23, ground := Ground.data }, { on := 21, ground := Ground.guard }], guard := some (21, false) }) (v := ?tkv3025) rfl (by kernel_rfl) (by kernel_rfl) (by kernel_rfl) (fun _ _ _ h => h) (Or.inl ⟨by rfl, ?tky3025⟩) hH3012 ?tkr3025
  case tky3025 => (intro w' hSw; clear hSw; go_simp; try with_reducible rfl)
  try simp only [Act.put, List.setIfInBounds_toArray, List.set_cons_zero, List.set_cons_succ]
  refine wpAnyH_take (i := 25) (oi := { dst := some 102, op := Op.pick (Operand.tmp 98) (Operand.const (Value.bool true)) (Operand.tmp 101), type := 4, pos := "law.go:32", after := #[{ on := 21, ground := Ground.data }, { on := 24, ground := Ground.data }], guard := none }) (v := ?tkv3026) rfl (by kernel_rfl) (by kernel_rfl) (by kernel_rfl) (fun _ _ _ h => h) (Or.inl ⟨by rfl, ?tky3026⟩) hH3012 ?tkr3026
  case tky3026 => (intro w' hSw; clear hSw; go_simp; try with_reducible rfl)
  try simp only [Act.put, List.setIfInBounds_toArray, List.set_cons_zero, List.set_cons_succ]
  refine wpAnyH_take (i := 26) (oi := { dst := some 103, op := Op.move (Operand.tmp 102), type := 4, pos := "law.go:32", after := #[{ on := 25, ground := Ground.data }, { on := 21, ground := Ground.chain }], guard := none }) (v := ?tkv3027) rfl (by kernel_rfl) (by kernel_rfl) (by kernel_rfl) (fun _ _ _ h => h) (Or.inl ⟨by rfl, ?tky3027⟩) hH3012 ?tkr3027
  case tky3027 => (intro w' hSw; clear hSw; go_simp; try with_reducible rfl)
  try simp only [Act.put, List.setIfInBounds_toArray, List.set_cons_zero, List.set_cons_succ]
  refine wpAnyH_take (i := 27) (oi := { dst := some 104, op := Op.move (Operand.tmp 17), type := 23, pos := "law.go:32", after := #[{ on := 26, ground := Ground.guard }], guard := some (26, false) }) (v := ?tkv3028) rfl (by kernel_rfl) (by kernel_rfl) (by kernel_rfl) (fun _ _ _ h => h) (Or.inl ⟨by rfl, ?tky3028⟩) hH3012 ?tkr3028
  case tky3028 => (intro w' hSw; clear hSw; go_simp; try with_reducible rfl)
  try simp only [Act.put, List.setIfInBounds_toArray, List.set_cons_zero, List.set_cons_succ]
  refine wpAnyH_take (i := 28) (oi := { dst := some 105, op := Op.convert 23 9 (Operand.tmp 104), type := 9, pos := "law.go:32", after := #[{ on := 27, ground := Ground.data }, { on := 26, ground := Ground.guard }], guard := some (26, false) }) (v := ?tkv3029) rfl (by kernel_rfl) (by kernel_rfl) (by kernel_rfl) (fun _ _ _ h => h) (Or.inl ⟨by rfl, ?tky3029⟩) hH3012 ?tkr3029
  case tky3029 => (intro w' hSw; have z0 := V1.out _ hSw; have z1 := V2.out _ hSw; have z2 := V3.out _ hSw; have z3 := V4.out _ hSw; clear hSw; go_simp; try with_reducible rfl)
  try simp only [Act.put, List.setIfInBounds_toArray, List.set_cons_zero, List.set_cons_succ]
  refine wpAnyH_take (i := 29) (oi := { dst := some 106, op := Op.move (Operand.tmp 19), type := 23, pos := "law.go:32", after := #[{ on := 26, ground := Ground.guard }], guard := some (26, false) }) (v := ?tkv3030) rfl (by kernel_rfl) (by kernel_rfl) (by kernel_rfl) (fun _ _ _ h => h) (Or.inl ⟨by rfl, ?tky3030⟩) hH3012 ?tkr3030
  case tky3030 => (intro w' hSw; clear hSw; go_simp; try with_reducible rfl)
  try simp only [Act.put, List.setIfInBounds_toArray, List.set_cons_zero, List.set_cons_succ]
  refine wpAnyH_take (i := 30) (oi := { dst := some 107, op := Op.convert 23 9 (Operand.tmp 106), type := 9, pos := "law.go:32", after := #[{ on := 29, ground := Ground.data }, { on := 26, ground := Ground.guard }], guard := some (26, false) }) (v := ?tkv3031) rfl (by kernel_rfl) (by kernel_rfl) (by kernel_rfl) (fun _ _ _ h => h) (Or.inl ⟨by rfl, ?tky3031⟩) hH3012 ?tkr3031
  case tky3031 => (intro w' hSw; have z0 := V1.out _ hSw; have z1 := V2.out _ hSw; have z2 := V3.out _ hSw; have z3 := V4.out _ hSw; clear hSw; go_simp; try with_reducible rfl)
  try simp only [Act.put, List.setIfInBounds_toArray, List.set_cons_zero, List.set_cons_succ]
  refine wpAnyH_take (i := 31) (oi := { dst := some 108, op := Op.binOp BinOp.neq 9 (Operand.tmp 105) (Operand.tmp 107) 9, type := 4, pos := "law.go:32", after := #[{ on := 28, ground := Ground.data }, { on := 30, ground := Ground.data }, { on := 26, ground := Ground.guard }], guard := some (26, false) }) (v := ?tkv3032) rfl (by kernel_rfl) (by kernel_rfl) (by kernel_rfl) (fun _ _ _ h => h) (Or.inl ⟨by rfl, ?tky3032⟩) hH3012 ?tkr3032
  case tky3032 => (intro w' hSw; clear hSw; go_simp; try with_reducible rfl)
  try simp only [Act.put, List.setIfInBounds_toArray, List.set_cons_zero, List.set_cons_succ]
  refine wpAnyH_take (i := 32) (oi := { dst := some 109, op := Op.pick (Operand.tmp 103) (Operand.const (Value.bool true)) (Operand.tmp 108), type := 4, pos := "law.go:32", after := #[{ on := 26, ground := Ground.data }, { on := 31, ground := Ground.data }], guard := none }) (v := ?tkv3033) rfl (by kernel_rfl) (by kernel_rfl) (by kernel_rfl) (fun _ _ _ h => h) (Or.inl ⟨by rfl, ?tky3033⟩) hH3012 ?tkr3033
  case tky3033 => (intro w' hSw; clear hSw; go_simp; try with_reducible rfl)
  try simp only [Act.put, List.setIfInBounds_toArray, List.set_cons_zero, List.set_cons_succ]
  refine wpAnyH_take (i := 33) (oi := { dst := some 110, op := Op.move (Operand.tmp 109), type := 4, pos := "law.go:32", after := #[{ on := 32, ground := Ground.data }, { on := 26, ground := Ground.chain }], guard := none }) (v := ?tkv3034) rfl (by kernel_rfl) (by kernel_rfl) (by kernel_rfl) (fun _ _ _ h => h) (Or.inl ⟨by rfl, ?tky3034⟩) hH3012 ?tkr3034
  case tky3034 => (intro w' hSw; clear hSw; go_simp; try with_reducible rfl)
  try simp only [Act.put, List.setIfInBounds_toArray, List.set_cons_zero, List.set_cons_succ]
  refine wpAnyH_take (i := 34) (oi := { dst := some 111, op := Op.move (Operand.tmp 18), type := 27, pos := "law.go:32", after := #[{ on := 33, ground := Ground.guard }], guard := some (33, false) }) (v := ?tkv3035) rfl (by kernel_rfl) (by kernel_rfl) (by kernel_rfl) (fun _ _ _ h => h) (Or.inl ⟨by rfl, ?tky3035⟩) hH3012 ?tkr3035
  case tky3035 => (intro w' hSw; clear hSw; go_simp; try with_reducible rfl)
  try simp only [Act.put, List.setIfInBounds_toArray, List.set_cons_zero, List.set_cons_succ]
  refine wpAnyH_take (i := 35) (oi := { dst := some 112, op := Op.move (Operand.tmp 20), type := 27, pos := "law.go:32", after := #[{ on := 33, ground := Ground.guard }], guard := some (33, false) }) (v := ?tkv3036) rfl (by kernel_rfl) (by kernel_rfl) (by kernel_rfl) (fun _ _ _ h => h) (Or.inl ⟨by rfl, ?tky3036⟩) hH3012 ?tkr3036
  case tky3036 => (intro w' hSw; clear hSw; go_simp; try with_reducible rfl)
  try simp only [Act.put, List.setIfInBounds_toArray, List.set_cons_zero, List.set_cons_succ]
  refine wpAnyH_take (i := 36) (oi := { dst := some 113, op := Op.binOp BinOp.neq 27 (Operand.tmp 111) (Operand.tmp 112) 27, type := 4, pos := "law.go:32", after := #[{ on := 34, ground := Ground.data }, { on := 35, ground := Ground.data }, { on := 33, ground := Ground.guard }], guard := some (33, false) }) (v := ?tkv3037) rfl (by kernel_rfl) (by kernel_rfl) (by kernel_rfl) (fun _ _ _ h => h) (Or.inl ⟨by rfl, ?tky3037⟩) hH3012 ?tkr3037
  case tky3037 => (intro w' hSw; clear hSw; go_simp; try with_reducible rfl)
  try simp only [Act.put, List.setIfInBounds_toArray, List.set_cons_zero, List.set_cons_succ]
  refine wpAnyH_take (i := 37) (oi := { dst := some 114, op := Op.pick (Operand.tmp 110) (Operand.const (Value.bool true)) (Operand.tmp 113), type := 4, pos := "law.go:32", after := #[{ on := 33, ground := Ground.data }, { on := 36, ground := Ground.data }], guard := none }) (v := ?tkv3038) rfl (by kernel_rfl) (by kernel_rfl) (by kernel_rfl) (fun _ _ _ h => h) (Or.inl ⟨by rfl, ?tky3038⟩) hH3012 ?tkr3038
  case tky3038 => (intro w' hSw; clear hSw; go_simp; try with_reducible rfl)
  try simp only [Act.put, List.setIfInBounds_toArray, List.set_cons_zero, List.set_cons_succ]
  refine wpAnyH_done (by kernel_rfl) ?_ _
  refine NoPanic.normal ?_
  have E7 := Lib.hid (HE.out _ (hH3012))
  have B7 := Lib.hid (hH3012)
  go_upto_region 9 with fail
  have RQ7 := Lib.hid (R2.out.below B7.out)
  have R4t := Lib.hid (R4.out.below B7.out)
  have KR7 := Lib.hid (KR.out.below B7.out)
  have RR7 := Lib.hid (RR.out.below B7.out)
  clear HE R2 R4 KR RR B7
  obtain ⟨WQ, rfl⟩ : ∃ x : World, x = wn3012 := ⟨_, rfl⟩
  by_cases hq0 : n4t = 0
  · subst hq0
    obtain rfl : TB = [] := List.eq_nil_of_length_eq_zero HN4.out.symm
    go_upto_region 10 with (at_builtin; refine wpList_app rfl (.tmp 115) (.tmp 116) 23 rfl WQ.heap.size 5 i0 (.int .u8 0) 1 Tryd.underlying23 hi hz0 hz1 hz2 rfl _ 0 [] rfl (own_lit #[] rfl (Nat.le_refl _) rfl (by unfold maxLen; omega)) _ A4t 0 c4t _ rfl (R4t.out.row.alloc (Nat.le_refl _) _) (bv_one _) (by unfold maxLen; omega) (by omega) (by simp) ?_; intro v4 w4 hown4 hg4 hat4; obtain ⟨A4, c4, rfl, _⟩ := own_slice hown4)
    have hb4 : Below WQ.heap.size WQ w4 := below_new hg4
    have EA := Lib.hid (E7.out.below hb4)
    have RBa : Hid (RowP w4 (fun _ => True) A4 0 (bv [])) := Lib.hid (.nil _ _ _)
    have RRa := Lib.hid (RR7.out.below hb4)
    have KRa := Lib.hid (KR7.out.below hb4)
    have RQa := Lib.hid (RQ7.out.below hb4)
    have HCB := Lib.hid (own_cap hown4)
    clear hown4 hg4 hat4 hb4 R4t RQ7 KR7 RR7 E7
    generalize w4 = WA at *
    obtain ⟨AB, hAB⟩ : ∃ AB : Option Addr, AB = A4 := ⟨_, rfl⟩
    rw [← hAB] at RBa ⊢
    clear hAB
    generalize c4 = cB at *
    obtain ⟨mB, hmB⟩ : ∃ m : Nat, m = 0 := ⟨_, rfl⟩
    have q0 : decide ((0 : Int) < 0) = false := by decide
    go_upto_region 13 with fail
    clear q0
    go_wp2_with fail
    refine (rtag_any nk ck Ak lk nr cr Ar lr WA KRa.out.row RRa.out.row HKN.out (by have := HRN.out; omega)).mono ?_
    rintro e wt ⟨At, ct, rfl, hot, hbt⟩
    have RT := Lib.hid (RowP.of_row (Row.of_own hot.out))
    have bj : Below WA.heap.size WA (wt.alloc (.cells #[.slice Ar nr cr, .slice At 32 ct] 23)) := hbt.out.alloc hbt.out.size _
    have XJ := Lib.hid (heap_alloc_new wt (.cells #[.slice Ar nr cr, .slice At 32 ct] 23))
    have RTj := Lib.hid (RT.out.below ((Below.refl wt.heap.size wt).alloc (Nat.le_refl _) (.cells #[.slice Ar nr cr, .slice At 32 ct] 23)))
    have RRj := Lib.hid (RRa.out.below bj)
    have BJ := Lib.hid bj
    have TL := Lib.hid (tagLen _ _ _ _ RT.out)
    clear hot hbt bj RT
    go_wp2_with fail
    generalize wt.alloc (.cells #[.slice Ar nr cr, .slice At 32 ct] 23) = wj at *
    refine (join_box [⟨Ar, nr, cr, lr⟩, ⟨At, 32, ct, tagOf lk lr⟩] 2 rfl rfl XJ.out (by
      intro r hr
      simp only [List.mem_cons, List.not_mem_nil, or_false] at hr
      rcases hr with rfl | rfl
      · exact RRj.out
      · exact RTj.out) (by simp) (by have h1 := TL.out; have h2 := RRj.out.row.blen; have h3 := HRN.out; simp [flat, h1, h2]; omega) (l := lr ++ tagOf lk lr) (by simp [flat])).mono ?_
    rintro e WB ⟨Ag, ng, cg, rfl, hng, hog, hbg⟩
    have RG := Lib.hid (RowP.of_row (Row.of_own hog))
    have CG := Lib.hid (own_cap hog)
    have BG := Lib.hid (BJ.out.trans (hbg.mono BJ.out.size))
    have EB := Lib.hid (EA.out.below BG.out)
    have KRB := Lib.hid (KRa.out.below BG.out)
    have RBb := Lib.hid (RBa.out.below BG.out)
    have RRb := Lib.hid (RRa.out.below BG.out)
    have RQb := Lib.hid (RQa.out.below BG.out)
    clear hng hog hbg XJ RTj RRj BJ TL BG EA KRa RBa RRa RQa
    have HIDX : Hid (∀ k : Nat, k < 4 → ∃ Ay ny cy ly, RowP WB (fun _ => True) Ay ny (bv ly) ∧ ny ≤ cy ∧ cy ≤ 9223372036854775807 ∧
        ∀ w', (Instr.index 36 (.agg #[.slice AB 0 cB, .slice Ar nr cr, .slice Ag ng cg, .slice Aq nq cq]) (.int .i64 (k : Int))).run Tryd.prog w' = .ok (.slice Ay ny cy) w') := Lib.hid (by
      intro k hk
      match k, hk with
      | 0, _ => exact ⟨AB, 0, cB, _, RBb.out, HCB.out.1, HCB.out.2, fun w' => by kernel_rfl⟩
      | 1, _ => exact ⟨Ar, nr, cr, lr, RRb.out, HCR.out.1, HCR.out.2, fun w' => by kernel_rfl⟩
      | 2, _ => exact ⟨Ag, ng, cg, _, RG.out, CG.out.1, CG.out.2, fun w' => by kernel_rfl⟩
      | 3, _ => exact ⟨Aq, nq, cq, _, RQb.out, HCQ.out.1, HCQ.out.2, fun w' => by kernel_rfl⟩)
    clear RBb RRb RQb RG CG HCB HCQ
    go_wp2_with fail
    go_loopw [145] (fun i wr => ∃ k : Nat, k ≤ 4 ∧ i = .int .i64 k ∧ Hid (Below WB.heap.size WB wr)) (fun i _ => 4 - (intOf i).toNat)
    case atStart => exact ⟨0, by omega, rfl, Lib.hid (Below.refl _ _)⟩
    case round =>
      obtain ⟨k, hk, rfl, hbx⟩ := hrel
      by_cases hlt : k < 4
      · obtain ⟨Ay, ny, cy, ly, hrowy, hny, hcy, hidx⟩ := HIDX.out k hlt
        have E0 := Lib.hid (EB.out.below hbx.out)
        have R0 := Lib.hid (hrowy.below hbx.out)
        have K0 := Lib.hid (KRB.out.below hbx.out)
        have HNY := Lib.hid hny
        have HCY := Lib.hid hcy
        have HX := Lib.hid hbx.out
        clear hrowy hny hcy hbx
        go_wp2_with fail
        refine (manPar_any nk ck Ak lk Ay ny cy ly wr (HT.out.below E0.out.b HT.out.1) K0.out.row (by have := HKN.out; omega) R0.out.row HNY.out HCY.out).mono ?_
        obtain ⟨pM, hpM⟩ : ∃ x, parM lk ly = x := ⟨_, rfl⟩
        obtain ⟨pE, hpE⟩ : ∃ x, parE lk ly = x := ⟨_, rfl⟩
        obtain ⟨rM, hrM⟩ : ∃ x, readM ly = x := ⟨_, rfl⟩
        obtain ⟨rE, hrE⟩ : ∃ x, readE ly = x := ⟨_, rfl⟩
        have HPM := Lib.hid hpM
        have HPE := Lib.hid hpE
        have HRM := Lib.hid hrM
        have HRE := Lib.hid hrE
        clear hpM hpE hrM hrE hidx
        unfold MParOk
        rw [HPM.out, HPE.out]
        rintro e w1 ⟨m1, rfl, hm1, hb1⟩
        have bz1 := hb1.out.alloc hb1.out.size (.cells m1 25)
        have E1 := Lib.hid (((E0.out.below hb1.out).addMan hm1.out).alloc m1 25)
        have R1 := Lib.hid (R0.out.below bz1)
        have K1 := Lib.hid (K0.out.below bz1)
        have X1 := Lib.hid (HX.out.trans (bz1.mono HX.out.size))
        have I1 := Lib.hid hm1.out.inf
        have O1 := Lib.hid hm1.out.one
        have Z1 : Hid (6 = m1.size) := Lib.hid hm1.out.size.symm
        clear hb1 hm1 bz1 E0 HX
        go_upto_region 18 with ((with_reducible show wpList _ _ _ _ _ _); refine wpList_store_new rfl rfl _ (.tmp 26) (.tmp 152) rfl _ _ m1 _ rfl rfl I1.out Z1.out O1.out ?_)
        generalize w1.heap.size = g1 at E1 ⊢
        generalize w1.alloc (.cells m1 25) = w1b at *
        go_wp2_with fail
        refine (rpar_all nk ck Ak lk Ay ny cy ly w1b K1.out.row HKN.out R1.out.row HNY.out HCY.out).mono ?_
        unfold RParOk
        rw [HPM.out, HPE.out]
        rintro e w2 ⟨m2, rfl, hm2, hb2⟩
        have bz2 := hb2.out.alloc hb2.out.size (.cells m2 25)
        have E2 := Lib.hid (((E1.out.below hb2.out).addMan hm2.out).alloc m2 25)
        have R2 := Lib.hid (R1.out.below bz2)
        have K2 := Lib.hid (K1.out.below bz2)
        have X2 := Lib.hid (X1.out.trans (bz2.mono X1.out.size))
        have I2 := Lib.hid hm2.out.inf
        have O2 := Lib.hid hm2.out.one
        have Z2 : Hid (6 = m2.size) := Lib.hid hm2.out.size.symm
        clear hb2 hm2 bz2 E1 X1
        go_upto_region 19 with ((with_reducible show wpList _ _ _ _ _ _); refine wpList_store_new rfl rfl _ (.tmp 28) (.tmp 158) rfl _ _ m2 _ rfl rfl I2.out Z2.out O2.out ?_)
        generalize w2.heap.size = g2 at E2 ⊢
        generalize w2.alloc (.cells m2 25) = w2b at *
        go_wp2_with fail
        refine (read_any Ay ny cy ly w2b R2.out.row HNY.out HCY.out).mono ?_
        rw [HRM.out, HRE.out]
        rintro e w3 ⟨m3, rfl, hm3, hb3⟩
        have bz3 := hb3.out.alloc hb3.out.size (.cells m3 25)
        have E3 := Lib.hid (((E2.out.below hb3.out).addMan hm3.out).alloc m3 25)
        have R3 := Lib.hid (R2.out.below bz3)
        have K3 := Lib.hid (K2.out.below bz3)
        have X3 := Lib.hid (X2.out.trans (bz3.mono X2.out.size))
        have I3 := Lib.hid hm3.out.inf
        have O3 := Lib.hid hm3.out.one
        have Z3 : Hid (6 = m3.size) := Lib.hid hm3.out.size.symm
        clear hb3 hm3 bz3 E2 X2
        go_upto_region 20 with ((with_reducible show wpList _ _ _ _ _ _); refine wpList_store_new rfl rfl _ (.tmp 30) (.tmp 163) rfl _ _ m3 _ rfl rfl I3.out Z3.out O3.out ?_)
        generalize w3.heap.size = g3 at E3 ⊢
        generalize w3.alloc (.cells m3 25) = w3b at *
        go_wp2_with fail
        refine (rread_any Ay ny cy ly w3b R3.out.row HNY.out HCY.out).mono ?_
        rw [HRM.out, HRE.out]
        rintro e w4 ⟨m4, rfl, hm4, hb4⟩
        have bz4 := hb4.out.alloc hb4.out.size (.cells m4 25)
        have E4 := Lib.hid (((E3.out.below hb4.out).addMan hm4.out).alloc m4 25)
        have R4 := Lib.hid (R3.out.below bz4)
        have K4 := Lib.hid (K3.out.below bz4)
        have X4 := Lib.hid (X3.out.trans (bz4.mono X3.out.size))
        have I4 := Lib.hid hm4.out.inf
        have O4 := Lib.hid hm4.out.one
        have Z4 : Hid (6 = m4.size) := Lib.hid hm4.out.size.symm
        clear hb4 hm4 bz4 E3 X3
        go_upto_region 21 with ((with_reducible show wpList _ _ _ _ _ _); refine wpList_store_new rfl rfl _ (.tmp 32) (.tmp 168) rfl _ _ m4 _ rfl rfl I4.out Z4.out O4.out ?_)
        generalize w4.heap.size = g4 at E4 ⊢
        generalize w4.alloc (.cells m4 25) = w4b at *
        clear HPM HPE HRM HRE HNY HCY R4 K4 K0 R0
        go_wp2_with (first
          | ((with_reducible show wpList _ _ _ _ _ _); refine wpList_load_row (o := ⟨some 170, _, _, _, _, _⟩) rfl _ (.tmp 26) rfl (g1) rfl _ _ _ _ (E4.out.bx _ _ _ (.tail _ (.tail _ (.tail _ (.head _))))) Tryd.underlying25 rfl I1.out ?_)
          | ((with_reducible show wpList _ _ _ _ _ _); refine wpList_load_row (o := ⟨some 171, _, _, _, _, _⟩) rfl _ (.tmp 28) rfl (g2) rfl _ _ _ _ (E4.out.bx _ _ _ (.tail _ (.tail _ (.head _)))) Tryd.underlying25 rfl I2.out ?_))
        refine (rsameM (E4.out.mn _ _ (.tail _ (.tail _ (.tail _ (.head _))))) (E4.out.mn _ _ (.tail _ (.tail _ (.head _))))).mono ?_
        rw [eqbM_same]
        rintro e w5 ⟨rfl, hb5⟩
        have E5 := Lib.hid (E4.out.below hb5)
        have X5 := Lib.hid (X4.out.trans (hb5.mono X4.out.size))
        have nE1 : (pE != pE) = false := by simp
        have nE2 : (rE != rE) = false := by simp
        clear hb5 E4 X4
        go_wp2_with (first
          | ((with_reducible show wpList _ _ _ _ _ _); refine wpList_load_rowG (o := ⟨some 180, _, _, _, _, _⟩) (by rfl) _ (.tmp 30) rfl (g3) rfl _ _ _ _ (E5.out.bx _ _ _ (.tail _ (.head _))) Tryd.underlying25 rfl I3.out ?_)
          | ((with_reducible show wpList _ _ _ _ _ _); refine wpList_load_rowG (o := ⟨some 181, _, _, _, _, _⟩) (by rfl) _ (.tmp 32) rfl (g4) rfl _ _ _ _ (E5.out.bx _ _ _ (.head _)) Tryd.underlying25 rfl I4.out ?_))
        refine (rsameM (E5.out.mn _ _ (.tail _ (.head _))) (E5.out.mn _ _ (.head _))).mono ?_
        rw [eqbM_same]
        rintro e w6 ⟨rfl, hb6⟩
        have X6 := Lib.hid (X5.out.trans (hb6.mono X5.out.size))
        clear hb6 E5 X5
        go_wp2_with fail
        go_roundw
        case rel => exact ⟨k + 1, by omega, by go_num, X6⟩
        case measure => simp [intOf]; omega
      · have HBW := Lib.hid (EB.out.below hbx.out)
        clear hbx
        go_wp2_with fail
        refine (awake14_any _ (HT.out.below HBW.out.b HT.out.1)).mono ?_
        rintro e wz ⟨rfl, hbz⟩
        have hb := (HBW.out.below hbz).b
        go_wp2_with fail
        go_ret
        exact ⟨rfl, hb⟩
  have hL4 : n4t ≤ 200 := HT4.out
  obtain ⟨iq, hiq, hKq⟩ := pick_in at_ (n4t : Int) (by omega) (by omega)
  have HKQ := Lib.hid hKq
  go_upto_region 10 with (at_builtin; refine wpList_app rfl (.tmp 115) (.tmp 116) 23 rfl WQ.heap.size 5 i0 (.int .u8 0) 1 Tryd.underlying23 hi hz0 hz1 hz2 rfl _ 0 [] rfl (own_lit #[] rfl (Nat.le_refl _) rfl (by unfold maxLen; omega)) _ A4t n4t c4t _ rfl (R4t.out.row.alloc (Nat.le_refl _) _) (bv_one _) (by unfold maxLen; omega) (by omega) (by simp) ?_; intro v4 w4 hown4 hg4 hat4; obtain ⟨A4, c4, rfl, _⟩ := own_slice hown4)
  have hb4 : Below WQ.heap.size WQ w4 := below_new hg4
  rw [List.nil_append] at hown4
  simp only [Nat.zero_add] at hown4
  obtain ⟨g, c4', hv, hg0, hglt⟩ := hown4.form (by omega)
  injection hv with e1 e2 e3
  subst e1 e3
  have hc4 := own_cap hown4
  have hcell : w4.cell? ⟨g, iq, none⟩ = _ := (hown4.cellAt iq (by omega)).trans (bv_getD TB iq (by have := HN4.out; omega))
  have hown5 := (hown4.stored iq (.int .u8 (bits .xor .u8 ((TB.getD iq 0).toNat : Int) (x.toNat : Int)))).1
  rw [bv_bend3] at hown5
  have hfr := hown4.frozenAt iq
  generalize TB.getD iq 0 = u at *
  have hiq0 : (0 : Int) ≤ iq := by omega
  go_upto_region 13 with (rw [HKQ.out])
  have hbs : Below WQ.heap.size WQ (w4.setCell ⟨g, iq, none⟩ (.int .u8 (bits .xor .u8 (u.toNat : Int) (x.toNat : Int)))) := hb4.setCell (p := ⟨g, iq, none⟩) hg0 _
  have EA := Lib.hid (E7.out.below hbs)
  have RBa := Lib.hid (RowP.of_row (Row.of_own hown5))
  have RRa := Lib.hid (RR7.out.below hbs)
  have KRa := Lib.hid (KR7.out.below hbs)
  have RQa := Lib.hid (RQ7.out.below hbs)
  have HCB := Lib.hid hc4
  clear hown4 hown5 hg4 hat4 hb4 R4t RQ7 KR7 RR7 E7 hcell hfr hc4 hbs
  generalize w4.setCell ⟨g, iq, none⟩ (.int .u8 (bits .xor .u8 (u.toNat : Int) (x.toNat : Int))) = WA at *
  obtain ⟨AB, hAB⟩ : ∃ AB : Option Addr, AB = some ⟨g, 0, none⟩ := ⟨_, rfl⟩
  rw [← hAB] at RBa ⊢
  clear hAB hKq HKQ hiq0 hiq hg0 hglt
  generalize c4 = cB at *
  go_wp2_with fail
  refine (rtag_any nk ck Ak lk nr cr Ar lr WA KRa.out.row RRa.out.row HKN.out (by have := HRN.out; omega)).mono ?_
  rintro e wt ⟨At, ct, rfl, hot, hbt⟩
  have RT := Lib.hid (RowP.of_row (Row.of_own hot.out))
  have bj : Below WA.heap.size WA (wt.alloc (.cells #[.slice Ar nr cr, .slice At 32 ct] 23)) := hbt.out.alloc hbt.out.size _
  have XJ := Lib.hid (heap_alloc_new wt (.cells #[.slice Ar nr cr, .slice At 32 ct] 23))
  have RTj := Lib.hid (RT.out.below ((Below.refl wt.heap.size wt).alloc (Nat.le_refl _) (.cells #[.slice Ar nr cr, .slice At 32 ct] 23)))
  have RRj := Lib.hid (RRa.out.below bj)
  have BJ := Lib.hid bj
  have TL := Lib.hid (tagLen _ _ _ _ RT.out)
  clear hot hbt bj RT
  go_wp2_with fail
  generalize wt.alloc (.cells #[.slice Ar nr cr, .slice At 32 ct] 23) = wj at *
  refine (join_box [⟨Ar, nr, cr, lr⟩, ⟨At, 32, ct, tagOf lk lr⟩] 2 rfl rfl XJ.out (by
    intro r hr
    simp only [List.mem_cons, List.not_mem_nil, or_false] at hr
    rcases hr with rfl | rfl
    · exact RRj.out
    · exact RTj.out) (by simp) (by have h1 := TL.out; have h2 := RRj.out.row.blen; have h3 := HRN.out; simp [flat, h1, h2]; omega) (l := lr ++ tagOf lk lr) (by simp [flat])).mono ?_
  rintro e WB ⟨Ag, ng, cg, rfl, hng, hog, hbg⟩
  have RG := Lib.hid (RowP.of_row (Row.of_own hog))
  have CG := Lib.hid (own_cap hog)
  have BG := Lib.hid (BJ.out.trans (hbg.mono BJ.out.size))
  have EB := Lib.hid (EA.out.below BG.out)
  have KRB := Lib.hid (KRa.out.below BG.out)
  have RBb := Lib.hid (RBa.out.below BG.out)
  have RRb := Lib.hid (RRa.out.below BG.out)
  have RQb := Lib.hid (RQa.out.below BG.out)
  clear hng hog hbg XJ RTj RRj BJ TL BG EA KRa RBa RRa RQa
  have HIDX : Hid (∀ k : Nat, k < 4 → ∃ Ay ny cy ly, RowP WB (fun _ => True) Ay ny (bv ly) ∧ ny ≤ cy ∧ cy ≤ 9223372036854775807 ∧
      ∀ w', (Instr.index 36 (.agg #[.slice AB n4t cB, .slice Ar nr cr, .slice Ag ng cg, .slice Aq nq cq]) (.int .i64 (k : Int))).run Tryd.prog w' = .ok (.slice Ay ny cy) w') := Lib.hid (by
    intro k hk
    match k, hk with
    | 0, _ => exact ⟨AB, n4t, cB, _, RBb.out, HCB.out.1, HCB.out.2, fun w' => by kernel_rfl⟩
    | 1, _ => exact ⟨Ar, nr, cr, lr, RRb.out, HCR.out.1, HCR.out.2, fun w' => by kernel_rfl⟩
    | 2, _ => exact ⟨Ag, ng, cg, _, RG.out, CG.out.1, CG.out.2, fun w' => by kernel_rfl⟩
    | 3, _ => exact ⟨Aq, nq, cq, _, RQb.out, HCQ.out.1, HCQ.out.2, fun w' => by kernel_rfl⟩)
  clear RBb RRb RQb RG CG HCB HCQ
  go_wp2_with fail
  go_loopw [145] (fun i wr => ∃ k : Nat, k ≤ 4 ∧ i = .int .i64 k ∧ Hid (Below WB.heap.size WB wr)) (fun i _ => 4 - (intOf i).toNat)
  case atStart => exact ⟨0, by omega, rfl, Lib.hid (Below.refl _ _)⟩
  case round =>
    obtain ⟨k, hk, rfl, hbx⟩ := hrel
    by_cases hlt : k < 4
    · obtain ⟨Ay, ny, cy, ly, hrowy, hny, hcy, hidx⟩ := HIDX.out k hlt
      have E0 := Lib.hid (EB.out.below hbx.out)
      have R0 := Lib.hid (hrowy.below hbx.out)
      have K0 := Lib.hid (KRB.out.below hbx.out)
      have HNY := Lib.hid hny
      have HCY := Lib.hid hcy
      have HX := Lib.hid hbx.out
      clear hrowy hny hcy hbx
      go_wp2_with fail
      refine (manPar_any nk ck Ak lk Ay ny cy ly wr (HT.out.below E0.out.b HT.out.1) K0.out.row (by have := HKN.out; omega) R0.out.row HNY.out HCY.out).mono ?_
      obtain ⟨pM, hpM⟩ : ∃ x, parM lk ly = x := ⟨_, rfl⟩
      obtain ⟨pE, hpE⟩ : ∃ x, parE lk ly = x := ⟨_, rfl⟩
      obtain ⟨rM, hrM⟩ : ∃ x, readM ly = x := ⟨_, rfl⟩
      obtain ⟨rE, hrE⟩ : ∃ x, readE ly = x := ⟨_, rfl⟩
      have HPM := Lib.hid hpM
      have HPE := Lib.hid hpE
      have HRM := Lib.hid hrM
      have HRE := Lib.hid hrE
      clear hpM hpE hrM hrE hidx
      unfold MParOk
      rw [HPM.out, HPE.out]
      rintro e w1 ⟨m1, rfl, hm1, hb1⟩
      have bz1 := hb1.out.alloc hb1.out.size (.cells m1 25)
      have E1 := Lib.hid (((E0.out.below hb1.out).addMan hm1.out).alloc m1 25)
      have R1 := Lib.hid (R0.out.below bz1)
      have K1 := Lib.hid (K0.out.below bz1)
      have X1 := Lib.hid (HX.out.trans (bz1.mono HX.out.size))
      have I1 := Lib.hid hm1.out.inf
      have O1 := Lib.hid hm1.out.one
      have Z1 : Hid (6 = m1.size) := Lib.hid hm1.out.size.symm
      clear hb1 hm1 bz1 E0 HX
      go_upto_region 18 with ((with_reducible show wpList _ _ _ _ _ _); refine wpList_store_new rfl rfl _ (.tmp 26) (.tmp 152) rfl _ _ m1 _ rfl rfl I1.out Z1.out O1.out ?_)
      generalize w1.heap.size = g1 at E1 ⊢
      generalize w1.alloc (.cells m1 25) = w1b at *
      go_wp2_with fail
      refine (rpar_all nk ck Ak lk Ay ny cy ly w1b K1.out.row HKN.out R1.out.row HNY.out HCY.out).mono ?_
      unfold RParOk
      rw [HPM.out, HPE.out]
      rintro e w2 ⟨m2, rfl, hm2, hb2⟩
      have bz2 := hb2.out.alloc hb2.out.size (.cells m2 25)
      have E2 := Lib.hid (((E1.out.below hb2.out).addMan hm2.out).alloc m2 25)
      have R2 := Lib.hid (R1.out.below bz2)
      have K2 := Lib.hid (K1.out.below bz2)
      have X2 := Lib.hid (X1.out.trans (bz2.mono X1.out.size))
      have I2 := Lib.hid hm2.out.inf
      have O2 := Lib.hid hm2.out.one
      have Z2 : Hid (6 = m2.size) := Lib.hid hm2.out.size.symm
      clear hb2 hm2 bz2 E1 X1
      go_upto_region 19 with ((with_reducible show wpList _ _ _ _ _ _); refine wpList_store_new rfl rfl _ (.tmp 28) (.tmp 158) rfl _ _ m2 _ rfl rfl I2.out Z2.out O2.out ?_)
      generalize w2.heap.size = g2 at E2 ⊢
      generalize w2.alloc (.cells m2 25) = w2b at *
      go_wp2_with fail
      refine (read_any Ay ny cy ly w2b R2.out.row HNY.out HCY.out).mono ?_
      rw [HRM.out, HRE.out]
      rintro e w3 ⟨m3, rfl, hm3, hb3⟩
      have bz3 := hb3.out.alloc hb3.out.size (.cells m3 25)
      have E3 := Lib.hid (((E2.out.below hb3.out).addMan hm3.out).alloc m3 25)
      have R3 := Lib.hid (R2.out.below bz3)
      have K3 := Lib.hid (K2.out.below bz3)
      have X3 := Lib.hid (X2.out.trans (bz3.mono X2.out.size))
      have I3 := Lib.hid hm3.out.inf
      have O3 := Lib.hid hm3.out.one
      have Z3 : Hid (6 = m3.size) := Lib.hid hm3.out.size.symm
      clear hb3 hm3 bz3 E2 X2
      go_upto_region 20 with ((with_reducible show wpList _ _ _ _ _ _); refine wpList_store_new rfl rfl _ (.tmp 30) (.tmp 163) rfl _ _ m3 _ rfl rfl I3.out Z3.out O3.out ?_)
      generalize w3.heap.size = g3 at E3 ⊢
      generalize w3.alloc (.cells m3 25) = w3b at *
      go_wp2_with fail
      refine (rread_any Ay ny cy ly w3b R3.out.row HNY.out HCY.out).mono ?_
      rw [HRM.out, HRE.out]
      rintro e w4 ⟨m4, rfl, hm4, hb4⟩
      have bz4 := hb4.out.alloc hb4.out.size (.cells m4 25)
      have E4 := Lib.hid (((E3.out.below hb4.out).addMan hm4.out).alloc m4 25)
      have R4 := Lib.hid (R3.out.below bz4)
      have K4 := Lib.hid (K3.out.below bz4)
      have X4 := Lib.hid (X3.out.trans (bz4.mono X3.out.size))
      have I4 := Lib.hid hm4.out.inf
      have O4 := Lib.hid hm4.out.one
      have Z4 : Hid (6 = m4.size) := Lib.hid hm4.out.size.symm
      clear hb4 hm4 bz4 E3 X3
      go_upto_region 21 with ((with_reducible show wpList _ _ _ _ _ _); refine wpList_store_new rfl rfl _ (.tmp 32) (.tmp 168) rfl _ _ m4 _ rfl rfl I4.out Z4.out O4.out ?_)
      generalize w4.heap.size = g4 at E4 ⊢
      generalize w4.alloc (.cells m4 25) = w4b at *
      clear HPM HPE HRM HRE HNY HCY R4 K4 K0 R0
      go_wp2_with (first
        | ((with_reducible show wpList _ _ _ _ _ _); refine wpList_load_row (o := ⟨some 170, _, _, _, _, _⟩) rfl _ (.tmp 26) rfl (g1) rfl _ _ _ _ (E4.out.bx _ _ _ (.tail _ (.tail _ (.tail _ (.head _))))) Tryd.underlying25 rfl I1.out ?_)
        | ((with_reducible show wpList _ _ _ _ _ _); refine wpList_load_row (o := ⟨some 171, _, _, _, _, _⟩) rfl _ (.tmp 28) rfl (g2) rfl _ _ _ _ (E4.out.bx _ _ _ (.tail _ (.tail _ (.head _)))) Tryd.underlying25 rfl I2.out ?_))
      refine (rsameM (E4.out.mn _ _ (.tail _ (.tail _ (.tail _ (.head _))))) (E4.out.mn _ _ (.tail _ (.tail _ (.head _))))).mono ?_
      rw [eqbM_same]
      rintro e w5 ⟨rfl, hb5⟩
      have E5 := Lib.hid (E4.out.below hb5)
      have X5 := Lib.hid (X4.out.trans (hb5.mono X4.out.size))
      have nE1 : (pE != pE) = false := by simp
      have nE2 : (rE != rE) = false := by simp
      clear hb5 E4 X4
      go_wp2_with (first
        | ((with_reducible show wpList _ _ _ _ _ _); refine wpList_load_rowG (o := ⟨some 180, _, _, _, _, _⟩) (by rfl) _ (.tmp 30) rfl (g3) rfl _ _ _ _ (E5.out.bx _ _ _ (.tail _ (.head _))) Tryd.underlying25 rfl I3.out ?_)
        | ((with_reducible show wpList _ _ _ _ _ _); refine wpList_load_rowG (o := ⟨some 181, _, _, _, _, _⟩) (by rfl) _ (.tmp 32) rfl (g4) rfl _ _ _ _ (E5.out.bx _ _ _ (.head _)) Tryd.underlying25 rfl I4.out ?_))
      refine (rsameM (E5.out.mn _ _ (.tail _ (.head _))) (E5.out.mn _ _ (.head _))).mono ?_
      rw [eqbM_same]
      rintro e w6 ⟨rfl, hb6⟩
      have X6 := Lib.hid (X5.out.trans (hb6.mono X5.out.size))
      clear hb6 E5 X5
      go_wp2_with fail
      go_roundw
      case rel => exact ⟨k + 1, by omega, by go_num, X6⟩
      case measure => simp [intOf]; omega
    · have HBW := Lib.hid (EB.out.below hbx.out)
      clear hbx
      go_wp2_with fail
      refine (awake14_any _ (HT.out.below HBW.out.b HT.out.1)).mono ?_
      rintro e wz ⟨rfl, hbz⟩
      have hb := (HBW.out.below hbz).b
      go_wp2_with fail
      go_ret
      exact ⟨rfl, hb⟩
end Go.Proofs.YtcgcmfhidolohaaDoor
