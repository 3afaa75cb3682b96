/- StateBack's walk. -/
import Derived.Test.YtnbpjajgfpdddaaStTorn
namespace Go.Proofs.Ytnbpjajgfpdddaa
open Go.RowKit
/-- the errors that reading tells -/
def errOk (e : Int) : Prop := e = 0 ∨ e = 2 ∨ e = 3
theorem fail_ok {r : Rd} {k : Int} (h : errOk r.e) (hk : errOk k) : errOk (r.fail k).e := by
  unfold Rd.fail
  split
  · exact hk
  · exact h
theorem past_ok {r : Rd} (n : Nat) (h : errOk r.e) : errOk (r.past n).e := by
  have hs : errOk (r.short n).e := by
    unfold Rd.short
    split
    · exact fail_ok h (.inr (.inl rfl))
    · exact h
  unfold Rd.past
  split
  · exact .inl rfl
  · exact hs
theorem flag_ok {r : Rd} (h : errOk r.e) : errOk r.flag.2.e := by
  unfold Rd.flag
  dsimp only
  split
  · exact fail_ok (past_ok 1 h) (.inr (.inr rfl))
  · exact past_ok 1 h
theorem slot_ok {r : Rd} (h : errOk r.e) : errOk (Rd.slot r).2.e := by
  unfold Rd.slot
  split
  · exact past_ok 32 (past_ok 2 (past_ok 4 (flag_ok h)))
  · exact flag_ok h
theorem man_ok {r : Rd} (h : errOk r.e) : errOk (Rd.man r).2.e := by
  show errOk (Rd.fail _ _).e
  refine fail_ok (past_ok 44 h) ?_
  unfold readE
  split
  · exact .inl rfl
  · exact .inr (.inr rfl)
theorem now_ok {r : Rd} (h : errOk r.e) : errOk (Rd.now r).2.e := by
  unfold Rd.now
  split
  · exact man_ok (flag_ok h)
  · exact flag_ok h
theorem bind_ok {α β : Type} {X : Rd → α × Rd} {Y : α → Rd → β × Rd} (hx : ∀ r : Rd, errOk r.e → errOk (X r).2.e) (hy : ∀ a (r : Rd), errOk r.e → errOk (Y a r).2.e) : ∀ r : Rd, errOk r.e → errOk (Rd.bind X Y r).2.e := fun r h => hy _ _ (hx r h)
theorem parts_ok : ∀ r : Rd, errOk r.e → errOk (Rd.parts r).2.e :=
  bind_ok (fun _ h => past_ok 1 h) fun _ => bind_ok (fun _ h => past_ok 1 h) fun _ => bind_ok (fun _ h => past_ok 4 h) fun _ => bind_ok (fun _ h => past_ok 4 h) fun _ => bind_ok (fun _ h => slot_ok h) fun _ => bind_ok (fun _ h => slot_ok h) fun _ _ h => now_ok h
theorem parse_err (l : List UInt8) : parseE l = 0 ∨ parseE l = 2 ∨ parseE l = 3 := by
  have h : errOk (Rd.state ⟨l, 0⟩).2.e := by
    have k0 : ∀ r : Rd, (Rd.state r).2 = (Rd.parts r).2 := fun r => by simp only [Rd.state]
    rw [k0]
    exact parts_ok _ (.inl rfl)
  unfold parseE
  split
  · split
    · exact .inl rfl
    · exact .inr (.inr rfl)
  · exact h
theorem ok_w32 {L : LSt} (h : L.ok) : L.w32 := by
  obtain ⟨h1, h2, h3, h4, h5, h6, h7, h8, h9⟩ := h
  have s : ∀ S : LSlot, S.ok → S.v < 4294967296 := fun S hS => by
    rcases hS with rfl | hS
    · decide
    · exact hS.1
  refine ⟨h5, h6, s _ h7, s _ h8, ?_⟩
  unfold nowOk at h9
  split at h9
  · exact h9.2
  · have h9 : L.m = LMan.zero := h9
    rw [h9]; decide
theorem parse_ok {l : List UInt8} (h : parseE l = 0) : (parseL l).may = true ∧ (parseL l).w32 ∧ (parseL l).bytes = l := by
  unfold parseE at h
  split at h
  · rename_i he
    split at h
    · rename_i hc
      have hb := state_codec.bwd l he
      unfold parseL
      rw [if_pos ⟨he, hc⟩]
      refine ⟨hc.2, ok_w32 hb.1, ?_⟩
      have := hb.2
      rw [hc.1, List.append_nil] at this
      exact this.symm
    · exact absurd h (by decide)
  · rename_i he
    exact absurd h he
theorem bytes_inj {L K : LSt} (hm : L.may = true) (hw : L.w32) (hk : K.may = true) (hv : K.w32) : decide (L.bytes = K.bytes) = L.eqb K := by
  by_cases h : L.bytes = K.bytes
  · have e : L = K := by rw [← (parse_bytes hm hw).2, h, (parse_bytes hk hv).2]
    rw [decide_eq_true h, e, eqb_refl]
  · rw [decide_eq_false h]
    cases he : L.eqb K with
    | false => rfl
    | true =>
      exfalso
      apply h
      obtain ⟨a1, a2, a3, a4, a5, a6, a7, a8, a9, a10, a11, ⟨m1, m2, m3, m4, m5, m6⟩⟩ := L
      obtain ⟨b1, b2, b3, b4, b5, b6, b7, b8, b9, b10, b11, ⟨n1, n2, n3, n4, n5, n6⟩⟩ := K
      simp [LSt.eqb] at he
      obtain ⟨rfl, rfl, rfl, rfl, ⟨rfl, rfl, rfl⟩, ⟨rfl, rfl, rfl⟩, rfl, rfl, rfl, rfl, rfl, rfl, rfl⟩ := he
      rfl
set_option maxRecDepth 100000 in
set_option maxHeartbeats 3200000 in
theorem stback_walk (cs ds : Array Value) (L K : LSt) (A : Option Addr) (n c : Nat) (l : List UInt8) (w : World) (hs : IsSt w (fun _ => True) cs L) (hk : IsSt w (fun _ => True) ds K) (hw : L.w32) (hv : K.w32) (hr : Row w w.heap.size A n (bv l)) (hnc : n ≤ c) (hcm : c ≤ 9223372036854775807) :
    Calls Try.prog 4 #[.agg cs, .agg ds, .slice A n c] w fun e w' => e = .returned (.bool true) ∧ Below w.heap.size w w' := by
  have IA := Lib.hid hs.inf
  have IB := Lib.hid hk.inf
  have HWL := Lib.hid hw
  have HWK := Lib.hid hv
  have HR := Lib.hid hr
  have e0 := ((((Env.start w).addSt hs).addSt hk).alloc cs 30).alloc ds 30
  rw [show (w.alloc (.cells cs 30)).heap.size = w.heap.size + 1 by simp] at e0
  have E0 := Lib.hid e0
  clear e0 hs hk hw hv hr
  go_enter Try.func4, Try.ntmps4
  go_upto_region 1 with fail
  generalize (w.alloc (.cells cs 30)).alloc (.cells ds 30) = w0 at *
  have HE : Hid (∀ W, Below w0.heap.size w0 W → Env w W [((w.heap.size + 1), ds, 30), (w.heap.size, cs, 30)] [(ds, K), (cs, L)] []) := Lib.hid fun W hW => E0.out.below hW
  clear E0
  by_cases hla : L.light
  · have HLA := Lib.hid hla
    by_cases hlb : K.light
    · have HLB := Lib.hid hlb
      clear hla hlb
      go_cut [27] (fun s27 wx => s27 = .bool (decide (300 < n)) ∧ Hid (Env w wx [((w.heap.size + 1), ds, 30), (w.heap.size, cs, 30)] [(ds, K), (cs, L)] []))
      case first =>
        refine wp_region_noPanic ?_
        refine wp_region_held_drew (S := (fun W => Below (w0.heap.size) w0 W)) (by kernel_rfl) (Below.refl _ _).drew (fun hH0 => ?_)
        have hH0 : Below (w0.heap.size) w0 w0.drew := hH0
        generalize w0.drew = wd3000 at *
        refine wpAnyH_take (i := 0) (oi := { dst := some 17, op := Op.load 30 (Operand.tmp 3), type := 30, pos := "law.go:57", after := #[], guard := none }) (v := .agg cs) rfl (by kernel_rfl) (by kernel_rfl) (by kernel_rfl) (fun _ _ _ h => h) (yields_row (by rfl) _ _ rfl (w.heap.size) rfl _ _ _ _ (fun W hW => (HE.out W hW).bx _ _ _ (.tail _ (.head _))) Try.underlying30 rfl IA.out) hH0 ?tkr3001
        try simp only [Act.put, List.setIfInBounds_toArray, List.set_cons_zero, List.set_cons_succ]
        refine wpAnyH_take (i := 2) (oi := { dst := some 19, op := Op.load 30 (Operand.tmp 4), type := 30, pos := "law.go:57", after := #[], guard := none }) (v := .agg ds) rfl (by kernel_rfl) (by kernel_rfl) (by kernel_rfl) (fun _ _ _ h => h) (yields_row (by rfl) _ _ rfl ((w.heap.size + 1)) rfl _ _ _ _ (fun W hW => (HE.out W hW).bx _ _ _ (.head _)) Try.underlying30 rfl IB.out) hH0 ?tkr3002
        try simp only [Act.put, List.setIfInBounds_toArray, List.set_cons_zero, List.set_cons_succ]
        refine wpAnyH_ready (rs := [1]) (by kernel_rfl) (by simp) ?_
        refine AllReadyH.cons (o := { dst := some 18, op := Op.call { callee := Callee.value (Operand.func 13), args := #[Operand.tmp 17], argTypes := #[30] }, type := 3, pos := "law.go:57", after := #[{ on := 0, ground := Ground.data }], guard := none }) rfl (fun K hK => ?_) AllReadyH.nil
        go_simp
        refine (heavyS_no ((HE.out wd3000 (hH0)).st _ _ (.tail _ (.head _))) HLA.out).mono ?_
        rintro e' wn3003 ⟨rfl, hb3003⟩
        go_simp
        have hS3003 : Below (w0.heap.size) w0 wn3003 := (hH0).trans (hb3003.mono (hH0).size)
        refine hK.out _ _ hS3003 (fun hH3003 => ?_)
        have hH3003 : Below (w0.heap.size) w0 wn3003 := hH3003
        clear hK K hS3003
        try simp only [Act.put, List.setIfInBounds_toArray, List.set_cons_zero, List.set_cons_succ]
        refine wpAnyH_ready (rs := [3]) (by kernel_rfl) (by simp) ?_
        refine AllReadyH.cons (o := { dst := some 20, op := Op.call { callee := Callee.value (Operand.func 13), args := #[Operand.tmp 19], argTypes := #[30] }, type := 3, pos := "law.go:57", after := #[{ on := 2, ground := Ground.data }, { on := 1, ground := Ground.chain }], guard := none }) rfl (fun K hK => ?_) AllReadyH.nil
        go_simp
        refine (heavyS_no ((HE.out wn3003 (hH3003)).st _ _ (.head _)) HLB.out).mono ?_
        rintro e' wn3004 ⟨rfl, hb3004⟩
        go_simp
        have hS3004 : Below (w0.heap.size) w0 wn3004 := (hH3003).trans (hb3004.mono (hH3003).size)
        refine hK.out _ _ hS3004 (fun hH3004 => ?_)
        have hH3004 : Below (w0.heap.size) w0 wn3004 := hH3004
        clear hK K hS3004
        try simp only [Act.put, List.setIfInBounds_toArray, List.set_cons_zero, List.set_cons_succ]
        refine wpAnyH_take (i := 4) (oi := { dst := some 21, op := Op.binOp BinOp.add 3 (Operand.tmp 18) (Operand.tmp 20) 3, type := 3, pos := "law.go:57", after := #[{ on := 1, ground := Ground.data }, { on := 3, ground := Ground.data }], guard := none }) (v := ?tkv3005) rfl (by kernel_rfl) (by kernel_rfl) (by kernel_rfl) (fun _ _ _ h => h) (Or.inl ⟨by rfl, ?tky3005⟩) hH3004 ?tkr3005
        case tky3005 => (intro w' hSw; clear hSw; go_simp; try with_reducible rfl)
        try simp only [Act.put, List.setIfInBounds_toArray, List.set_cons_zero, List.set_cons_succ]
        refine wpAnyH_take (i := 5) (oi := { dst := some 22, op := Op.binOp BinOp.gtr 3 (Operand.tmp 21) (Operand.const (Value.int IntKind.i64 0)) 3, type := 4, pos := "law.go:57", after := #[{ on := 4, ground := Ground.data }], guard := none }) (v := ?tkv3006) rfl (by kernel_rfl) (by kernel_rfl) (by kernel_rfl) (fun _ _ _ h => h) (Or.inl ⟨by rfl, ?tky3006⟩) hH3004 ?tkr3006
        case tky3006 => (intro w' hSw; clear hSw; go_simp; try with_reducible rfl)
        try simp only [Act.put, List.setIfInBounds_toArray, List.set_cons_zero, List.set_cons_succ]
        refine wpAnyH_take (i := 6) (oi := { dst := some 23, op := Op.move (Operand.tmp 22), type := 4, pos := "law.go:57", after := #[{ on := 5, ground := Ground.data }, { on := 3, ground := Ground.chain }], guard := none }) (v := ?tkv3007) rfl (by kernel_rfl) (by kernel_rfl) (by kernel_rfl) (fun _ _ _ h => h) (Or.inl ⟨by rfl, ?tky3007⟩) hH3004 ?tkr3007
        case tky3007 => (intro w' hSw; clear hSw; go_simp; try with_reducible rfl)
        try simp only [Act.put, List.setIfInBounds_toArray, List.set_cons_zero, List.set_cons_succ]
        refine wpAnyH_take (i := 7) (oi := { dst := some 24, op := Op.move (Operand.tmp 2), type := 23, pos := "law.go:57", after := #[{ on := 6, ground := Ground.guard }], guard := some (6, false) }) (v := ?tkv3008) rfl (by kernel_rfl) (by kernel_rfl) (by kernel_rfl) (fun _ _ _ h => h) (Or.inl ⟨by rfl, ?tky3008⟩) hH3004 ?tkr3008
        case tky3008 => (intro w' hSw; clear hSw; go_simp; try with_reducible rfl)
        try simp only [Act.put, List.setIfInBounds_toArray, List.set_cons_zero, List.set_cons_succ]
        refine wpAnyH_take (i := 8) (oi := { dst := some 25, op := Op.call { callee := Callee.builtin Builtin.len, args := #[Operand.tmp 24], argTypes := #[23] }, type := 3, pos := "law.go:57", after := #[{ on := 7, ground := Ground.data }, { on := 6, ground := Ground.guard }], guard := some (6, false) }) (v := ?tkv3009) rfl (by kernel_rfl) (by kernel_rfl) (by kernel_rfl) (fun _ _ _ h => h) (Or.inl ⟨by rfl, ?tky3009⟩) hH3004 ?tkr3009
        case tky3009 => (intro w' hSw; clear hSw; go_simp; try with_reducible rfl)
        try simp only [Act.put, List.setIfInBounds_toArray, List.set_cons_zero, List.set_cons_succ]
        refine wpAnyH_take (i := 9) (oi := { dst := some 26, op := Op.binOp BinOp.gtr 3 (Operand.tmp 25) (Operand.const (Value.int IntKind.i64 300)) 3, type := 4, pos := "law.go:57", after := #[{ on := 8, ground := Ground.data }, { on := 6, ground := Ground.guard }], guard := some (6, false) }) (v := ?tkv3010) rfl (by kernel_rfl) (by kernel_rfl) (by kernel_rfl) (fun _ _ _ h => h) (Or.inl ⟨by rfl, ?tky3010⟩) hH3004 ?tkr3010
        case tky3010 => (intro w' hSw; clear hSw; go_simp; try with_reducible rfl)
        try simp only [Act.put, List.setIfInBounds_toArray, List.set_cons_zero, List.set_cons_succ]
        refine wpAnyH_take (i := 10) (oi := { dst := some 27, op := Op.pick (Operand.tmp 23) (Operand.const (Value.bool true)) (Operand.tmp 26), type := 4, pos := "law.go:57", after := #[{ on := 6, ground := Ground.data }, { on := 9, ground := Ground.data }], guard := none }) (v := ?tkv3011) rfl (by kernel_rfl) (by kernel_rfl) (by kernel_rfl) (fun _ _ _ h => h) (Or.inl ⟨by rfl, ?tky3011⟩) hH3004 ?tkr3011
        case tky3011 => (intro w' hSw; clear hSw; go_simp; try with_reducible rfl)
        try simp only [Act.put, List.setIfInBounds_toArray, List.set_cons_zero, List.set_cons_succ]
        refine wpAnyH_done (by kernel_rfl) ?_ _
        refine NoPanic.normal ?_
        have HEND := Lib.hid (HE.out _ (hH3004))
        go_wp2_with fail
        go_meet
        exact ⟨by rw [show IntKind.i64.wrap 0 = 0 from rfl]; simp; omega, HEND⟩
      case rest =>
        obtain ⟨rfl, HE2⟩ := hcut
        clear HE
        obtain ⟨wD, rfl⟩ : ∃ W : World, W = wc := ⟨_, rfl⟩
        by_cases hn300 : 300 < n
        · rw [decide_eq_true hn300]
          go_wp2_with fail
          refine (awake19_any _).mono ?_
          rintro e wz ⟨rfl, hbz⟩
          have hb := (HE2.out.below hbz).b
          go_wp2_with fail
          go_ret
          exact ⟨rfl, hb⟩
        rw [decide_eq_false hn300]
        clear hn300
        go_wp2_with ((with_reducible show wpList _ _ _ _ _ _); refine wpList_load_row (o := ⟨some 30, _, _, _, _, _⟩) rfl _ (.tmp 3) rfl w.heap.size rfl _ _ _ _ (HE2.out.bx _ _ _ (.tail _ (.head _))) Try.underlying30 rfl IA.out ?_)
        cases hm : L.may with
        | false =>
          refine (bytesS_no (HE2.out.st _ _ (.tail _ (.head _))) hm).mono ?_
          rintro e w3 ⟨rfl, hb3⟩
          have E3 := Lib.hid (HE2.out.below hb3)
          clear hb3 HE2
          go_wp2_with ((with_reducible show wpList _ _ _ _ _ _); refine wpList_load_row (o := ⟨some 36, _, _, _, _, _⟩) rfl _ (.tmp 3) rfl w.heap.size rfl _ _ _ _ (E3.out.bx _ _ _ (.tail _ (.head _))) Try.underlying30 rfl IA.out ?_)
          refine (mayS (E3.out.st _ _ (.tail _ (.head _)))).mono ?_
          rintro e w4 ⟨rfl, hb4⟩
          rw [hm]
          have E4 := Lib.hid (E3.out.below hb4)
          clear hb4 E3 hm
          go_wp2_with fail
          refine (parse_any A n c l w4 ((HR.out.below E4.out.b).more E4.out.b.size) hnc hcm).mono ?_
          rintro e wP ⟨csT, rfl, sT, hbT⟩
          have IT := Lib.hid sT.out.inf
          have OT := Lib.hid sT.out.one
          have ZT : Hid (17 = csT.size) := Lib.hid sT.out.size.symm
          have EA := Lib.hid (((E4.out.below hbT.out).addSt sT.out).alloc csT 30)
          clear sT hbT
          rcases parse_err l with h0 | h2 | h3
          · rw [h0]
            obtain ⟨tm, tw, tb⟩ := parse_ok h0
            have HTM := Lib.hid tm
            have HTW := Lib.hid tw
            have HTB := Lib.hid tb
            clear h0 tm tw tb
            go_wp2_with (first
              | ((with_reducible show wpList _ _ _ _ _ _); refine wpList_store_new rfl rfl _ (.tmp 13) (.tmp 82) rfl _ _ csT _ rfl rfl IT.out ZT.out OT.out ?_)
              | ((with_reducible show wpList _ _ _ _ _ _); refine wpList_load_row (o := ⟨some 96, _, _, _, _, _⟩) rfl _ (.tmp 13) rfl wP.heap.size rfl _ _ _ _ (EA.out.bx _ _ _ (.head _)) Try.underlying30 rfl IT.out ?_))
            refine (bytesS_yes (EA.out.st _ _ (.head _)) HTM.out HTW.out).mono ?_
            rw [HTB.out]
            rintro e wQ ⟨AQ, nQ, cQ, rfl, hnQ, OQ, hbQ⟩
            have EQ := Lib.hid (EA.out.below hbQ.out)
            have RQ := Lib.hid (Row.of_own OQ.out)
            clear hnQ OQ hbQ EA
            go_wp2_with ((with_reducible show wpList _ _ _ _ _ _); refine wpList_load_row (o := ⟨some 100, _, _, _, _, _⟩) rfl _ (.tmp 13) rfl wP.heap.size rfl _ _ _ _ (EQ.out.bx _ _ _ (.head _)) Try.underlying30 rfl IT.out ?_)
            refine (mayS (EQ.out.st _ _ (.head _))).mono ?_
            rintro e wR ⟨rfl, hbR⟩
            rw [HTM.out]
            have RR := RQ.out.below hbR
            have ER := Lib.hid (EQ.out.below hbR)
            have R2 := HR.out.below ER.out.b
            have hk1 := run_string_row (P := Try.prog) (show Row wR _ AQ nQ (bv l) from RR) cQ 23 9 5 Try.underlying23 Try.underlying5 Try.underlying9
            have hk2 := run_string_row (P := Try.prog) (show Row wR _ A n (bv l) from R2) c 23 9 5 Try.underlying23 Try.underlying5 Try.underlying9
            clear hbR EQ RQ RR R2
            go_wp2_with fail
            refine (awake19_any _).mono ?_
            rintro e wz ⟨rfl, hbz⟩
            have hb := (ER.out.below hbz).b
            go_wp2_with fail
            go_ret
            exact ⟨rfl, hb⟩
          · rw [h2]
            go_wp2_with ((with_reducible show wpList _ _ _ _ _ _); refine wpList_store_new rfl rfl _ (.tmp 13) (.tmp 82) rfl _ _ csT _ rfl rfl IT.out ZT.out OT.out ?_)
            refine (awake19_any _).mono ?_
            rintro e wz ⟨rfl, hbz⟩
            have hb := (EA.out.below hbz).b
            go_wp2_with fail
            go_ret
            exact ⟨rfl, hb⟩
          · rw [h3]
            go_wp2_with ((with_reducible show wpList _ _ _ _ _ _); refine wpList_store_new rfl rfl _ (.tmp 13) (.tmp 82) rfl _ _ csT _ rfl rfl IT.out ZT.out OT.out ?_)
            refine (awake19_any _).mono ?_
            rintro e wz ⟨rfl, hbz⟩
            have hb := (EA.out.below hbz).b
            go_wp2_with fail
            go_ret
            exact ⟨rfl, hb⟩
        | true =>
          have HML := Lib.hid hm
          clear hm
          refine (bytesS_yes (HE2.out.st _ _ (.tail _ (.head _))) HML.out HWL.out).mono ?_
          rintro e w3 ⟨A5, n5, c5, rfl, hn5, O5, hb5⟩
          have h133 : n5 ≤ 133 := by
            rw [hn5.out, bytes_length HML.out HWL.out]
            simp only [lenN]
            split <;> split <;> split <;> omega
          have q245 : decide ((245 : Int) < (n5 : Int)) = false := by simp; omega
          have q245b : ¬ (245 : Int) < (n5 : Int) := by omega
          have E3 := Lib.hid (HE2.out.below hb5.out)
          have C5 := Lib.hid (own_cap O5.out)
          have R5 := Lib.hid (Row.of_own O5.out)
          clear hn5 O5 hb5 HE2
          go_wp2_with ((with_reducible show wpList _ _ _ _ _ _); refine wpList_load_row (o := ⟨some 36, _, _, _, _, _⟩) rfl _ (.tmp 3) rfl w.heap.size rfl _ _ _ _ (E3.out.bx _ _ _ (.tail _ (.head _))) Try.underlying30 rfl IA.out ?_)
          refine (mayS (E3.out.st _ _ (.tail _ (.head _)))).mono ?_
          rintro e w4 ⟨rfl, hb4⟩
          rw [HML.out]
          have E4 := Lib.hid (E3.out.below hb4)
          have R4 := Lib.hid ((R5.out.below hb4).more hb4.size)
          clear hb4 E3 R5
          go_wp2_with fail
          refine (parse_any A5 n5 c5 L.bytes w4 R4.out C5.out.1 C5.out.2).mono ?_
          rintro e w7 ⟨cs7, rfl, s7, hb7⟩
          rw [(parse_bytes HML.out HWL.out).1]
          have S7 : Hid (IsSt w7 (fun b => w4.heap.size ≤ b) cs7 L) := Lib.hid (by have := s7.out; rwa [(parse_bytes HML.out HWL.out).2] at this)
          have I7 := Lib.hid S7.out.inf
          have O7 := Lib.hid S7.out.one
          have Z7 : Hid (17 = cs7.size) := Lib.hid S7.out.size.symm
          have ba : Below w4.heap.size w4 (w7.alloc (.cells cs7 30)) := hb7.out.alloc hb7.out.size _
          have E7 := Lib.hid (((E4.out.below hb7.out).addSt S7.out).alloc cs7 30)
          have R7 := Lib.hid ((R4.out.below ba).more ba.size)
          clear s7 hb7 S7 E4 R4 ba
          go_wp2_with (first
            | ((with_reducible show wpList _ _ _ _ _ _); refine wpList_store_new rfl rfl _ (.tmp 9) (.tmp 44) rfl _ _ cs7 _ rfl rfl I7.out Z7.out O7.out ?_)
            | ((with_reducible show wpList _ _ _ _ _ _); refine wpList_load_row (o := ⟨some 47, _, _, _, _, _⟩) rfl _ (.tmp 4) rfl (w.heap.size + 1) rfl _ _ _ _ (E7.out.bx _ _ _ (.tail _ (.head _))) Try.underlying30 rfl IB.out ?_))
          generalize w7.alloc (.cells cs7 30) = w8 at *
          cases hk : K.may with
          | false =>
            refine (bytesS_no (E7.out.st _ _ (.tail _ (.head _))) hk).mono ?_
            rintro e w9 ⟨rfl, hb9⟩
            have EX := Lib.hid (E7.out.below hb9)
            clear hb9 E7 R7 hk
            go_upto_region 9 with fail
            generalize w9 = wB at *
            have HE : Hid (∀ W, Below wB.heap.size wB W → Env w W [(w7.heap.size, cs7, 30), ((w.heap.size + 1), ds, 30), (w.heap.size, cs, 30)] [(cs7, L), (ds, K), (cs, L)] []) := Lib.hid fun W hW => EX.out.below hW
            go_cut [78] (fun s78 wx => s78 = .bool false ∧ Hid (Env w wx [(w7.heap.size, cs7, 30), ((w.heap.size + 1), ds, 30), (w.heap.size, cs, 30)] [(cs7, L), (ds, K), (cs, L)] []))
            case first =>
              refine wp_region_noPanic ?_
              refine wp_region_held_drew (S := (fun W => Below (wB.heap.size) wB W)) (by kernel_rfl) (Below.refl _ _).drew (fun hH0 => ?_)
              have hH0 : Below (wB.heap.size) wB wB.drew := hH0
              generalize wB.drew = wd7000 at *
              refine wpAnyH_take (i := 0) (oi := { dst := some 51, op := Op.move (Operand.tmp 10), type := 33, pos := "law.go:67", after := #[], guard := none }) (v := ?tkv7001) rfl (by kernel_rfl) (by kernel_rfl) (by kernel_rfl) (fun _ _ _ h => h) (Or.inl ⟨by rfl, ?tky7001⟩) hH0 ?tkr7001
              case tky7001 => (intro w' hSw; clear hSw; go_simp; try with_reducible rfl)
              try simp only [Act.put, List.setIfInBounds_toArray, List.set_cons_zero, List.set_cons_succ]
              refine wpAnyH_take (i := 1) (oi := { dst := some 52, op := Op.binOp BinOp.neq 33 (Operand.tmp 51) (Operand.const (Value.int IntKind.i64 0)) 33, type := 4, pos := "law.go:67", after := #[{ on := 0, ground := Ground.data }], guard := none }) (v := ?tkv7002) rfl (by kernel_rfl) (by kernel_rfl) (by kernel_rfl) (fun _ _ _ h => h) (Or.inl ⟨by rfl, ?tky7002⟩) hH0 ?tkr7002
              case tky7002 => (intro w' hSw; clear hSw; go_simp; try with_reducible rfl)
              try simp only [Act.put, List.setIfInBounds_toArray, List.set_cons_zero, List.set_cons_succ]
              refine wpAnyH_take (i := 2) (oi := { dst := some 53, op := Op.move (Operand.tmp 52), type := 4, pos := "law.go:67", after := #[{ on := 1, ground := Ground.data }], guard := none }) (v := ?tkv7003) rfl (by kernel_rfl) (by kernel_rfl) (by kernel_rfl) (fun _ _ _ h => h) (Or.inl ⟨by rfl, ?tky7003⟩) hH0 ?tkr7003
              case tky7003 => (intro w' hSw; clear hSw; go_simp; try with_reducible rfl)
              try simp only [Act.put, List.setIfInBounds_toArray, List.set_cons_zero, List.set_cons_succ]
              refine wpAnyH_take (i := 3) (oi := { dst := some 54, op := Op.load 30 (Operand.tmp 9), type := 30, pos := "law.go:67", after := #[{ on := 2, ground := Ground.guard }], guard := some (2, false) }) (v := .agg cs7) rfl (by kernel_rfl) (by kernel_rfl) (by kernel_rfl) (fun _ _ _ h => h) (yields_row (by rfl) _ _ rfl (w7.heap.size) rfl _ _ _ _ (fun W hW => (HE.out W hW).bx _ _ _ (.head _)) Try.underlying30 rfl I7.out) hH0 ?tkr7004
              try simp only [Act.put, List.setIfInBounds_toArray, List.set_cons_zero, List.set_cons_succ]
              refine wpAnyH_take (i := 4) (oi := { dst := some 55, op := Op.load 30 (Operand.tmp 3), type := 30, pos := "law.go:67", after := #[{ on := 2, ground := Ground.guard }], guard := some (2, false) }) (v := .agg cs) rfl (by kernel_rfl) (by kernel_rfl) (by kernel_rfl) (fun _ _ _ h => h) (yields_row (by rfl) _ _ rfl (w.heap.size) rfl _ _ _ _ (fun W hW => (HE.out W hW).bx _ _ _ (.tail _ (.tail _ (.head _)))) Try.underlying30 rfl IA.out) hH0 ?tkr7005
              try simp only [Act.put, List.setIfInBounds_toArray, List.set_cons_zero, List.set_cons_succ]
              refine wpAnyH_ready (rs := [5]) (by kernel_rfl) (by simp) ?_
              refine AllReadyH.cons (o := { dst := some 56, op := Op.call { callee := Callee.value (Operand.func 19), args := #[Operand.tmp 54, Operand.tmp 55], argTypes := #[30, 30] }, type := 4, pos := "law.go:67", after := #[{ on := 3, ground := Ground.data }, { on := 4, ground := Ground.data }, { on := 2, ground := Ground.chain }, { on := 2, ground := Ground.guard }], guard := some (2, false) }) rfl (fun K hK => ?_) AllReadyH.nil
              go_simp
              refine (sameS ((HE.out wd7000 (hH0)).st _ _ (.head _)) ((HE.out wd7000 (hH0)).st _ _ (.tail _ (.tail _ (.head _))))).mono ?_
              rintro e' wn7006 ⟨rfl, hb7006⟩
              rw [eqb_refl]
              go_simp
              have hS7006 : Below (wB.heap.size) wB wn7006 := (hH0).trans (hb7006.mono (hH0).size)
              refine hK.out _ _ hS7006 (fun hH7006 => ?_)
              have hH7006 : Below (wB.heap.size) wB wn7006 := hH7006
              clear hK K hS7006
              try simp only [Act.put, List.setIfInBounds_toArray, List.set_cons_zero, List.set_cons_succ]
              refine wpAnyH_take (i := 6) (oi := { dst := some 57, op := Op.unOp UnOp.not 4 (Operand.tmp 56), type := 4, pos := "law.go:67", after := #[{ on := 5, ground := Ground.data }, { on := 2, ground := Ground.guard }], guard := some (2, false) }) (v := ?tkv7007) rfl (by kernel_rfl) (by kernel_rfl) (by kernel_rfl) (fun _ _ _ h => h) (Or.inl ⟨by rfl, ?tky7007⟩) hH7006 ?tkr7007
              case tky7007 => (intro w' hSw; clear hSw; go_simp; try with_reducible rfl)
              try simp only [Act.put, List.setIfInBounds_toArray, List.set_cons_zero, List.set_cons_succ]
              refine wpAnyH_take (i := 7) (oi := { dst := some 58, op := Op.pick (Operand.tmp 53) (Operand.const (Value.bool true)) (Operand.tmp 57), type := 4, pos := "law.go:67", after := #[{ on := 2, ground := Ground.data }, { on := 6, ground := Ground.data }], guard := none }) (v := ?tkv7008) rfl (by kernel_rfl) (by kernel_rfl) (by kernel_rfl) (fun _ _ _ h => h) (Or.inl ⟨by rfl, ?tky7008⟩) hH7006 ?tkr7008
              case tky7008 => (intro w' hSw; clear hSw; go_simp; try with_reducible rfl)
              try simp only [Act.put, List.setIfInBounds_toArray, List.set_cons_zero, List.set_cons_succ]
              refine wpAnyH_take (i := 8) (oi := { dst := some 59, op := Op.move (Operand.tmp 58), type := 4, pos := "law.go:67", after := #[{ on := 7, ground := Ground.data }, { on := 5, ground := Ground.chain }], guard := none }) (v := ?tkv7009) rfl (by kernel_rfl) (by kernel_rfl) (by kernel_rfl) (fun _ _ _ h => h) (Or.inl ⟨by rfl, ?tky7009⟩) hH7006 ?tkr7009
              case tky7009 => (intro w' hSw; clear hSw; go_simp; try with_reducible rfl)
              try simp only [Act.put, List.setIfInBounds_toArray, List.set_cons_zero, List.set_cons_succ]
              refine wpAnyH_take (i := 9) (oi := { dst := some 60, op := Op.move (Operand.tmp 7), type := 23, pos := "law.go:67", after := #[{ on := 8, ground := Ground.guard }], guard := some (8, false) }) (v := ?tkv7010) rfl (by kernel_rfl) (by kernel_rfl) (by kernel_rfl) (fun _ _ _ h => h) (Or.inl ⟨by rfl, ?tky7010⟩) hH7006 ?tkr7010
              case tky7010 => (intro w' hSw; clear hSw; go_simp; try with_reducible rfl)
              try simp only [Act.put, List.setIfInBounds_toArray, List.set_cons_zero, List.set_cons_succ]
              refine wpAnyH_take (i := 10) (oi := { dst := some 61, op := Op.call { callee := Callee.builtin Builtin.len, args := #[Operand.tmp 60], argTypes := #[23] }, type := 3, pos := "law.go:67", after := #[{ on := 9, ground := Ground.data }, { on := 8, ground := Ground.guard }], guard := some (8, false) }) (v := ?tkv7011) rfl (by kernel_rfl) (by kernel_rfl) (by kernel_rfl) (fun _ _ _ h => h) (Or.inl ⟨by rfl, ?tky7011⟩) hH7006 ?tkr7011
              case tky7011 => (intro w' hSw; clear hSw; go_simp; try with_reducible rfl)
              try simp only [Act.put, List.setIfInBounds_toArray, List.set_cons_zero, List.set_cons_succ]
              refine wpAnyH_take (i := 11) (oi := { dst := some 62, op := Op.binOp BinOp.gtr 3 (Operand.tmp 61) (Operand.const (Value.int IntKind.i64 245)) 3, type := 4, pos := "law.go:67", after := #[{ on := 10, ground := Ground.data }, { on := 8, ground := Ground.guard }], guard := some (8, false) }) (v := ?tkv7012) rfl (by kernel_rfl) (by kernel_rfl) (by kernel_rfl) (fun _ _ _ h => h) (Or.inl ⟨by rfl, ?tky7012⟩) hH7006 ?tkr7012
              case tky7012 => (intro w' hSw; clear hSw; go_simp; try with_reducible rfl)
              try simp only [Act.put, List.setIfInBounds_toArray, List.set_cons_zero, List.set_cons_succ]
              refine wpAnyH_take (i := 12) (oi := { dst := some 63, op := Op.pick (Operand.tmp 59) (Operand.const (Value.bool true)) (Operand.tmp 62), type := 4, pos := "law.go:67", after := #[{ on := 8, ground := Ground.data }, { on := 11, ground := Ground.data }], guard := none }) (v := ?tkv7013) rfl (by kernel_rfl) (by kernel_rfl) (by kernel_rfl) (fun _ _ _ h => h) (Or.inl ⟨by rfl, ?tky7013⟩) hH7006 ?tkr7013
              case tky7013 => (intro w' hSw; clear hSw; go_simp; try with_reducible rfl)
              try simp only [Act.put, List.setIfInBounds_toArray, List.set_cons_zero, List.set_cons_succ]
              refine wpAnyH_take (i := 13) (oi := { dst := some 64, op := Op.move (Operand.tmp 63), type := 4, pos := "law.go:67", after := #[{ on := 12, ground := Ground.data }, { on := 8, ground := Ground.chain }], guard := none }) (v := ?tkv7014) rfl (by kernel_rfl) (by kernel_rfl) (by kernel_rfl) (fun _ _ _ h => h) (Or.inl ⟨by rfl, ?tky7014⟩) hH7006 ?tkr7014
              case tky7014 => (intro w' hSw; clear hSw; go_simp; try with_reducible rfl)
              try simp only [Act.put, List.setIfInBounds_toArray, List.set_cons_zero, List.set_cons_succ]
              refine wpAnyH_take (i := 14) (oi := { dst := some 65, op := Op.move (Operand.tmp 12), type := 33, pos := "law.go:67", after := #[{ on := 13, ground := Ground.guard }], guard := some (13, false) }) (v := ?tkv7015) rfl (by kernel_rfl) (by kernel_rfl) (by kernel_rfl) (fun _ _ _ h => h) (Or.inl ⟨by rfl, ?tky7015⟩) hH7006 ?tkr7015
              case tky7015 => (intro w' hSw; clear hSw; go_simp; try with_reducible rfl)
              try simp only [Act.put, List.setIfInBounds_toArray, List.set_cons_zero, List.set_cons_succ]
              refine wpAnyH_take (i := 15) (oi := { dst := some 66, op := Op.binOp BinOp.eql 33 (Operand.tmp 65) (Operand.const (Value.int IntKind.i64 0)) 33, type := 4, pos := "law.go:67", after := #[{ on := 14, ground := Ground.data }, { on := 13, ground := Ground.guard }], guard := some (13, false) }) (v := ?tkv7016) rfl (by kernel_rfl) (by kernel_rfl) (by kernel_rfl) (fun _ _ _ h => h) (Or.inl ⟨by rfl, ?tky7016⟩) hH7006 ?tkr7016
              case tky7016 => (intro w' hSw; clear hSw; go_simp; try with_reducible rfl)
              try simp only [Act.put, List.setIfInBounds_toArray, List.set_cons_zero, List.set_cons_succ]
              refine wpAnyH_take (i := 16) (oi := { dst := some 67, op := Op.move (Operand.tmp 66), type := 4, pos := "law.go:67", after := #[{ on := 15, ground := Ground.data }, { on := 13, ground := Ground.chain }, { on := 13, ground := Ground.guard }], guard := some (13, false) }) (v := ?tkv7017) rfl (by kernel_rfl) (by kernel_rfl) (by kernel_rfl) (fun _ _ _ h => h) (Or.inl ⟨by rfl, ?tky7017⟩) hH7006 ?tkr7017
              case tky7017 => (intro w' hSw; clear hSw; go_simp; try with_reducible rfl)
              try simp only [Act.put, List.setIfInBounds_toArray, List.set_cons_zero, List.set_cons_succ]
              refine wpAnyH_take (i := 17) (oi := { dst := some 68, op := Op.move (Operand.tmp 7), type := 23, pos := "law.go:67", after := #[{ on := 16, ground := Ground.guard }], guard := some (16, true) }) (v := undef) rfl (by kernel_rfl) (by kernel_rfl) (by kernel_rfl) (fun _ _ _ h => h) (Or.inr ⟨by rfl, rfl⟩) hH7006 ?tkr7018
              try simp only [Act.put, List.setIfInBounds_toArray, List.set_cons_zero, List.set_cons_succ]
              refine wpAnyH_take (i := 18) (oi := { dst := some 69, op := Op.convert 23 9 (Operand.tmp 68), type := 9, pos := "law.go:67", after := #[{ on := 17, ground := Ground.data }, { on := 16, ground := Ground.guard }], guard := some (16, true) }) (v := undef) rfl (by kernel_rfl) (by kernel_rfl) (by kernel_rfl) (fun _ _ _ h => h) (Or.inr ⟨by rfl, rfl⟩) hH7006 ?tkr7019
              try simp only [Act.put, List.setIfInBounds_toArray, List.set_cons_zero, List.set_cons_succ]
              refine wpAnyH_take (i := 19) (oi := { dst := some 70, op := Op.move (Operand.tmp 11), type := 23, pos := "law.go:67", after := #[{ on := 16, ground := Ground.guard }], guard := some (16, true) }) (v := undef) rfl (by kernel_rfl) (by kernel_rfl) (by kernel_rfl) (fun _ _ _ h => h) (Or.inr ⟨by rfl, rfl⟩) hH7006 ?tkr7020
              try simp only [Act.put, List.setIfInBounds_toArray, List.set_cons_zero, List.set_cons_succ]
              refine wpAnyH_take (i := 20) (oi := { dst := some 71, op := Op.convert 23 9 (Operand.tmp 70), type := 9, pos := "law.go:67", after := #[{ on := 19, ground := Ground.data }, { on := 16, ground := Ground.guard }], guard := some (16, true) }) (v := undef) rfl (by kernel_rfl) (by kernel_rfl) (by kernel_rfl) (fun _ _ _ h => h) (Or.inr ⟨by rfl, rfl⟩) hH7006 ?tkr7021
              try simp only [Act.put, List.setIfInBounds_toArray, List.set_cons_zero, List.set_cons_succ]
              refine wpAnyH_take (i := 21) (oi := { dst := some 72, op := Op.binOp BinOp.eql 9 (Operand.tmp 69) (Operand.tmp 71) 9, type := 4, pos := "law.go:67", after := #[{ on := 18, ground := Ground.data }, { on := 20, ground := Ground.data }, { on := 16, ground := Ground.guard }], guard := some (16, true) }) (v := undef) rfl (by kernel_rfl) (by kernel_rfl) (by kernel_rfl) (fun _ _ _ h => h) (Or.inr ⟨by rfl, rfl⟩) hH7006 ?tkr7022
              try simp only [Act.put, List.setIfInBounds_toArray, List.set_cons_zero, List.set_cons_succ]
              refine wpAnyH_take (i := 22) (oi := { dst := some 73, op := Op.load 30 (Operand.tmp 3), type := 30, pos := "law.go:67", after := #[{ on := 16, ground := Ground.guard }], guard := some (16, true) }) (v := undef) rfl (by kernel_rfl) (by kernel_rfl) (by kernel_rfl) (fun _ _ _ h => h) (Or.inr ⟨by rfl, rfl⟩) hH7006 ?tkr7023
              try simp only [Act.put, List.setIfInBounds_toArray, List.set_cons_zero, List.set_cons_succ]
              refine wpAnyH_take (i := 23) (oi := { dst := some 74, op := Op.load 30 (Operand.tmp 4), type := 30, pos := "law.go:67", after := #[{ on := 16, ground := Ground.guard }], guard := some (16, true) }) (v := undef) rfl (by kernel_rfl) (by kernel_rfl) (by kernel_rfl) (fun _ _ _ h => h) (Or.inr ⟨by rfl, rfl⟩) hH7006 ?tkr7024
              try simp only [Act.put, List.setIfInBounds_toArray, List.set_cons_zero, List.set_cons_succ]
              refine wpAnyH_take (i := 24) (oi := { dst := some 75, op := Op.call { callee := Callee.value (Operand.func 19), args := #[Operand.tmp 73, Operand.tmp 74], argTypes := #[30, 30] }, type := 4, pos := "law.go:67", after := #[{ on := 22, ground := Ground.data }, { on := 23, ground := Ground.data }, { on := 16, ground := Ground.chain }, { on := 16, ground := Ground.guard }], guard := some (16, true) }) (v := undef) rfl (by kernel_rfl) (by kernel_rfl) (by kernel_rfl) (fun _ _ _ h => h) (Or.inr ⟨by rfl, rfl⟩) hH7006 ?tkr7025
              try simp only [Act.put, List.setIfInBounds_toArray, List.set_cons_zero, List.set_cons_succ]
              refine wpAnyH_take (i := 25) (oi := { dst := some 76, op := Op.binOp BinOp.neq 4 (Operand.tmp 72) (Operand.tmp 75) 4, type := 4, pos := "law.go:67", after := #[{ on := 21, ground := Ground.data }, { on := 24, ground := Ground.data }, { on := 16, ground := Ground.guard }], guard := some (16, true) }) (v := undef) rfl (by kernel_rfl) (by kernel_rfl) (by kernel_rfl) (fun _ _ _ h => h) (Or.inr ⟨by rfl, rfl⟩) hH7006 ?tkr7026
              try simp only [Act.put, List.setIfInBounds_toArray, List.set_cons_zero, List.set_cons_succ]
              refine wpAnyH_take (i := 26) (oi := { dst := some 77, op := Op.pick (Operand.tmp 67) (Operand.tmp 76) (Operand.const (Value.bool false)), type := 4, pos := "law.go:67", after := #[{ on := 16, ground := Ground.data }, { on := 25, ground := Ground.data }, { on := 13, ground := Ground.guard }], guard := some (13, false) }) (v := ?tkv7027) rfl (by kernel_rfl) (by kernel_rfl) (by kernel_rfl) (fun _ _ _ h => h) (Or.inl ⟨by rfl, ?tky7027⟩) hH7006 ?tkr7027
              case tky7027 => (intro w' hSw; clear hSw; go_simp; try with_reducible rfl)
              try simp only [Act.put, List.setIfInBounds_toArray, List.set_cons_zero, List.set_cons_succ]
              refine wpAnyH_take (i := 27) (oi := { dst := some 78, op := Op.pick (Operand.tmp 64) (Operand.const (Value.bool true)) (Operand.tmp 77), type := 4, pos := "law.go:67", after := #[{ on := 13, ground := Ground.data }, { on := 26, ground := Ground.data }], guard := none }) (v := ?tkv7028) rfl (by kernel_rfl) (by kernel_rfl) (by kernel_rfl) (fun _ _ _ h => h) (Or.inl ⟨by rfl, ?tky7028⟩) hH7006 ?tkr7028
              case tky7028 => (intro w' hSw; clear hSw; go_simp; try with_reducible rfl)
              try simp only [Act.put, List.setIfInBounds_toArray, List.set_cons_zero, List.set_cons_succ]
              refine wpAnyH_done (by kernel_rfl) ?_ _
              refine NoPanic.normal ?_
              have HEND := Lib.hid (HE.out _ (hH7006))
              go_wp2_with fail
              go_meet
              exact ⟨rfl, HEND⟩
            case rest =>
              obtain ⟨rfl, HE3⟩ := hcut
              clear HE EX
              obtain ⟨wY, rfl⟩ : ∃ W : World, W = wc := ⟨_, rfl⟩
              go_wp2_with fail
              refine (parse_any A n c l wY ((HR.out.below HE3.out.b).more HE3.out.b.size) hnc hcm).mono ?_
              rintro e wP ⟨csT, rfl, sT, hbT⟩
              have IT := Lib.hid sT.out.inf
              have OT := Lib.hid sT.out.one
              have ZT : Hid (17 = csT.size) := Lib.hid sT.out.size.symm
              have EA := Lib.hid (((HE3.out.below hbT.out).addSt sT.out).alloc csT 30)
              clear sT hbT
              rcases parse_err l with h0 | h2 | h3
              · rw [h0]
                obtain ⟨tm, tw, tb⟩ := parse_ok h0
                have HTM := Lib.hid tm
                have HTW := Lib.hid tw
                have HTB := Lib.hid tb
                clear h0 tm tw tb
                go_wp2_with (first
                  | ((with_reducible show wpList _ _ _ _ _ _); refine wpList_store_new rfl rfl _ (.tmp 13) (.tmp 82) rfl _ _ csT _ rfl rfl IT.out ZT.out OT.out ?_)
                  | ((with_reducible show wpList _ _ _ _ _ _); refine wpList_load_row (o := ⟨some 96, _, _, _, _, _⟩) rfl _ (.tmp 13) rfl wP.heap.size rfl _ _ _ _ (EA.out.bx _ _ _ (.head _)) Try.underlying30 rfl IT.out ?_))
                refine (bytesS_yes (EA.out.st _ _ (.head _)) HTM.out HTW.out).mono ?_
                rw [HTB.out]
                rintro e wQ ⟨AQ, nQ, cQ, rfl, hnQ, OQ, hbQ⟩
                have EQ := Lib.hid (EA.out.below hbQ.out)
                have RQ := Lib.hid (Row.of_own OQ.out)
                clear hnQ OQ hbQ EA
                go_wp2_with ((with_reducible show wpList _ _ _ _ _ _); refine wpList_load_row (o := ⟨some 100, _, _, _, _, _⟩) rfl _ (.tmp 13) rfl wP.heap.size rfl _ _ _ _ (EQ.out.bx _ _ _ (.head _)) Try.underlying30 rfl IT.out ?_)
                refine (mayS (EQ.out.st _ _ (.head _))).mono ?_
                rintro e wR ⟨rfl, hbR⟩
                rw [HTM.out]
                have RR := RQ.out.below hbR
                have ER := Lib.hid (EQ.out.below hbR)
                have R2 := HR.out.below ER.out.b
                have hk1 := run_string_row (P := Try.prog) (show Row wR _ AQ nQ (bv l) from RR) cQ 23 9 5 Try.underlying23 Try.underlying5 Try.underlying9
                have hk2 := run_string_row (P := Try.prog) (show Row wR _ A n (bv l) from R2) c 23 9 5 Try.underlying23 Try.underlying5 Try.underlying9
                clear hbR EQ RQ RR R2
                go_wp2_with fail
                refine (awake19_any _).mono ?_
                rintro e wz ⟨rfl, hbz⟩
                have hb := (ER.out.below hbz).b
                go_wp2_with fail
                go_ret
                exact ⟨rfl, hb⟩
              · rw [h2]
                go_wp2_with ((with_reducible show wpList _ _ _ _ _ _); refine wpList_store_new rfl rfl _ (.tmp 13) (.tmp 82) rfl _ _ csT _ rfl rfl IT.out ZT.out OT.out ?_)
                refine (awake19_any _).mono ?_
                rintro e wz ⟨rfl, hbz⟩
                have hb := (EA.out.below hbz).b
                go_wp2_with fail
                go_ret
                exact ⟨rfl, hb⟩
              · rw [h3]
                go_wp2_with ((with_reducible show wpList _ _ _ _ _ _); refine wpList_store_new rfl rfl _ (.tmp 13) (.tmp 82) rfl _ _ csT _ rfl rfl IT.out ZT.out OT.out ?_)
                refine (awake19_any _).mono ?_
                rintro e wz ⟨rfl, hbz⟩
                have hb := (EA.out.below hbz).b
                go_wp2_with fail
                go_ret
                exact ⟨rfl, hb⟩
          | true =>
            have HMK := Lib.hid hk
            clear hk
            refine (bytesS_yes (E7.out.st _ _ (.tail _ (.head _))) HMK.out HWK.out).mono ?_
            rintro e w9 ⟨A9, n9, c9, rfl, hn9, O9, hb9⟩
            have EX := Lib.hid (E7.out.below hb9.out)
            have R9 := Lib.hid (Row.of_own O9.out)
            have RX := Lib.hid ((R7.out.below hb9.out).more hb9.out.size)
            have hinj := bytes_inj HML.out HWL.out HMK.out HWK.out
            clear hn9 O9 hb9 E7 R7
            go_upto_region 9 with fail
            by_cases hbb : L.bytes = K.bytes
            · have HEQ : Hid (L.eqb K = true) := Lib.hid (by rw [← hinj]; exact decide_eq_true hbb)
              rw [← hbb] at R9
              have HS1 : Hid (∀ W, Below w9.heap.size w9 W → (convert 23 9 (.slice A5 n5 c5)).run Try.prog W = .ok (.string ⟨(L.bytes).toArray⟩) W) := Lib.hid fun W hW => run_string_row (P := Try.prog) (show Row W _ A5 n5 (bv L.bytes) from RX.out.below hW) c5 23 9 5 Try.underlying23 Try.underlying5 Try.underlying9
              have HS2 : Hid (∀ W, Below w9.heap.size w9 W → (convert 23 9 (.slice A9 n9 c9)).run Try.prog W = .ok (.string ⟨(L.bytes).toArray⟩) W) := Lib.hid fun W hW => run_string_row (P := Try.prog) (show Row W _ A9 n9 (bv L.bytes) from R9.out.below hW) c9 23 9 5 Try.underlying23 Try.underlying5 Try.underlying9
              clear hinj hbb
              generalize w9 = wB at *
              have HE : Hid (∀ W, Below wB.heap.size wB W → Env w W [(w7.heap.size, cs7, 30), ((w.heap.size + 1), ds, 30), (w.heap.size, cs, 30)] [(cs7, L), (ds, K), (cs, L)] []) := Lib.hid fun W hW => EX.out.below hW
              go_cut [78] (fun s78 wx => s78 = .bool false ∧ Hid (Env w wx [(w7.heap.size, cs7, 30), ((w.heap.size + 1), ds, 30), (w.heap.size, cs, 30)] [(cs7, L), (ds, K), (cs, L)] []))
              case first =>
                refine wp_region_noPanic ?_
                refine wp_region_held_drew (S := (fun W => Below (wB.heap.size) wB W)) (by kernel_rfl) (Below.refl _ _).drew (fun hH0 => ?_)
                have hH0 : Below (wB.heap.size) wB wB.drew := hH0
                generalize wB.drew = wd8000 at *
                refine wpAnyH_take (i := 0) (oi := { dst := some 51, op := Op.move (Operand.tmp 10), type := 33, pos := "law.go:67", after := #[], guard := none }) (v := ?tkv8001) rfl (by kernel_rfl) (by kernel_rfl) (by kernel_rfl) (fun _ _ _ h => h) (Or.inl ⟨by rfl, ?tky8001⟩) hH0 ?tkr8001
                case tky8001 => (intro w' hSw; clear hSw; go_simp; try with_reducible rfl)
                try simp only [Act.put, List.setIfInBounds_toArray, List.set_cons_zero, List.set_cons_succ]
                refine wpAnyH_take (i := 1) (oi := { dst := some 52, op := Op.binOp BinOp.neq 33 (Operand.tmp 51) (Operand.const (Value.int IntKind.i64 0)) 33, type := 4, pos := "law.go:67", after := #[{ on := 0, ground := Ground.data }], guard := none }) (v := ?tkv8002) rfl (by kernel_rfl) (by kernel_rfl) (by kernel_rfl) (fun _ _ _ h => h) (Or.inl ⟨by rfl, ?tky8002⟩) hH0 ?tkr8002
                case tky8002 => (intro w' hSw; clear hSw; go_simp; try with_reducible rfl)
                try simp only [Act.put, List.setIfInBounds_toArray, List.set_cons_zero, List.set_cons_succ]
                refine wpAnyH_take (i := 2) (oi := { dst := some 53, op := Op.move (Operand.tmp 52), type := 4, pos := "law.go:67", after := #[{ on := 1, ground := Ground.data }], guard := none }) (v := ?tkv8003) rfl (by kernel_rfl) (by kernel_rfl) (by kernel_rfl) (fun _ _ _ h => h) (Or.inl ⟨by rfl, ?tky8003⟩) hH0 ?tkr8003
                case tky8003 => (intro w' hSw; clear hSw; go_simp; try with_reducible rfl)
                try simp only [Act.put, List.setIfInBounds_toArray, List.set_cons_zero, List.set_cons_succ]
                refine wpAnyH_take (i := 3) (oi := { dst := some 54, op := Op.load 30 (Operand.tmp 9), type := 30, pos := "law.go:67", after := #[{ on := 2, ground := Ground.guard }], guard := some (2, false) }) (v := .agg cs7) rfl (by kernel_rfl) (by kernel_rfl) (by kernel_rfl) (fun _ _ _ h => h) (yields_row (by rfl) _ _ rfl (w7.heap.size) rfl _ _ _ _ (fun W hW => (HE.out W hW).bx _ _ _ (.head _)) Try.underlying30 rfl I7.out) hH0 ?tkr8004
                try simp only [Act.put, List.setIfInBounds_toArray, List.set_cons_zero, List.set_cons_succ]
                refine wpAnyH_take (i := 4) (oi := { dst := some 55, op := Op.load 30 (Operand.tmp 3), type := 30, pos := "law.go:67", after := #[{ on := 2, ground := Ground.guard }], guard := some (2, false) }) (v := .agg cs) rfl (by kernel_rfl) (by kernel_rfl) (by kernel_rfl) (fun _ _ _ h => h) (yields_row (by rfl) _ _ rfl (w.heap.size) rfl _ _ _ _ (fun W hW => (HE.out W hW).bx _ _ _ (.tail _ (.tail _ (.head _)))) Try.underlying30 rfl IA.out) hH0 ?tkr8005
                try simp only [Act.put, List.setIfInBounds_toArray, List.set_cons_zero, List.set_cons_succ]
                refine wpAnyH_ready (rs := [5]) (by kernel_rfl) (by simp) ?_
                refine AllReadyH.cons (o := { dst := some 56, op := Op.call { callee := Callee.value (Operand.func 19), args := #[Operand.tmp 54, Operand.tmp 55], argTypes := #[30, 30] }, type := 4, pos := "law.go:67", after := #[{ on := 3, ground := Ground.data }, { on := 4, ground := Ground.data }, { on := 2, ground := Ground.chain }, { on := 2, ground := Ground.guard }], guard := some (2, false) }) rfl (fun K hK => ?_) AllReadyH.nil
                go_simp
                refine (sameS ((HE.out wd8000 (hH0)).st _ _ (.head _)) ((HE.out wd8000 (hH0)).st _ _ (.tail _ (.tail _ (.head _))))).mono ?_
                rintro e' wn8006 ⟨rfl, hb8006⟩
                rw [eqb_refl]
                go_simp
                have hS8006 : Below (wB.heap.size) wB wn8006 := (hH0).trans (hb8006.mono (hH0).size)
                refine hK.out _ _ hS8006 (fun hH8006 => ?_)
                have hH8006 : Below (wB.heap.size) wB wn8006 := hH8006
                clear hK K hS8006
                try simp only [Act.put, List.setIfInBounds_toArray, List.set_cons_zero, List.set_cons_succ]
                refine wpAnyH_take (i := 6) (oi := { dst := some 57, op := Op.unOp UnOp.not 4 (Operand.tmp 56), type := 4, pos := "law.go:67", after := #[{ on := 5, ground := Ground.data }, { on := 2, ground := Ground.guard }], guard := some (2, false) }) (v := ?tkv8007) rfl (by kernel_rfl) (by kernel_rfl) (by kernel_rfl) (fun _ _ _ h => h) (Or.inl ⟨by rfl, ?tky8007⟩) hH8006 ?tkr8007
                case tky8007 => (intro w' hSw; clear hSw; go_simp; try with_reducible rfl)
                try simp only [Act.put, List.setIfInBounds_toArray, List.set_cons_zero, List.set_cons_succ]
                refine wpAnyH_take (i := 7) (oi := { dst := some 58, op := Op.pick (Operand.tmp 53) (Operand.const (Value.bool true)) (Operand.tmp 57), type := 4, pos := "law.go:67", after := #[{ on := 2, ground := Ground.data }, { on := 6, ground := Ground.data }], guard := none }) (v := ?tkv8008) rfl (by kernel_rfl) (by kernel_rfl) (by kernel_rfl) (fun _ _ _ h => h) (Or.inl ⟨by rfl, ?tky8008⟩) hH8006 ?tkr8008
                case tky8008 => (intro w' hSw; clear hSw; go_simp; try with_reducible rfl)
                try simp only [Act.put, List.setIfInBounds_toArray, List.set_cons_zero, List.set_cons_succ]
                refine wpAnyH_take (i := 8) (oi := { dst := some 59, op := Op.move (Operand.tmp 58), type := 4, pos := "law.go:67", after := #[{ on := 7, ground := Ground.data }, { on := 5, ground := Ground.chain }], guard := none }) (v := ?tkv8009) rfl (by kernel_rfl) (by kernel_rfl) (by kernel_rfl) (fun _ _ _ h => h) (Or.inl ⟨by rfl, ?tky8009⟩) hH8006 ?tkr8009
                case tky8009 => (intro w' hSw; clear hSw; go_simp; try with_reducible rfl)
                try simp only [Act.put, List.setIfInBounds_toArray, List.set_cons_zero, List.set_cons_succ]
                refine wpAnyH_take (i := 9) (oi := { dst := some 60, op := Op.move (Operand.tmp 7), type := 23, pos := "law.go:67", after := #[{ on := 8, ground := Ground.guard }], guard := some (8, false) }) (v := ?tkv8010) rfl (by kernel_rfl) (by kernel_rfl) (by kernel_rfl) (fun _ _ _ h => h) (Or.inl ⟨by rfl, ?tky8010⟩) hH8006 ?tkr8010
                case tky8010 => (intro w' hSw; clear hSw; go_simp; try with_reducible rfl)
                try simp only [Act.put, List.setIfInBounds_toArray, List.set_cons_zero, List.set_cons_succ]
                refine wpAnyH_take (i := 10) (oi := { dst := some 61, op := Op.call { callee := Callee.builtin Builtin.len, args := #[Operand.tmp 60], argTypes := #[23] }, type := 3, pos := "law.go:67", after := #[{ on := 9, ground := Ground.data }, { on := 8, ground := Ground.guard }], guard := some (8, false) }) (v := ?tkv8011) rfl (by kernel_rfl) (by kernel_rfl) (by kernel_rfl) (fun _ _ _ h => h) (Or.inl ⟨by rfl, ?tky8011⟩) hH8006 ?tkr8011
                case tky8011 => (intro w' hSw; clear hSw; go_simp; try with_reducible rfl)
                try simp only [Act.put, List.setIfInBounds_toArray, List.set_cons_zero, List.set_cons_succ]
                refine wpAnyH_take (i := 11) (oi := { dst := some 62, op := Op.binOp BinOp.gtr 3 (Operand.tmp 61) (Operand.const (Value.int IntKind.i64 245)) 3, type := 4, pos := "law.go:67", after := #[{ on := 10, ground := Ground.data }, { on := 8, ground := Ground.guard }], guard := some (8, false) }) (v := ?tkv8012) rfl (by kernel_rfl) (by kernel_rfl) (by kernel_rfl) (fun _ _ _ h => h) (Or.inl ⟨by rfl, ?tky8012⟩) hH8006 ?tkr8012
                case tky8012 => (intro w' hSw; clear hSw; go_simp; try with_reducible rfl)
                try simp only [Act.put, List.setIfInBounds_toArray, List.set_cons_zero, List.set_cons_succ]
                refine wpAnyH_take (i := 12) (oi := { dst := some 63, op := Op.pick (Operand.tmp 59) (Operand.const (Value.bool true)) (Operand.tmp 62), type := 4, pos := "law.go:67", after := #[{ on := 8, ground := Ground.data }, { on := 11, ground := Ground.data }], guard := none }) (v := ?tkv8013) rfl (by kernel_rfl) (by kernel_rfl) (by kernel_rfl) (fun _ _ _ h => h) (Or.inl ⟨by rfl, ?tky8013⟩) hH8006 ?tkr8013
                case tky8013 => (intro w' hSw; clear hSw; go_simp; try with_reducible rfl)
                try simp only [Act.put, List.setIfInBounds_toArray, List.set_cons_zero, List.set_cons_succ]
                refine wpAnyH_take (i := 13) (oi := { dst := some 64, op := Op.move (Operand.tmp 63), type := 4, pos := "law.go:67", after := #[{ on := 12, ground := Ground.data }, { on := 8, ground := Ground.chain }], guard := none }) (v := ?tkv8014) rfl (by kernel_rfl) (by kernel_rfl) (by kernel_rfl) (fun _ _ _ h => h) (Or.inl ⟨by rfl, ?tky8014⟩) hH8006 ?tkr8014
                case tky8014 => (intro w' hSw; clear hSw; go_simp; try with_reducible rfl)
                try simp only [Act.put, List.setIfInBounds_toArray, List.set_cons_zero, List.set_cons_succ]
                refine wpAnyH_take (i := 14) (oi := { dst := some 65, op := Op.move (Operand.tmp 12), type := 33, pos := "law.go:67", after := #[{ on := 13, ground := Ground.guard }], guard := some (13, false) }) (v := ?tkv8015) rfl (by kernel_rfl) (by kernel_rfl) (by kernel_rfl) (fun _ _ _ h => h) (Or.inl ⟨by rfl, ?tky8015⟩) hH8006 ?tkr8015
                case tky8015 => (intro w' hSw; clear hSw; go_simp; try with_reducible rfl)
                try simp only [Act.put, List.setIfInBounds_toArray, List.set_cons_zero, List.set_cons_succ]
                refine wpAnyH_take (i := 15) (oi := { dst := some 66, op := Op.binOp BinOp.eql 33 (Operand.tmp 65) (Operand.const (Value.int IntKind.i64 0)) 33, type := 4, pos := "law.go:67", after := #[{ on := 14, ground := Ground.data }, { on := 13, ground := Ground.guard }], guard := some (13, false) }) (v := ?tkv8016) rfl (by kernel_rfl) (by kernel_rfl) (by kernel_rfl) (fun _ _ _ h => h) (Or.inl ⟨by rfl, ?tky8016⟩) hH8006 ?tkr8016
                case tky8016 => (intro w' hSw; clear hSw; go_simp; try with_reducible rfl)
                try simp only [Act.put, List.setIfInBounds_toArray, List.set_cons_zero, List.set_cons_succ]
                refine wpAnyH_take (i := 16) (oi := { dst := some 67, op := Op.move (Operand.tmp 66), type := 4, pos := "law.go:67", after := #[{ on := 15, ground := Ground.data }, { on := 13, ground := Ground.chain }, { on := 13, ground := Ground.guard }], guard := some (13, false) }) (v := ?tkv8017) rfl (by kernel_rfl) (by kernel_rfl) (by kernel_rfl) (fun _ _ _ h => h) (Or.inl ⟨by rfl, ?tky8017⟩) hH8006 ?tkr8017
                case tky8017 => (intro w' hSw; clear hSw; go_simp; try with_reducible rfl)
                try simp only [Act.put, List.setIfInBounds_toArray, List.set_cons_zero, List.set_cons_succ]
                refine wpAnyH_take (i := 17) (oi := { dst := some 68, op := Op.move (Operand.tmp 7), type := 23, pos := "law.go:67", after := #[{ on := 16, ground := Ground.guard }], guard := some (16, true) }) (v := ?tkv8018) rfl (by kernel_rfl) (by kernel_rfl) (by kernel_rfl) (fun _ _ _ h => h) (Or.inl ⟨by rfl, ?tky8018⟩) hH8006 ?tkr8018
                case tky8018 => (intro w' hSw; clear hSw; go_simp; try with_reducible rfl)
                try simp only [Act.put, List.setIfInBounds_toArray, List.set_cons_zero, List.set_cons_succ]
                refine wpAnyH_take (i := 18) (oi := { dst := some 69, op := Op.convert 23 9 (Operand.tmp 68), type := 9, pos := "law.go:67", after := #[{ on := 17, ground := Ground.data }, { on := 16, ground := Ground.guard }], guard := some (16, true) }) (v := ?tkv8019) rfl (by kernel_rfl) (by kernel_rfl) (by kernel_rfl) (fun _ _ _ h => h) (Or.inl ⟨by rfl, ?tky8019⟩) hH8006 ?tkr8019
                case tky8019 => (intro w' hSw; have z0 := HS1.out _ hSw; have z1 := HS2.out _ hSw; clear hSw; go_simp; try with_reducible rfl)
                try simp only [Act.put, List.setIfInBounds_toArray, List.set_cons_zero, List.set_cons_succ]
                refine wpAnyH_take (i := 19) (oi := { dst := some 70, op := Op.move (Operand.tmp 11), type := 23, pos := "law.go:67", after := #[{ on := 16, ground := Ground.guard }], guard := some (16, true) }) (v := ?tkv8020) rfl (by kernel_rfl) (by kernel_rfl) (by kernel_rfl) (fun _ _ _ h => h) (Or.inl ⟨by rfl, ?tky8020⟩) hH8006 ?tkr8020
                case tky8020 => (intro w' hSw; clear hSw; go_simp; try with_reducible rfl)
                try simp only [Act.put, List.setIfInBounds_toArray, List.set_cons_zero, List.set_cons_succ]
                refine wpAnyH_take (i := 20) (oi := { dst := some 71, op := Op.convert 23 9 (Operand.tmp 70), type := 9, pos := "law.go:67", after := #[{ on := 19, ground := Ground.data }, { on := 16, ground := Ground.guard }], guard := some (16, true) }) (v := ?tkv8021) rfl (by kernel_rfl) (by kernel_rfl) (by kernel_rfl) (fun _ _ _ h => h) (Or.inl ⟨by rfl, ?tky8021⟩) hH8006 ?tkr8021
                case tky8021 => (intro w' hSw; have z0 := HS1.out _ hSw; have z1 := HS2.out _ hSw; clear hSw; go_simp; try with_reducible rfl)
                try simp only [Act.put, List.setIfInBounds_toArray, List.set_cons_zero, List.set_cons_succ]
                refine wpAnyH_take (i := 21) (oi := { dst := some 72, op := Op.binOp BinOp.eql 9 (Operand.tmp 69) (Operand.tmp 71) 9, type := 4, pos := "law.go:67", after := #[{ on := 18, ground := Ground.data }, { on := 20, ground := Ground.data }, { on := 16, ground := Ground.guard }], guard := some (16, true) }) (v := ?tkv8022) rfl (by kernel_rfl) (by kernel_rfl) (by kernel_rfl) (fun _ _ _ h => h) (Or.inl ⟨by rfl, ?tky8022⟩) hH8006 ?tkr8022
                case tky8022 => (intro w' hSw; clear hSw; go_simp; try with_reducible rfl)
                try simp only [Act.put, List.setIfInBounds_toArray, List.set_cons_zero, List.set_cons_succ]
                refine wpAnyH_take (i := 22) (oi := { dst := some 73, op := Op.load 30 (Operand.tmp 3), type := 30, pos := "law.go:67", after := #[{ on := 16, ground := Ground.guard }], guard := some (16, true) }) (v := .agg cs) rfl (by kernel_rfl) (by kernel_rfl) (by kernel_rfl) (fun _ _ _ h => h) (yields_row (by rfl) _ _ rfl (w.heap.size) rfl _ _ _ _ (fun W hW => (HE.out W hW).bx _ _ _ (.tail _ (.tail _ (.head _)))) Try.underlying30 rfl IA.out) hH8006 ?tkr8023
                try simp only [Act.put, List.setIfInBounds_toArray, List.set_cons_zero, List.set_cons_succ]
                refine wpAnyH_take (i := 23) (oi := { dst := some 74, op := Op.load 30 (Operand.tmp 4), type := 30, pos := "law.go:67", after := #[{ on := 16, ground := Ground.guard }], guard := some (16, true) }) (v := .agg ds) rfl (by kernel_rfl) (by kernel_rfl) (by kernel_rfl) (fun _ _ _ h => h) (yields_row (by rfl) _ _ rfl ((w.heap.size + 1)) rfl _ _ _ _ (fun W hW => (HE.out W hW).bx _ _ _ (.tail _ (.head _))) Try.underlying30 rfl IB.out) hH8006 ?tkr8024
                try simp only [Act.put, List.setIfInBounds_toArray, List.set_cons_zero, List.set_cons_succ]
                refine wpAnyH_ready (rs := [24]) (by kernel_rfl) (by simp) ?_
                refine AllReadyH.cons (o := { dst := some 75, op := Op.call { callee := Callee.value (Operand.func 19), args := #[Operand.tmp 73, Operand.tmp 74], argTypes := #[30, 30] }, type := 4, pos := "law.go:67", after := #[{ on := 22, ground := Ground.data }, { on := 23, ground := Ground.data }, { on := 16, ground := Ground.chain }, { on := 16, ground := Ground.guard }], guard := some (16, true) }) rfl (fun K hK => ?_) AllReadyH.nil
                go_simp
                refine (sameS ((HE.out wn8006 (hH8006)).st _ _ (.tail _ (.tail _ (.head _)))) ((HE.out wn8006 (hH8006)).st _ _ (.tail _ (.head _)))).mono ?_
                rintro e' wn8025 ⟨rfl, hb8025⟩
                rw [HEQ.out]
                go_simp
                have hS8025 : Below (wB.heap.size) wB wn8025 := (hH8006).trans (hb8025.mono (hH8006).size)
                refine hK.out _ _ hS8025 (fun hH8025 => ?_)
                have hH8025 : Below (wB.heap.size) wB wn8025 := hH8025
                clear hK K hS8025
                try simp only [Act.put, List.setIfInBounds_toArray, List.set_cons_zero, List.set_cons_succ]
                refine wpAnyH_take (i := 25) (oi := { dst := some 76, op := Op.binOp BinOp.neq 4 (Operand.tmp 72) (Operand.tmp 75) 4, type := 4, pos := "law.go:67", after := #[{ on := 21, ground := Ground.data }, { on := 24, ground := Ground.data }, { on := 16, ground := Ground.guard }], guard := some (16, true) }) (v := ?tkv8026) rfl (by kernel_rfl) (by kernel_rfl) (by kernel_rfl) (fun _ _ _ h => h) (Or.inl ⟨by rfl, ?tky8026⟩) hH8025 ?tkr8026
                case tky8026 => (intro w' hSw; clear hSw; go_simp; try with_reducible rfl)
                try simp only [Act.put, List.setIfInBounds_toArray, List.set_cons_zero, List.set_cons_succ]
                refine wpAnyH_take (i := 26) (oi := { dst := some 77, op := Op.pick (Operand.tmp 67) (Operand.tmp 76) (Operand.const (Value.bool false)), type := 4, pos := "law.go:67", after := #[{ on := 16, ground := Ground.data }, { on := 25, ground := Ground.data }, { on := 13, ground := Ground.guard }], guard := some (13, false) }) (v := ?tkv8027) rfl (by kernel_rfl) (by kernel_rfl) (by kernel_rfl) (fun _ _ _ h => h) (Or.inl ⟨by rfl, ?tky8027⟩) hH8025 ?tkr8027
                case tky8027 => (intro w' hSw; clear hSw; go_simp; try with_reducible rfl)
                try simp only [Act.put, List.setIfInBounds_toArray, List.set_cons_zero, List.set_cons_succ]
                refine wpAnyH_take (i := 27) (oi := { dst := some 78, op := Op.pick (Operand.tmp 64) (Operand.const (Value.bool true)) (Operand.tmp 77), type := 4, pos := "law.go:67", after := #[{ on := 13, ground := Ground.data }, { on := 26, ground := Ground.data }], guard := none }) (v := ?tkv8028) rfl (by kernel_rfl) (by kernel_rfl) (by kernel_rfl) (fun _ _ _ h => h) (Or.inl ⟨by rfl, ?tky8028⟩) hH8025 ?tkr8028
                case tky8028 => (intro w' hSw; clear hSw; go_simp; try with_reducible rfl)
                try simp only [Act.put, List.setIfInBounds_toArray, List.set_cons_zero, List.set_cons_succ]
                refine wpAnyH_done (by kernel_rfl) ?_ _
                refine NoPanic.normal ?_
                have HEND := Lib.hid (HE.out _ (hH8025))
                go_wp2_with fail
                go_meet
                exact ⟨rfl, HEND⟩
              case rest =>
                obtain ⟨rfl, HE3⟩ := hcut
                clear HE EX
                obtain ⟨wY, rfl⟩ : ∃ W : World, W = wc := ⟨_, rfl⟩
                go_wp2_with fail
                refine (parse_any A n c l wY ((HR.out.below HE3.out.b).more HE3.out.b.size) hnc hcm).mono ?_
                rintro e wP ⟨csT, rfl, sT, hbT⟩
                have IT := Lib.hid sT.out.inf
                have OT := Lib.hid sT.out.one
                have ZT : Hid (17 = csT.size) := Lib.hid sT.out.size.symm
                have EA := Lib.hid (((HE3.out.below hbT.out).addSt sT.out).alloc csT 30)
                clear sT hbT
                rcases parse_err l with h0 | h2 | h3
                · rw [h0]
                  obtain ⟨tm, tw, tb⟩ := parse_ok h0
                  have HTM := Lib.hid tm
                  have HTW := Lib.hid tw
                  have HTB := Lib.hid tb
                  clear h0 tm tw tb
                  go_wp2_with (first
                    | ((with_reducible show wpList _ _ _ _ _ _); refine wpList_store_new rfl rfl _ (.tmp 13) (.tmp 82) rfl _ _ csT _ rfl rfl IT.out ZT.out OT.out ?_)
                    | ((with_reducible show wpList _ _ _ _ _ _); refine wpList_load_row (o := ⟨some 96, _, _, _, _, _⟩) rfl _ (.tmp 13) rfl wP.heap.size rfl _ _ _ _ (EA.out.bx _ _ _ (.head _)) Try.underlying30 rfl IT.out ?_))
                  refine (bytesS_yes (EA.out.st _ _ (.head _)) HTM.out HTW.out).mono ?_
                  rw [HTB.out]
                  rintro e wQ ⟨AQ, nQ, cQ, rfl, hnQ, OQ, hbQ⟩
                  have EQ := Lib.hid (EA.out.below hbQ.out)
                  have RQ := Lib.hid (Row.of_own OQ.out)
                  clear hnQ OQ hbQ EA
                  go_wp2_with ((with_reducible show wpList _ _ _ _ _ _); refine wpList_load_row (o := ⟨some 100, _, _, _, _, _⟩) rfl _ (.tmp 13) rfl wP.heap.size rfl _ _ _ _ (EQ.out.bx _ _ _ (.head _)) Try.underlying30 rfl IT.out ?_)
                  refine (mayS (EQ.out.st _ _ (.head _))).mono ?_
                  rintro e wR ⟨rfl, hbR⟩
                  rw [HTM.out]
                  have RR := RQ.out.below hbR
                  have ER := Lib.hid (EQ.out.below hbR)
                  have R2 := HR.out.below ER.out.b
                  have hk1 := run_string_row (P := Try.prog) (show Row wR _ AQ nQ (bv l) from RR) cQ 23 9 5 Try.underlying23 Try.underlying5 Try.underlying9
                  have hk2 := run_string_row (P := Try.prog) (show Row wR _ A n (bv l) from R2) c 23 9 5 Try.underlying23 Try.underlying5 Try.underlying9
                  clear hbR EQ RQ RR R2
                  go_wp2_with fail
                  refine (awake19_any _).mono ?_
                  rintro e wz ⟨rfl, hbz⟩
                  have hb := (ER.out.below hbz).b
                  go_wp2_with fail
                  go_ret
                  exact ⟨rfl, hb⟩
                · rw [h2]
                  go_wp2_with ((with_reducible show wpList _ _ _ _ _ _); refine wpList_store_new rfl rfl _ (.tmp 13) (.tmp 82) rfl _ _ csT _ rfl rfl IT.out ZT.out OT.out ?_)
                  refine (awake19_any _).mono ?_
                  rintro e wz ⟨rfl, hbz⟩
                  have hb := (EA.out.below hbz).b
                  go_wp2_with fail
                  go_ret
                  exact ⟨rfl, hb⟩
                · rw [h3]
                  go_wp2_with ((with_reducible show wpList _ _ _ _ _ _); refine wpList_store_new rfl rfl _ (.tmp 13) (.tmp 82) rfl _ _ csT _ rfl rfl IT.out ZT.out OT.out ?_)
                  refine (awake19_any _).mono ?_
                  rintro e wz ⟨rfl, hbz⟩
                  have hb := (EA.out.below hbz).b
                  go_wp2_with fail
                  go_ret
                  exact ⟨rfl, hb⟩
            · have HEQ : Hid (L.eqb K = false) := Lib.hid (by rw [← hinj]; exact decide_eq_false hbb)
              have HS1 : Hid (∀ W, Below w9.heap.size w9 W → (convert 23 9 (.slice A5 n5 c5)).run Try.prog W = .ok (.string ⟨(L.bytes).toArray⟩) W) := Lib.hid fun W hW => run_string_row (P := Try.prog) (show Row W _ A5 n5 (bv L.bytes) from RX.out.below hW) c5 23 9 5 Try.underlying23 Try.underlying5 Try.underlying9
              have HS2 : Hid (∀ W, Below w9.heap.size w9 W → (convert 23 9 (.slice A9 n9 c9)).run Try.prog W = .ok (.string ⟨(K.bytes).toArray⟩) W) := Lib.hid fun W hW => run_string_row (P := Try.prog) (show Row W _ A9 n9 (bv K.bytes) from R9.out.below hW) c9 23 9 5 Try.underlying23 Try.underlying5 Try.underlying9
              have HNB := Lib.hid hbb
              clear hinj
              generalize w9 = wB at *
              have HE : Hid (∀ W, Below wB.heap.size wB W → Env w W [(w7.heap.size, cs7, 30), ((w.heap.size + 1), ds, 30), (w.heap.size, cs, 30)] [(cs7, L), (ds, K), (cs, L)] []) := Lib.hid fun W hW => EX.out.below hW
              go_cut [78] (fun s78 wx => s78 = .bool false ∧ Hid (Env w wx [(w7.heap.size, cs7, 30), ((w.heap.size + 1), ds, 30), (w.heap.size, cs, 30)] [(cs7, L), (ds, K), (cs, L)] []))
              case first =>
                refine wp_region_noPanic ?_
                refine wp_region_held_drew (S := (fun W => Below (wB.heap.size) wB W)) (by kernel_rfl) (Below.refl _ _).drew (fun hH0 => ?_)
                have hH0 : Below (wB.heap.size) wB wB.drew := hH0
                generalize wB.drew = wd9000 at *
                refine wpAnyH_take (i := 0) (oi := { dst := some 51, op := Op.move (Operand.tmp 10), type := 33, pos := "law.go:67", after := #[], guard := none }) (v := ?tkv9001) rfl (by kernel_rfl) (by kernel_rfl) (by kernel_rfl) (fun _ _ _ h => h) (Or.inl ⟨by rfl, ?tky9001⟩) hH0 ?tkr9001
                case tky9001 => (intro w' hSw; clear hSw; go_simp; try with_reducible rfl)
                try simp only [Act.put, List.setIfInBounds_toArray, List.set_cons_zero, List.set_cons_succ]
                refine wpAnyH_take (i := 1) (oi := { dst := some 52, op := Op.binOp BinOp.neq 33 (Operand.tmp 51) (Operand.const (Value.int IntKind.i64 0)) 33, type := 4, pos := "law.go:67", after := #[{ on := 0, ground := Ground.data }], guard := none }) (v := ?tkv9002) rfl (by kernel_rfl) (by kernel_rfl) (by kernel_rfl) (fun _ _ _ h => h) (Or.inl ⟨by rfl, ?tky9002⟩) hH0 ?tkr9002
                case tky9002 => (intro w' hSw; clear hSw; go_simp; try with_reducible rfl)
                try simp only [Act.put, List.setIfInBounds_toArray, List.set_cons_zero, List.set_cons_succ]
                refine wpAnyH_take (i := 2) (oi := { dst := some 53, op := Op.move (Operand.tmp 52), type := 4, pos := "law.go:67", after := #[{ on := 1, ground := Ground.data }], guard := none }) (v := ?tkv9003) rfl (by kernel_rfl) (by kernel_rfl) (by kernel_rfl) (fun _ _ _ h => h) (Or.inl ⟨by rfl, ?tky9003⟩) hH0 ?tkr9003
                case tky9003 => (intro w' hSw; clear hSw; go_simp; try with_reducible rfl)
                try simp only [Act.put, List.setIfInBounds_toArray, List.set_cons_zero, List.set_cons_succ]
                refine wpAnyH_take (i := 3) (oi := { dst := some 54, op := Op.load 30 (Operand.tmp 9), type := 30, pos := "law.go:67", after := #[{ on := 2, ground := Ground.guard }], guard := some (2, false) }) (v := .agg cs7) rfl (by kernel_rfl) (by kernel_rfl) (by kernel_rfl) (fun _ _ _ h => h) (yields_row (by rfl) _ _ rfl (w7.heap.size) rfl _ _ _ _ (fun W hW => (HE.out W hW).bx _ _ _ (.head _)) Try.underlying30 rfl I7.out) hH0 ?tkr9004
                try simp only [Act.put, List.setIfInBounds_toArray, List.set_cons_zero, List.set_cons_succ]
                refine wpAnyH_take (i := 4) (oi := { dst := some 55, op := Op.load 30 (Operand.tmp 3), type := 30, pos := "law.go:67", after := #[{ on := 2, ground := Ground.guard }], guard := some (2, false) }) (v := .agg cs) rfl (by kernel_rfl) (by kernel_rfl) (by kernel_rfl) (fun _ _ _ h => h) (yields_row (by rfl) _ _ rfl (w.heap.size) rfl _ _ _ _ (fun W hW => (HE.out W hW).bx _ _ _ (.tail _ (.tail _ (.head _)))) Try.underlying30 rfl IA.out) hH0 ?tkr9005
                try simp only [Act.put, List.setIfInBounds_toArray, List.set_cons_zero, List.set_cons_succ]
                refine wpAnyH_ready (rs := [5]) (by kernel_rfl) (by simp) ?_
                refine AllReadyH.cons (o := { dst := some 56, op := Op.call { callee := Callee.value (Operand.func 19), args := #[Operand.tmp 54, Operand.tmp 55], argTypes := #[30, 30] }, type := 4, pos := "law.go:67", after := #[{ on := 3, ground := Ground.data }, { on := 4, ground := Ground.data }, { on := 2, ground := Ground.chain }, { on := 2, ground := Ground.guard }], guard := some (2, false) }) rfl (fun K hK => ?_) AllReadyH.nil
                go_simp
                refine (sameS ((HE.out wd9000 (hH0)).st _ _ (.head _)) ((HE.out wd9000 (hH0)).st _ _ (.tail _ (.tail _ (.head _))))).mono ?_
                rintro e' wn9006 ⟨rfl, hb9006⟩
                rw [eqb_refl]
                go_simp
                have hS9006 : Below (wB.heap.size) wB wn9006 := (hH0).trans (hb9006.mono (hH0).size)
                refine hK.out _ _ hS9006 (fun hH9006 => ?_)
                have hH9006 : Below (wB.heap.size) wB wn9006 := hH9006
                clear hK K hS9006
                try simp only [Act.put, List.setIfInBounds_toArray, List.set_cons_zero, List.set_cons_succ]
                refine wpAnyH_take (i := 6) (oi := { dst := some 57, op := Op.unOp UnOp.not 4 (Operand.tmp 56), type := 4, pos := "law.go:67", after := #[{ on := 5, ground := Ground.data }, { on := 2, ground := Ground.guard }], guard := some (2, false) }) (v := ?tkv9007) rfl (by kernel_rfl) (by kernel_rfl) (by kernel_rfl) (fun _ _ _ h => h) (Or.inl ⟨by rfl, ?tky9007⟩) hH9006 ?tkr9007
                case tky9007 => (intro w' hSw; clear hSw; go_simp; try with_reducible rfl)
                try simp only [Act.put, List.setIfInBounds_toArray, List.set_cons_zero, List.set_cons_succ]
                refine wpAnyH_take (i := 7) (oi := { dst := some 58, op := Op.pick (Operand.tmp 53) (Operand.const (Value.bool true)) (Operand.tmp 57), type := 4, pos := "law.go:67", after := #[{ on := 2, ground := Ground.data }, { on := 6, ground := Ground.data }], guard := none }) (v := ?tkv9008) rfl (by kernel_rfl) (by kernel_rfl) (by kernel_rfl) (fun _ _ _ h => h) (Or.inl ⟨by rfl, ?tky9008⟩) hH9006 ?tkr9008
                case tky9008 => (intro w' hSw; clear hSw; go_simp; try with_reducible rfl)
                try simp only [Act.put, List.setIfInBounds_toArray, List.set_cons_zero, List.set_cons_succ]
                refine wpAnyH_take (i := 8) (oi := { dst := some 59, op := Op.move (Operand.tmp 58), type := 4, pos := "law.go:67", after := #[{ on := 7, ground := Ground.data }, { on := 5, ground := Ground.chain }], guard := none }) (v := ?tkv9009) rfl (by kernel_rfl) (by kernel_rfl) (by kernel_rfl) (fun _ _ _ h => h) (Or.inl ⟨by rfl, ?tky9009⟩) hH9006 ?tkr9009
                case tky9009 => (intro w' hSw; clear hSw; go_simp; try with_reducible rfl)
                try simp only [Act.put, List.setIfInBounds_toArray, List.set_cons_zero, List.set_cons_succ]
                refine wpAnyH_take (i := 9) (oi := { dst := some 60, op := Op.move (Operand.tmp 7), type := 23, pos := "law.go:67", after := #[{ on := 8, ground := Ground.guard }], guard := some (8, false) }) (v := ?tkv9010) rfl (by kernel_rfl) (by kernel_rfl) (by kernel_rfl) (fun _ _ _ h => h) (Or.inl ⟨by rfl, ?tky9010⟩) hH9006 ?tkr9010
                case tky9010 => (intro w' hSw; clear hSw; go_simp; try with_reducible rfl)
                try simp only [Act.put, List.setIfInBounds_toArray, List.set_cons_zero, List.set_cons_succ]
                refine wpAnyH_take (i := 10) (oi := { dst := some 61, op := Op.call { callee := Callee.builtin Builtin.len, args := #[Operand.tmp 60], argTypes := #[23] }, type := 3, pos := "law.go:67", after := #[{ on := 9, ground := Ground.data }, { on := 8, ground := Ground.guard }], guard := some (8, false) }) (v := ?tkv9011) rfl (by kernel_rfl) (by kernel_rfl) (by kernel_rfl) (fun _ _ _ h => h) (Or.inl ⟨by rfl, ?tky9011⟩) hH9006 ?tkr9011
                case tky9011 => (intro w' hSw; clear hSw; go_simp; try with_reducible rfl)
                try simp only [Act.put, List.setIfInBounds_toArray, List.set_cons_zero, List.set_cons_succ]
                refine wpAnyH_take (i := 11) (oi := { dst := some 62, op := Op.binOp BinOp.gtr 3 (Operand.tmp 61) (Operand.const (Value.int IntKind.i64 245)) 3, type := 4, pos := "law.go:67", after := #[{ on := 10, ground := Ground.data }, { on := 8, ground := Ground.guard }], guard := some (8, false) }) (v := ?tkv9012) rfl (by kernel_rfl) (by kernel_rfl) (by kernel_rfl) (fun _ _ _ h => h) (Or.inl ⟨by rfl, ?tky9012⟩) hH9006 ?tkr9012
                case tky9012 => (intro w' hSw; clear hSw; go_simp; try with_reducible rfl)
                try simp only [Act.put, List.setIfInBounds_toArray, List.set_cons_zero, List.set_cons_succ]
                refine wpAnyH_take (i := 12) (oi := { dst := some 63, op := Op.pick (Operand.tmp 59) (Operand.const (Value.bool true)) (Operand.tmp 62), type := 4, pos := "law.go:67", after := #[{ on := 8, ground := Ground.data }, { on := 11, ground := Ground.data }], guard := none }) (v := ?tkv9013) rfl (by kernel_rfl) (by kernel_rfl) (by kernel_rfl) (fun _ _ _ h => h) (Or.inl ⟨by rfl, ?tky9013⟩) hH9006 ?tkr9013
                case tky9013 => (intro w' hSw; clear hSw; go_simp; try with_reducible rfl)
                try simp only [Act.put, List.setIfInBounds_toArray, List.set_cons_zero, List.set_cons_succ]
                refine wpAnyH_take (i := 13) (oi := { dst := some 64, op := Op.move (Operand.tmp 63), type := 4, pos := "law.go:67", after := #[{ on := 12, ground := Ground.data }, { on := 8, ground := Ground.chain }], guard := none }) (v := ?tkv9014) rfl (by kernel_rfl) (by kernel_rfl) (by kernel_rfl) (fun _ _ _ h => h) (Or.inl ⟨by rfl, ?tky9014⟩) hH9006 ?tkr9014
                case tky9014 => (intro w' hSw; clear hSw; go_simp; try with_reducible rfl)
                try simp only [Act.put, List.setIfInBounds_toArray, List.set_cons_zero, List.set_cons_succ]
                refine wpAnyH_take (i := 14) (oi := { dst := some 65, op := Op.move (Operand.tmp 12), type := 33, pos := "law.go:67", after := #[{ on := 13, ground := Ground.guard }], guard := some (13, false) }) (v := ?tkv9015) rfl (by kernel_rfl) (by kernel_rfl) (by kernel_rfl) (fun _ _ _ h => h) (Or.inl ⟨by rfl, ?tky9015⟩) hH9006 ?tkr9015
                case tky9015 => (intro w' hSw; clear hSw; go_simp; try with_reducible rfl)
                try simp only [Act.put, List.setIfInBounds_toArray, List.set_cons_zero, List.set_cons_succ]
                refine wpAnyH_take (i := 15) (oi := { dst := some 66, op := Op.binOp BinOp.eql 33 (Operand.tmp 65) (Operand.const (Value.int IntKind.i64 0)) 33, type := 4, pos := "law.go:67", after := #[{ on := 14, ground := Ground.data }, { on := 13, ground := Ground.guard }], guard := some (13, false) }) (v := ?tkv9016) rfl (by kernel_rfl) (by kernel_rfl) (by kernel_rfl) (fun _ _ _ h => h) (Or.inl ⟨by rfl, ?tky9016⟩) hH9006 ?tkr9016
                case tky9016 => (intro w' hSw; clear hSw; go_simp; try with_reducible rfl)
                try simp only [Act.put, List.setIfInBounds_toArray, List.set_cons_zero, List.set_cons_succ]
                refine wpAnyH_take (i := 16) (oi := { dst := some 67, op := Op.move (Operand.tmp 66), type := 4, pos := "law.go:67", after := #[{ on := 15, ground := Ground.data }, { on := 13, ground := Ground.chain }, { on := 13, ground := Ground.guard }], guard := some (13, false) }) (v := ?tkv9017) rfl (by kernel_rfl) (by kernel_rfl) (by kernel_rfl) (fun _ _ _ h => h) (Or.inl ⟨by rfl, ?tky9017⟩) hH9006 ?tkr9017
                case tky9017 => (intro w' hSw; clear hSw; go_simp; try with_reducible rfl)
                try simp only [Act.put, List.setIfInBounds_toArray, List.set_cons_zero, List.set_cons_succ]
                refine wpAnyH_take (i := 17) (oi := { dst := some 68, op := Op.move (Operand.tmp 7), type := 23, pos := "law.go:67", after := #[{ on := 16, ground := Ground.guard }], guard := some (16, true) }) (v := ?tkv9018) rfl (by kernel_rfl) (by kernel_rfl) (by kernel_rfl) (fun _ _ _ h => h) (Or.inl ⟨by rfl, ?tky9018⟩) hH9006 ?tkr9018
                case tky9018 => (intro w' hSw; clear hSw; go_simp; try with_reducible rfl)
                try simp only [Act.put, List.setIfInBounds_toArray, List.set_cons_zero, List.set_cons_succ]
                refine wpAnyH_take (i := 18) (oi := { dst := some 69, op := Op.convert 23 9 (Operand.tmp 68), type := 9, pos := "law.go:67", after := #[{ on := 17, ground := Ground.data }, { on := 16, ground := Ground.guard }], guard := some (16, true) }) (v := ?tkv9019) rfl (by kernel_rfl) (by kernel_rfl) (by kernel_rfl) (fun _ _ _ h => h) (Or.inl ⟨by rfl, ?tky9019⟩) hH9006 ?tkr9019
                case tky9019 => (intro w' hSw; have z0 := HS1.out _ hSw; have z1 := HS2.out _ hSw; clear hSw; go_simp; try with_reducible rfl)
                try simp only [Act.put, List.setIfInBounds_toArray, List.set_cons_zero, List.set_cons_succ]
                refine wpAnyH_take (i := 19) (oi := { dst := some 70, op := Op.move (Operand.tmp 11), type := 23, pos := "law.go:67", after := #[{ on := 16, ground := Ground.guard }], guard := some (16, true) }) (v := ?tkv9020) rfl (by kernel_rfl) (by kernel_rfl) (by kernel_rfl) (fun _ _ _ h => h) (Or.inl ⟨by rfl, ?tky9020⟩) hH9006 ?tkr9020
                case tky9020 => (intro w' hSw; clear hSw; go_simp; try with_reducible rfl)
                try simp only [Act.put, List.setIfInBounds_toArray, List.set_cons_zero, List.set_cons_succ]
                refine wpAnyH_take (i := 20) (oi := { dst := some 71, op := Op.convert 23 9 (Operand.tmp 70), type := 9, pos := "law.go:67", after := #[{ on := 19, ground := Ground.data }, { on := 16, ground := Ground.guard }], guard := some (16, true) }) (v := ?tkv9021) rfl (by kernel_rfl) (by kernel_rfl) (by kernel_rfl) (fun _ _ _ h => h) (Or.inl ⟨by rfl, ?tky9021⟩) hH9006 ?tkr9021
                case tky9021 => (intro w' hSw; have z0 := HS1.out _ hSw; have z1 := HS2.out _ hSw; clear hSw; go_simp; try with_reducible rfl)
                try simp only [Act.put, List.setIfInBounds_toArray, List.set_cons_zero, List.set_cons_succ]
                refine wpAnyH_take (i := 21) (oi := { dst := some 72, op := Op.binOp BinOp.eql 9 (Operand.tmp 69) (Operand.tmp 71) 9, type := 4, pos := "law.go:67", after := #[{ on := 18, ground := Ground.data }, { on := 20, ground := Ground.data }, { on := 16, ground := Ground.guard }], guard := some (16, true) }) (v := ?tkv9022) rfl (by kernel_rfl) (by kernel_rfl) (by kernel_rfl) (fun _ _ _ h => h) (Or.inl ⟨by rfl, ?tky9022⟩) hH9006 ?tkr9022
                case tky9022 => (intro w' hSw; clear hSw; go_simp; try with_reducible rfl)
                try simp only [Act.put, List.setIfInBounds_toArray, List.set_cons_zero, List.set_cons_succ]
                refine wpAnyH_take (i := 22) (oi := { dst := some 73, op := Op.load 30 (Operand.tmp 3), type := 30, pos := "law.go:67", after := #[{ on := 16, ground := Ground.guard }], guard := some (16, true) }) (v := .agg cs) rfl (by kernel_rfl) (by kernel_rfl) (by kernel_rfl) (fun _ _ _ h => h) (yields_row (by rfl) _ _ rfl (w.heap.size) rfl _ _ _ _ (fun W hW => (HE.out W hW).bx _ _ _ (.tail _ (.tail _ (.head _)))) Try.underlying30 rfl IA.out) hH9006 ?tkr9023
                try simp only [Act.put, List.setIfInBounds_toArray, List.set_cons_zero, List.set_cons_succ]
                refine wpAnyH_take (i := 23) (oi := { dst := some 74, op := Op.load 30 (Operand.tmp 4), type := 30, pos := "law.go:67", after := #[{ on := 16, ground := Ground.guard }], guard := some (16, true) }) (v := .agg ds) rfl (by kernel_rfl) (by kernel_rfl) (by kernel_rfl) (fun _ _ _ h => h) (yields_row (by rfl) _ _ rfl ((w.heap.size + 1)) rfl _ _ _ _ (fun W hW => (HE.out W hW).bx _ _ _ (.tail _ (.head _))) Try.underlying30 rfl IB.out) hH9006 ?tkr9024
                try simp only [Act.put, List.setIfInBounds_toArray, List.set_cons_zero, List.set_cons_succ]
                refine wpAnyH_ready (rs := [24]) (by kernel_rfl) (by simp) ?_
                refine AllReadyH.cons (o := { dst := some 75, op := Op.call { callee := Callee.value (Operand.func 19), args := #[Operand.tmp 73, Operand.tmp 74], argTypes := #[30, 30] }, type := 4, pos := "law.go:67", after := #[{ on := 22, ground := Ground.data }, { on := 23, ground := Ground.data }, { on := 16, ground := Ground.chain }, { on := 16, ground := Ground.guard }], guard := some (16, true) }) rfl (fun K hK => ?_) AllReadyH.nil
                go_simp
                refine (sameS ((HE.out wn9006 (hH9006)).st _ _ (.tail _ (.tail _ (.head _)))) ((HE.out wn9006 (hH9006)).st _ _ (.tail _ (.head _)))).mono ?_
                rintro e' wn9025 ⟨rfl, hb9025⟩
                rw [HEQ.out]
                go_simp
                have hS9025 : Below (wB.heap.size) wB wn9025 := (hH9006).trans (hb9025.mono (hH9006).size)
                refine hK.out _ _ hS9025 (fun hH9025 => ?_)
                have hH9025 : Below (wB.heap.size) wB wn9025 := hH9025
                clear hK K hS9025
                try simp only [Act.put, List.setIfInBounds_toArray, List.set_cons_zero, List.set_cons_succ]
                refine wpAnyH_take (i := 25) (oi := { dst := some 76, op := Op.binOp BinOp.neq 4 (Operand.tmp 72) (Operand.tmp 75) 4, type := 4, pos := "law.go:67", after := #[{ on := 21, ground := Ground.data }, { on := 24, ground := Ground.data }, { on := 16, ground := Ground.guard }], guard := some (16, true) }) (v := ?tkv9026) rfl (by kernel_rfl) (by kernel_rfl) (by kernel_rfl) (fun _ _ _ h => h) (Or.inl ⟨by rfl, ?tky9026⟩) hH9025 ?tkr9026
                case tky9026 => (intro w' hSw; clear hSw; go_simp; try with_reducible rfl)
                try simp only [Act.put, List.setIfInBounds_toArray, List.set_cons_zero, List.set_cons_succ]
                refine wpAnyH_take (i := 26) (oi := { dst := some 77, op := Op.pick (Operand.tmp 67) (Operand.tmp 76) (Operand.const (Value.bool false)), type := 4, pos := "law.go:67", after := #[{ on := 16, ground := Ground.data }, { on := 25, ground := Ground.data }, { on := 13, ground := Ground.guard }], guard := some (13, false) }) (v := ?tkv9027) rfl (by kernel_rfl) (by kernel_rfl) (by kernel_rfl) (fun _ _ _ h => h) (Or.inl ⟨by rfl, ?tky9027⟩) hH9025 ?tkr9027
                case tky9027 => (intro w' hSw; clear hSw; go_simp; try with_reducible rfl)
                try simp only [Act.put, List.setIfInBounds_toArray, List.set_cons_zero, List.set_cons_succ]
                refine wpAnyH_take (i := 27) (oi := { dst := some 78, op := Op.pick (Operand.tmp 64) (Operand.const (Value.bool true)) (Operand.tmp 77), type := 4, pos := "law.go:67", after := #[{ on := 13, ground := Ground.data }, { on := 26, ground := Ground.data }], guard := none }) (v := ?tkv9028) rfl (by kernel_rfl) (by kernel_rfl) (by kernel_rfl) (fun _ _ _ h => h) (Or.inl ⟨by rfl, ?tky9028⟩) hH9025 ?tkr9028
                case tky9028 => (intro w' hSw; clear hSw; go_simp; try with_reducible rfl)
                try simp only [Act.put, List.setIfInBounds_toArray, List.set_cons_zero, List.set_cons_succ]
                refine wpAnyH_done (by kernel_rfl) ?_ _
                refine NoPanic.normal ?_
                have HEND := Lib.hid (HE.out _ (hH9025))
                go_wp2_with fail
                go_meet
                exact ⟨by simp [HNB.out], HEND⟩
              case rest =>
                obtain ⟨rfl, HE3⟩ := hcut
                clear HE EX
                obtain ⟨wY, rfl⟩ : ∃ W : World, W = wc := ⟨_, rfl⟩
                go_wp2_with fail
                refine (parse_any A n c l wY ((HR.out.below HE3.out.b).more HE3.out.b.size) hnc hcm).mono ?_
                rintro e wP ⟨csT, rfl, sT, hbT⟩
                have IT := Lib.hid sT.out.inf
                have OT := Lib.hid sT.out.one
                have ZT : Hid (17 = csT.size) := Lib.hid sT.out.size.symm
                have EA := Lib.hid (((HE3.out.below hbT.out).addSt sT.out).alloc csT 30)
                clear sT hbT
                rcases parse_err l with h0 | h2 | h3
                · rw [h0]
                  obtain ⟨tm, tw, tb⟩ := parse_ok h0
                  have HTM := Lib.hid tm
                  have HTW := Lib.hid tw
                  have HTB := Lib.hid tb
                  clear h0 tm tw tb
                  go_wp2_with (first
                    | ((with_reducible show wpList _ _ _ _ _ _); refine wpList_store_new rfl rfl _ (.tmp 13) (.tmp 82) rfl _ _ csT _ rfl rfl IT.out ZT.out OT.out ?_)
                    | ((with_reducible show wpList _ _ _ _ _ _); refine wpList_load_row (o := ⟨some 96, _, _, _, _, _⟩) rfl _ (.tmp 13) rfl wP.heap.size rfl _ _ _ _ (EA.out.bx _ _ _ (.head _)) Try.underlying30 rfl IT.out ?_))
                  refine (bytesS_yes (EA.out.st _ _ (.head _)) HTM.out HTW.out).mono ?_
                  rw [HTB.out]
                  rintro e wQ ⟨AQ, nQ, cQ, rfl, hnQ, OQ, hbQ⟩
                  have EQ := Lib.hid (EA.out.below hbQ.out)
                  have RQ := Lib.hid (Row.of_own OQ.out)
                  clear hnQ OQ hbQ EA
                  go_wp2_with ((with_reducible show wpList _ _ _ _ _ _); refine wpList_load_row (o := ⟨some 100, _, _, _, _, _⟩) rfl _ (.tmp 13) rfl wP.heap.size rfl _ _ _ _ (EQ.out.bx _ _ _ (.head _)) Try.underlying30 rfl IT.out ?_)
                  refine (mayS (EQ.out.st _ _ (.head _))).mono ?_
                  rintro e wR ⟨rfl, hbR⟩
                  rw [HTM.out]
                  have RR := RQ.out.below hbR
                  have ER := Lib.hid (EQ.out.below hbR)
                  have R2 := HR.out.below ER.out.b
                  have hk1 := run_string_row (P := Try.prog) (show Row wR _ AQ nQ (bv l) from RR) cQ 23 9 5 Try.underlying23 Try.underlying5 Try.underlying9
                  have hk2 := run_string_row (P := Try.prog) (show Row wR _ A n (bv l) from R2) c 23 9 5 Try.underlying23 Try.underlying5 Try.underlying9
                  clear hbR EQ RQ RR R2
                  go_wp2_with fail
                  refine (awake19_any _).mono ?_
                  rintro e wz ⟨rfl, hbz⟩
                  have hb := (ER.out.below hbz).b
                  go_wp2_with fail
                  go_ret
                  exact ⟨rfl, hb⟩
                · rw [h2]
                  go_wp2_with ((with_reducible show wpList _ _ _ _ _ _); refine wpList_store_new rfl rfl _ (.tmp 13) (.tmp 82) rfl _ _ csT _ rfl rfl IT.out ZT.out OT.out ?_)
                  refine (awake19_any _).mono ?_
                  rintro e wz ⟨rfl, hbz⟩
                  have hb := (EA.out.below hbz).b
                  go_wp2_with fail
                  go_ret
                  exact ⟨rfl, hb⟩
                · rw [h3]
                  go_wp2_with ((with_reducible show wpList _ _ _ _ _ _); refine wpList_store_new rfl rfl _ (.tmp 13) (.tmp 82) rfl _ _ csT _ rfl rfl IT.out ZT.out OT.out ?_)
                  refine (awake19_any _).mono ?_
                  rintro e wz ⟨rfl, hbz⟩
                  have hb := (EA.out.below hbz).b
                  go_wp2_with fail
                  go_ret
                  exact ⟨rfl, hb⟩
    · have HLB := Lib.hid hlb
      clear hla hlb
      go_cut [27] (fun s27 wx => s27 = .bool true ∧ Hid (Env w wx [((w.heap.size + 1), ds, 30), (w.heap.size, cs, 30)] [(ds, K), (cs, L)] []))
      case first =>
        refine wp_region_noPanic ?_
        refine wp_region_held_drew (S := (fun W => Below (w0.heap.size) w0 W)) (by kernel_rfl) (Below.refl _ _).drew (fun hH0 => ?_)
        have hH0 : Below (w0.heap.size) w0 w0.drew := hH0
        generalize w0.drew = wd4000 at *
        refine wpAnyH_take (i := 0) (oi := { dst := some 17, op := Op.load 30 (Operand.tmp 3), type := 30, pos := "law.go:57", after := #[], guard := none }) (v := .agg cs) rfl (by kernel_rfl) (by kernel_rfl) (by kernel_rfl) (fun _ _ _ h => h) (yields_row (by rfl) _ _ rfl (w.heap.size) rfl _ _ _ _ (fun W hW => (HE.out W hW).bx _ _ _ (.tail _ (.head _))) Try.underlying30 rfl IA.out) hH0 ?tkr4001
        try simp only [Act.put, List.setIfInBounds_toArray, List.set_cons_zero, List.set_cons_succ]
        refine wpAnyH_take (i := 2) (oi := { dst := some 19, op := Op.load 30 (Operand.tmp 4), type := 30, pos := "law.go:57", after := #[], guard := none }) (v := .agg ds) rfl (by kernel_rfl) (by kernel_rfl) (by kernel_rfl) (fun _ _ _ h => h) (yields_row (by rfl) _ _ rfl ((w.heap.size + 1)) rfl _ _ _ _ (fun W hW => (HE.out W hW).bx _ _ _ (.head _)) Try.underlying30 rfl IB.out) hH0 ?tkr4002
        try simp only [Act.put, List.setIfInBounds_toArray, List.set_cons_zero, List.set_cons_succ]
        refine wpAnyH_ready (rs := [1]) (by kernel_rfl) (by simp) ?_
        refine AllReadyH.cons (o := { dst := some 18, op := Op.call { callee := Callee.value (Operand.func 13), args := #[Operand.tmp 17], argTypes := #[30] }, type := 3, pos := "law.go:57", after := #[{ on := 0, ground := Ground.data }], guard := none }) rfl (fun K hK => ?_) AllReadyH.nil
        go_simp
        refine (heavyS_no ((HE.out wd4000 (hH0)).st _ _ (.tail _ (.head _))) HLA.out).mono ?_
        rintro e' wn4003 ⟨rfl, hb4003⟩
        go_simp
        have hS4003 : Below (w0.heap.size) w0 wn4003 := (hH0).trans (hb4003.mono (hH0).size)
        refine hK.out _ _ hS4003 (fun hH4003 => ?_)
        have hH4003 : Below (w0.heap.size) w0 wn4003 := hH4003
        clear hK K hS4003
        try simp only [Act.put, List.setIfInBounds_toArray, List.set_cons_zero, List.set_cons_succ]
        refine wpAnyH_ready (rs := [3]) (by kernel_rfl) (by simp) ?_
        refine AllReadyH.cons (o := { dst := some 20, op := Op.call { callee := Callee.value (Operand.func 13), args := #[Operand.tmp 19], argTypes := #[30] }, type := 3, pos := "law.go:57", after := #[{ on := 2, ground := Ground.data }, { on := 1, ground := Ground.chain }], guard := none }) rfl (fun K hK => ?_) AllReadyH.nil
        go_simp
        refine (heavyS_yes ((HE.out wn4003 (hH4003)).st _ _ (.head _)) HLB.out).mono ?_
        rintro e' wn4004 ⟨rfl, hb4004⟩
        go_simp
        have hS4004 : Below (w0.heap.size) w0 wn4004 := (hH4003).trans (hb4004.mono (hH4003).size)
        refine hK.out _ _ hS4004 (fun hH4004 => ?_)
        have hH4004 : Below (w0.heap.size) w0 wn4004 := hH4004
        clear hK K hS4004
        try simp only [Act.put, List.setIfInBounds_toArray, List.set_cons_zero, List.set_cons_succ]
        refine wpAnyH_take (i := 4) (oi := { dst := some 21, op := Op.binOp BinOp.add 3 (Operand.tmp 18) (Operand.tmp 20) 3, type := 3, pos := "law.go:57", after := #[{ on := 1, ground := Ground.data }, { on := 3, ground := Ground.data }], guard := none }) (v := ?tkv4005) rfl (by kernel_rfl) (by kernel_rfl) (by kernel_rfl) (fun _ _ _ h => h) (Or.inl ⟨by rfl, ?tky4005⟩) hH4004 ?tkr4005
        case tky4005 => (intro w' hSw; clear hSw; go_simp; try with_reducible rfl)
        try simp only [Act.put, List.setIfInBounds_toArray, List.set_cons_zero, List.set_cons_succ]
        refine wpAnyH_take (i := 5) (oi := { dst := some 22, op := Op.binOp BinOp.gtr 3 (Operand.tmp 21) (Operand.const (Value.int IntKind.i64 0)) 3, type := 4, pos := "law.go:57", after := #[{ on := 4, ground := Ground.data }], guard := none }) (v := ?tkv4006) rfl (by kernel_rfl) (by kernel_rfl) (by kernel_rfl) (fun _ _ _ h => h) (Or.inl ⟨by rfl, ?tky4006⟩) hH4004 ?tkr4006
        case tky4006 => (intro w' hSw; clear hSw; go_simp; try with_reducible rfl)
        try simp only [Act.put, List.setIfInBounds_toArray, List.set_cons_zero, List.set_cons_succ]
        refine wpAnyH_take (i := 6) (oi := { dst := some 23, op := Op.move (Operand.tmp 22), type := 4, pos := "law.go:57", after := #[{ on := 5, ground := Ground.data }, { on := 3, ground := Ground.chain }], guard := none }) (v := ?tkv4007) rfl (by kernel_rfl) (by kernel_rfl) (by kernel_rfl) (fun _ _ _ h => h) (Or.inl ⟨by rfl, ?tky4007⟩) hH4004 ?tkr4007
        case tky4007 => (intro w' hSw; clear hSw; go_simp; try with_reducible rfl)
        try simp only [Act.put, List.setIfInBounds_toArray, List.set_cons_zero, List.set_cons_succ]
        refine wpAnyH_take (i := 7) (oi := { dst := some 24, op := Op.move (Operand.tmp 2), type := 23, pos := "law.go:57", after := #[{ on := 6, ground := Ground.guard }], guard := some (6, false) }) (v := undef) rfl (by kernel_rfl) (by kernel_rfl) (by kernel_rfl) (fun _ _ _ h => h) (Or.inr ⟨by rfl, rfl⟩) hH4004 ?tkr4008
        try simp only [Act.put, List.setIfInBounds_toArray, List.set_cons_zero, List.set_cons_succ]
        refine wpAnyH_take (i := 8) (oi := { dst := some 25, op := Op.call { callee := Callee.builtin Builtin.len, args := #[Operand.tmp 24], argTypes := #[23] }, type := 3, pos := "law.go:57", after := #[{ on := 7, ground := Ground.data }, { on := 6, ground := Ground.guard }], guard := some (6, false) }) (v := undef) rfl (by kernel_rfl) (by kernel_rfl) (by kernel_rfl) (fun _ _ _ h => h) (Or.inr ⟨by rfl, rfl⟩) hH4004 ?tkr4009
        try simp only [Act.put, List.setIfInBounds_toArray, List.set_cons_zero, List.set_cons_succ]
        refine wpAnyH_take (i := 9) (oi := { dst := some 26, op := Op.binOp BinOp.gtr 3 (Operand.tmp 25) (Operand.const (Value.int IntKind.i64 300)) 3, type := 4, pos := "law.go:57", after := #[{ on := 8, ground := Ground.data }, { on := 6, ground := Ground.guard }], guard := some (6, false) }) (v := undef) rfl (by kernel_rfl) (by kernel_rfl) (by kernel_rfl) (fun _ _ _ h => h) (Or.inr ⟨by rfl, rfl⟩) hH4004 ?tkr4010
        try simp only [Act.put, List.setIfInBounds_toArray, List.set_cons_zero, List.set_cons_succ]
        refine wpAnyH_take (i := 10) (oi := { dst := some 27, op := Op.pick (Operand.tmp 23) (Operand.const (Value.bool true)) (Operand.tmp 26), type := 4, pos := "law.go:57", after := #[{ on := 6, ground := Ground.data }, { on := 9, ground := Ground.data }], guard := none }) (v := ?tkv4011) rfl (by kernel_rfl) (by kernel_rfl) (by kernel_rfl) (fun _ _ _ h => h) (Or.inl ⟨by rfl, ?tky4011⟩) hH4004 ?tkr4011
        case tky4011 => (intro w' hSw; clear hSw; go_simp; try with_reducible rfl)
        try simp only [Act.put, List.setIfInBounds_toArray, List.set_cons_zero, List.set_cons_succ]
        refine wpAnyH_done (by kernel_rfl) ?_ _
        refine NoPanic.normal ?_
        have HEND := Lib.hid (HE.out _ (hH4004))
        go_wp2_with fail
        go_meet
        exact ⟨rfl, HEND⟩
      case rest =>
        obtain ⟨rfl, HE2⟩ := hcut
        go_wp2_with fail
        refine (awake19_any _).mono ?_
        rintro e wz ⟨rfl, hbz⟩
        have hb := (HE2.out.below hbz).b
        go_wp2_with fail
        go_ret
        exact ⟨rfl, hb⟩
  · have HLA := Lib.hid hla
    by_cases hlb : K.light
    · have HLB := Lib.hid hlb
      clear hla hlb
      go_cut [27] (fun s27 wx => s27 = .bool true ∧ Hid (Env w wx [((w.heap.size + 1), ds, 30), (w.heap.size, cs, 30)] [(ds, K), (cs, L)] []))
      case first =>
        refine wp_region_noPanic ?_
        refine wp_region_held_drew (S := (fun W => Below (w0.heap.size) w0 W)) (by kernel_rfl) (Below.refl _ _).drew (fun hH0 => ?_)
        have hH0 : Below (w0.heap.size) w0 w0.drew := hH0
        generalize w0.drew = wd5000 at *
        refine wpAnyH_take (i := 0) (oi := { dst := some 17, op := Op.load 30 (Operand.tmp 3), type := 30, pos := "law.go:57", after := #[], guard := none }) (v := .agg cs) rfl (by kernel_rfl) (by kernel_rfl) (by kernel_rfl) (fun _ _ _ h => h) (yields_row (by rfl) _ _ rfl (w.heap.size) rfl _ _ _ _ (fun W hW => (HE.out W hW).bx _ _ _ (.tail _ (.head _))) Try.underlying30 rfl IA.out) hH0 ?tkr5001
        try simp only [Act.put, List.setIfInBounds_toArray, List.set_cons_zero, List.set_cons_succ]
        refine wpAnyH_take (i := 2) (oi := { dst := some 19, op := Op.load 30 (Operand.tmp 4), type := 30, pos := "law.go:57", after := #[], guard := none }) (v := .agg ds) rfl (by kernel_rfl) (by kernel_rfl) (by kernel_rfl) (fun _ _ _ h => h) (yields_row (by rfl) _ _ rfl ((w.heap.size + 1)) rfl _ _ _ _ (fun W hW => (HE.out W hW).bx _ _ _ (.head _)) Try.underlying30 rfl IB.out) hH0 ?tkr5002
        try simp only [Act.put, List.setIfInBounds_toArray, List.set_cons_zero, List.set_cons_succ]
        refine wpAnyH_ready (rs := [1]) (by kernel_rfl) (by simp) ?_
        refine AllReadyH.cons (o := { dst := some 18, op := Op.call { callee := Callee.value (Operand.func 13), args := #[Operand.tmp 17], argTypes := #[30] }, type := 3, pos := "law.go:57", after := #[{ on := 0, ground := Ground.data }], guard := none }) rfl (fun K hK => ?_) AllReadyH.nil
        go_simp
        refine (heavyS_yes ((HE.out wd5000 (hH0)).st _ _ (.tail _ (.head _))) HLA.out).mono ?_
        rintro e' wn5003 ⟨rfl, hb5003⟩
        go_simp
        have hS5003 : Below (w0.heap.size) w0 wn5003 := (hH0).trans (hb5003.mono (hH0).size)
        refine hK.out _ _ hS5003 (fun hH5003 => ?_)
        have hH5003 : Below (w0.heap.size) w0 wn5003 := hH5003
        clear hK K hS5003
        try simp only [Act.put, List.setIfInBounds_toArray, List.set_cons_zero, List.set_cons_succ]
        refine wpAnyH_ready (rs := [3]) (by kernel_rfl) (by simp) ?_
        refine AllReadyH.cons (o := { dst := some 20, op := Op.call { callee := Callee.value (Operand.func 13), args := #[Operand.tmp 19], argTypes := #[30] }, type := 3, pos := "law.go:57", after := #[{ on := 2, ground := Ground.data }, { on := 1, ground := Ground.chain }], guard := none }) rfl (fun K hK => ?_) AllReadyH.nil
        go_simp
        refine (heavyS_no ((HE.out wn5003 (hH5003)).st _ _ (.head _)) HLB.out).mono ?_
        rintro e' wn5004 ⟨rfl, hb5004⟩
        go_simp
        have hS5004 : Below (w0.heap.size) w0 wn5004 := (hH5003).trans (hb5004.mono (hH5003).size)
        refine hK.out _ _ hS5004 (fun hH5004 => ?_)
        have hH5004 : Below (w0.heap.size) w0 wn5004 := hH5004
        clear hK K hS5004
        try simp only [Act.put, List.setIfInBounds_toArray, List.set_cons_zero, List.set_cons_succ]
        refine wpAnyH_take (i := 4) (oi := { dst := some 21, op := Op.binOp BinOp.add 3 (Operand.tmp 18) (Operand.tmp 20) 3, type := 3, pos := "law.go:57", after := #[{ on := 1, ground := Ground.data }, { on := 3, ground := Ground.data }], guard := none }) (v := ?tkv5005) rfl (by kernel_rfl) (by kernel_rfl) (by kernel_rfl) (fun _ _ _ h => h) (Or.inl ⟨by rfl, ?tky5005⟩) hH5004 ?tkr5005
        case tky5005 => (intro w' hSw; clear hSw; go_simp; try with_reducible rfl)
        try simp only [Act.put, List.setIfInBounds_toArray, List.set_cons_zero, List.set_cons_succ]
        refine wpAnyH_take (i := 5) (oi := { dst := some 22, op := Op.binOp BinOp.gtr 3 (Operand.tmp 21) (Operand.const (Value.int IntKind.i64 0)) 3, type := 4, pos := "law.go:57", after := #[{ on := 4, ground := Ground.data }], guard := none }) (v := ?tkv5006) rfl (by kernel_rfl) (by kernel_rfl) (by kernel_rfl) (fun _ _ _ h => h) (Or.inl ⟨by rfl, ?tky5006⟩) hH5004 ?tkr5006
        case tky5006 => (intro w' hSw; clear hSw; go_simp; try with_reducible rfl)
        try simp only [Act.put, List.setIfInBounds_toArray, List.set_cons_zero, List.set_cons_succ]
        refine wpAnyH_take (i := 6) (oi := { dst := some 23, op := Op.move (Operand.tmp 22), type := 4, pos := "law.go:57", after := #[{ on := 5, ground := Ground.data }, { on := 3, ground := Ground.chain }], guard := none }) (v := ?tkv5007) rfl (by kernel_rfl) (by kernel_rfl) (by kernel_rfl) (fun _ _ _ h => h) (Or.inl ⟨by rfl, ?tky5007⟩) hH5004 ?tkr5007
        case tky5007 => (intro w' hSw; clear hSw; go_simp; try with_reducible rfl)
        try simp only [Act.put, List.setIfInBounds_toArray, List.set_cons_zero, List.set_cons_succ]
        refine wpAnyH_take (i := 7) (oi := { dst := some 24, op := Op.move (Operand.tmp 2), type := 23, pos := "law.go:57", after := #[{ on := 6, ground := Ground.guard }], guard := some (6, false) }) (v := undef) rfl (by kernel_rfl) (by kernel_rfl) (by kernel_rfl) (fun _ _ _ h => h) (Or.inr ⟨by rfl, rfl⟩) hH5004 ?tkr5008
        try simp only [Act.put, List.setIfInBounds_toArray, List.set_cons_zero, List.set_cons_succ]
        refine wpAnyH_take (i := 8) (oi := { dst := some 25, op := Op.call { callee := Callee.builtin Builtin.len, args := #[Operand.tmp 24], argTypes := #[23] }, type := 3, pos := "law.go:57", after := #[{ on := 7, ground := Ground.data }, { on := 6, ground := Ground.guard }], guard := some (6, false) }) (v := undef) rfl (by kernel_rfl) (by kernel_rfl) (by kernel_rfl) (fun _ _ _ h => h) (Or.inr ⟨by rfl, rfl⟩) hH5004 ?tkr5009
        try simp only [Act.put, List.setIfInBounds_toArray, List.set_cons_zero, List.set_cons_succ]
        refine wpAnyH_take (i := 9) (oi := { dst := some 26, op := Op.binOp BinOp.gtr 3 (Operand.tmp 25) (Operand.const (Value.int IntKind.i64 300)) 3, type := 4, pos := "law.go:57", after := #[{ on := 8, ground := Ground.data }, { on := 6, ground := Ground.guard }], guard := some (6, false) }) (v := undef) rfl (by kernel_rfl) (by kernel_rfl) (by kernel_rfl) (fun _ _ _ h => h) (Or.inr ⟨by rfl, rfl⟩) hH5004 ?tkr5010
        try simp only [Act.put, List.setIfInBounds_toArray, List.set_cons_zero, List.set_cons_succ]
        refine wpAnyH_take (i := 10) (oi := { dst := some 27, op := Op.pick (Operand.tmp 23) (Operand.const (Value.bool true)) (Operand.tmp 26), type := 4, pos := "law.go:57", after := #[{ on := 6, ground := Ground.data }, { on := 9, ground := Ground.data }], guard := none }) (v := ?tkv5011) rfl (by kernel_rfl) (by kernel_rfl) (by kernel_rfl) (fun _ _ _ h => h) (Or.inl ⟨by rfl, ?tky5011⟩) hH5004 ?tkr5011
        case tky5011 => (intro w' hSw; clear hSw; go_simp; try with_reducible rfl)
        try simp only [Act.put, List.setIfInBounds_toArray, List.set_cons_zero, List.set_cons_succ]
        refine wpAnyH_done (by kernel_rfl) ?_ _
        refine NoPanic.normal ?_
        have HEND := Lib.hid (HE.out _ (hH5004))
        go_wp2_with fail
        go_meet
        exact ⟨rfl, HEND⟩
      case rest =>
        obtain ⟨rfl, HE2⟩ := hcut
        go_wp2_with fail
        refine (awake19_any _).mono ?_
        rintro e wz ⟨rfl, hbz⟩
        have hb := (HE2.out.below hbz).b
        go_wp2_with fail
        go_ret
        exact ⟨rfl, hb⟩
    · have HLB := Lib.hid hlb
      clear hla hlb
      go_cut [27] (fun s27 wx => s27 = .bool true ∧ Hid (Env w wx [((w.heap.size + 1), ds, 30), (w.heap.size, cs, 30)] [(ds, K), (cs, L)] []))
      case first =>
        refine wp_region_noPanic ?_
        refine wp_region_held_drew (S := (fun W => Below (w0.heap.size) w0 W)) (by kernel_rfl) (Below.refl _ _).drew (fun hH0 => ?_)
        have hH0 : Below (w0.heap.size) w0 w0.drew := hH0
        generalize w0.drew = wd6000 at *
        refine wpAnyH_take (i := 0) (oi := { dst := some 17, op := Op.load 30 (Operand.tmp 3), type := 30, pos := "law.go:57", after := #[], guard := none }) (v := .agg cs) rfl (by kernel_rfl) (by kernel_rfl) (by kernel_rfl) (fun _ _ _ h => h) (yields_row (by rfl) _ _ rfl (w.heap.size) rfl _ _ _ _ (fun W hW => (HE.out W hW).bx _ _ _ (.tail _ (.head _))) Try.underlying30 rfl IA.out) hH0 ?tkr6001
        try simp only [Act.put, List.setIfInBounds_toArray, List.set_cons_zero, List.set_cons_succ]
        refine wpAnyH_take (i := 2) (oi := { dst := some 19, op := Op.load 30 (Operand.tmp 4), type := 30, pos := "law.go:57", after := #[], guard := none }) (v := .agg ds) rfl (by kernel_rfl) (by kernel_rfl) (by kernel_rfl) (fun _ _ _ h => h) (yields_row (by rfl) _ _ rfl ((w.heap.size + 1)) rfl _ _ _ _ (fun W hW => (HE.out W hW).bx _ _ _ (.head _)) Try.underlying30 rfl IB.out) hH0 ?tkr6002
        try simp only [Act.put, List.setIfInBounds_toArray, List.set_cons_zero, List.set_cons_succ]
        refine wpAnyH_ready (rs := [1]) (by kernel_rfl) (by simp) ?_
        refine AllReadyH.cons (o := { dst := some 18, op := Op.call { callee := Callee.value (Operand.func 13), args := #[Operand.tmp 17], argTypes := #[30] }, type := 3, pos := "law.go:57", after := #[{ on := 0, ground := Ground.data }], guard := none }) rfl (fun K hK => ?_) AllReadyH.nil
        go_simp
        refine (heavyS_yes ((HE.out wd6000 (hH0)).st _ _ (.tail _ (.head _))) HLA.out).mono ?_
        rintro e' wn6003 ⟨rfl, hb6003⟩
        go_simp
        have hS6003 : Below (w0.heap.size) w0 wn6003 := (hH0).trans (hb6003.mono (hH0).size)
        refine hK.out _ _ hS6003 (fun hH6003 => ?_)
        have hH6003 : Below (w0.heap.size) w0 wn6003 := hH6003
        clear hK K hS6003
        try simp only [Act.put, List.setIfInBounds_toArray, List.set_cons_zero, List.set_cons_succ]
        refine wpAnyH_ready (rs := [3]) (by kernel_rfl) (by simp) ?_
        refine AllReadyH.cons (o := { dst := some 20, op := Op.call { callee := Callee.value (Operand.func 13), args := #[Operand.tmp 19], argTypes := #[30] }, type := 3, pos := "law.go:57", after := #[{ on := 2, ground := Ground.data }, { on := 1, ground := Ground.chain }], guard := none }) rfl (fun K hK => ?_) AllReadyH.nil
        go_simp
        refine (heavyS_yes ((HE.out wn6003 (hH6003)).st _ _ (.head _)) HLB.out).mono ?_
        rintro e' wn6004 ⟨rfl, hb6004⟩
        go_simp
        have hS6004 : Below (w0.heap.size) w0 wn6004 := (hH6003).trans (hb6004.mono (hH6003).size)
        refine hK.out _ _ hS6004 (fun hH6004 => ?_)
        have hH6004 : Below (w0.heap.size) w0 wn6004 := hH6004
        clear hK K hS6004
        try simp only [Act.put, List.setIfInBounds_toArray, List.set_cons_zero, List.set_cons_succ]
        refine wpAnyH_take (i := 4) (oi := { dst := some 21, op := Op.binOp BinOp.add 3 (Operand.tmp 18) (Operand.tmp 20) 3, type := 3, pos := "law.go:57", after := #[{ on := 1, ground := Ground.data }, { on := 3, ground := Ground.data }], guard := none }) (v := ?tkv6005) rfl (by kernel_rfl) (by kernel_rfl) (by kernel_rfl) (fun _ _ _ h => h) (Or.inl ⟨by rfl, ?tky6005⟩) hH6004 ?tkr6005
        case tky6005 => (intro w' hSw; clear hSw; go_simp; try with_reducible rfl)
        try simp only [Act.put, List.setIfInBounds_toArray, List.set_cons_zero, List.set_cons_succ]
        refine wpAnyH_take (i := 5) (oi := { dst := some 22, op := Op.binOp BinOp.gtr 3 (Operand.tmp 21) (Operand.const (Value.int IntKind.i64 0)) 3, type := 4, pos := "law.go:57", after := #[{ on := 4, ground := Ground.data }], guard := none }) (v := ?tkv6006) rfl (by kernel_rfl) (by kernel_rfl) (by kernel_rfl) (fun _ _ _ h => h) (Or.inl ⟨by rfl, ?tky6006⟩) hH6004 ?tkr6006
        case tky6006 => (intro w' hSw; clear hSw; go_simp; try with_reducible rfl)
        try simp only [Act.put, List.setIfInBounds_toArray, List.set_cons_zero, List.set_cons_succ]
        refine wpAnyH_take (i := 6) (oi := { dst := some 23, op := Op.move (Operand.tmp 22), type := 4, pos := "law.go:57", after := #[{ on := 5, ground := Ground.data }, { on := 3, ground := Ground.chain }], guard := none }) (v := ?tkv6007) rfl (by kernel_rfl) (by kernel_rfl) (by kernel_rfl) (fun _ _ _ h => h) (Or.inl ⟨by rfl, ?tky6007⟩) hH6004 ?tkr6007
        case tky6007 => (intro w' hSw; clear hSw; go_simp; try with_reducible rfl)
        try simp only [Act.put, List.setIfInBounds_toArray, List.set_cons_zero, List.set_cons_succ]
        refine wpAnyH_take (i := 7) (oi := { dst := some 24, op := Op.move (Operand.tmp 2), type := 23, pos := "law.go:57", after := #[{ on := 6, ground := Ground.guard }], guard := some (6, false) }) (v := undef) rfl (by kernel_rfl) (by kernel_rfl) (by kernel_rfl) (fun _ _ _ h => h) (Or.inr ⟨by rfl, rfl⟩) hH6004 ?tkr6008
        try simp only [Act.put, List.setIfInBounds_toArray, List.set_cons_zero, List.set_cons_succ]
        refine wpAnyH_take (i := 8) (oi := { dst := some 25, op := Op.call { callee := Callee.builtin Builtin.len, args := #[Operand.tmp 24], argTypes := #[23] }, type := 3, pos := "law.go:57", after := #[{ on := 7, ground := Ground.data }, { on := 6, ground := Ground.guard }], guard := some (6, false) }) (v := undef) rfl (by kernel_rfl) (by kernel_rfl) (by kernel_rfl) (fun _ _ _ h => h) (Or.inr ⟨by rfl, rfl⟩) hH6004 ?tkr6009
        try simp only [Act.put, List.setIfInBounds_toArray, List.set_cons_zero, List.set_cons_succ]
        refine wpAnyH_take (i := 9) (oi := { dst := some 26, op := Op.binOp BinOp.gtr 3 (Operand.tmp 25) (Operand.const (Value.int IntKind.i64 300)) 3, type := 4, pos := "law.go:57", after := #[{ on := 8, ground := Ground.data }, { on := 6, ground := Ground.guard }], guard := some (6, false) }) (v := undef) rfl (by kernel_rfl) (by kernel_rfl) (by kernel_rfl) (fun _ _ _ h => h) (Or.inr ⟨by rfl, rfl⟩) hH6004 ?tkr6010
        try simp only [Act.put, List.setIfInBounds_toArray, List.set_cons_zero, List.set_cons_succ]
        refine wpAnyH_take (i := 10) (oi := { dst := some 27, op := Op.pick (Operand.tmp 23) (Operand.const (Value.bool true)) (Operand.tmp 26), type := 4, pos := "law.go:57", after := #[{ on := 6, ground := Ground.data }, { on := 9, ground := Ground.data }], guard := none }) (v := ?tkv6011) rfl (by kernel_rfl) (by kernel_rfl) (by kernel_rfl) (fun _ _ _ h => h) (Or.inl ⟨by rfl, ?tky6011⟩) hH6004 ?tkr6011
        case tky6011 => (intro w' hSw; clear hSw; go_simp; try with_reducible rfl)
        try simp only [Act.put, List.setIfInBounds_toArray, List.set_cons_zero, List.set_cons_succ]
        refine wpAnyH_done (by kernel_rfl) ?_ _
        refine NoPanic.normal ?_
        have HEND := Lib.hid (HE.out _ (hH6004))
        go_wp2_with fail
        go_meet
        exact ⟨rfl, HEND⟩
      case rest =>
        obtain ⟨rfl, HE2⟩ := hcut
        go_wp2_with fail
        refine (awake19_any _).mono ?_
        rintro e wz ⟨rfl, hbz⟩
        have hb := (HE2.out.below hbz).b
        go_wp2_with fail
        go_ret
        exact ⟨rfl, hb⟩
end Go.Proofs.Ytnbpjajgfpdddaa
