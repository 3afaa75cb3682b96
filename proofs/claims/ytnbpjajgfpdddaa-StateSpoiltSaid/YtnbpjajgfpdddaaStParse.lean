/- state.Parse: by contract. -/
import Derived.Test.YtnbpjajgfpdddaaRdState
import Derived.Test.YtnbpjajgfpdddaaStBytes
namespace Go.Proofs.Ytnbpjajgfpdddaa
open Go.RowKit
theorem BoxS.setRow {g k : Nat} {cs : Array Value} {t : TypeId} {W : World} (h : BoxS g cs t W) (hk : g ≠ k) (v : Array Value) : BoxS g cs t (W.setRow k v) := (setRow_other _ _ _ _ hk).trans h
def ParseOk (l : List UInt8) (w : World) (e : Ending) (w' : World) : Prop := ∃ cs, e = .returned (.tuple #[.agg cs, .int .i64 (parseE l)]) ∧ Hid (IsSt w' (fun b => w.heap.size ≤ b) cs (parseL l)) ∧ Hid (Below w.heap.size w w')
set_option maxRecDepth 100000 in
set_option maxHeartbeats 3200000 in
theorem parse_any (A : Option Addr) (n c : Nat) (l : List UInt8) (w : World) (hl : Row w w.heap.size A n (bv l)) (hn : n ≤ c) (hc : c ≤ 9223372036854775807) :
    Calls Try.prog 21 #[.slice A n c] w (ParseOk l w) := by
  have ln : l.length = n := hl.blen
  have hb0 : Below w.heap.size w ((w.alloc (.cells zState 30)).alloc (.cells #[.slice A n c, .int .i64 0] 67)) := ((Below.refl _ _).alloc (Nat.le_refl _) _).alloc (by simp) _
  have hs0 : (w.alloc (.cells zState 30)).heap.size = w.heap.size + 1 := by simp
  have hx1 : ((w.alloc (.cells zState 30)).alloc (.cells #[.slice A n c, .int .i64 0] 67)).heap[w.heap.size + 1]? = some (.cells #[.slice A n c, .int .i64 0] 67 (0, 0)) := by rw [← hs0]; exact heap_alloc_new _ _
  have X0 : Hid (((w.alloc (.cells zState 30)).alloc (.cells #[.slice A n c, .int .i64 0] 67)).heap[w.heap.size]? = some (.cells zState 30 (0, 0))) := Lib.hid ((((Below.refl (w.alloc (.cells zState 30)).heap.size _).alloc (Nat.le_refl _) _).block w.heap.size (by simp)).trans (heap_alloc_new w _))
  have HRD : Hid (RdAt ((w.alloc (.cells zState 30)).alloc (.cells #[.slice A n c, .int .i64 0] 67)) (w.heap.size + 1) w.heap.size ⟨l, 0⟩) := Lib.hid ⟨A, c, by dsimp only; rw [ln]; exact hx1, by dsimp only; rw [ln]; exact hl.below hb0, Nat.le_succ _, by dsimp only; rw [ln]; exact hn, hc⟩
  have B0 := Lib.hid hb0
  clear hb0 hs0 hx1 hl hn hc ln
  have zs : zState = #[.int .i64 0, .int .i64 0, .int .u32 0, .int .u32 0, .int .u32 0, .int .i64 0, .slice none 0 0, .int .u32 0, .int .i64 0, .slice none 0 0, .bool false, .int .u32 0, .int .u32 0, .int .i64 0, .int .i64 0, .int .i64 0, .slice none 0 0] := rfl
  have HZS := Lib.hid zs
  rw [zs] at X0 HRD B0
  clear zs
  obtain ⟨EE, hEE⟩ : ∃ e, parseE l = e := ⟨_, rfl⟩
  obtain ⟨LL, hLL⟩ : ∃ e, parseL l = e := ⟨_, rfl⟩
  have HEE := Lib.hid hEE
  have HLL := Lib.hid hLL
  have HEE0 := Lib.hid hEE
  have HLL0 := Lib.hid hLL
  clear hEE hLL
  go_enter Try.func21, Try.ntmps21
  go_wp2_with fail
  rw [← HZS.out] at X0 HRD B0 ⊢
  have hw1s : ((w.alloc (.cells zState 30)).alloc (.cells #[.slice A n c, .int .i64 0] 67)).heap.size = w.heap.size + 1 + 1 := by simp
  have HS1 := Lib.hid hw1s
  clear hw1s
  generalize ((w.alloc (.cells zState 30)).alloc (.cells #[.slice A n c, .int .i64 0] 67)) = w1 at *
  refine (rstate_any HRD.out).mono ?_
  rintro e w3 ⟨cs, rfl, hst, hto⟩
  unfold parseE at HEE
  unfold parseL at HLL
  generalize (Rd.state ⟨l, 0⟩).1 = L at *
  generalize (Rd.state ⟨l, 0⟩).2 = r at *
  have x3 := hto.out.box X0.out (by omega)
  have hb3 : Below w.heap.size w w3 := B0.out.grown hto.out.2 B0.out.size (fun k hk => by injection hk with hk; omega)
  have hsz3 : w.heap.size + 1 < w3.heap.size := hto.out.1.lt
  have ba : Below w3.heap.size w3 (w3.alloc (.cells cs 30)) := (Below.refl _ _).alloc (Nat.le_refl _) _
  have X4 := Lib.hid ((ba.block _ (Array.getElem?_eq_some_iff.1 x3).1).trans x3)
  have HR4 := Lib.hid (hto.out.1.below ba)
  have Y4 := Lib.hid (heap_alloc_new w3 (.cells cs 30))
  have S4 := Lib.hid (hst.out.below ba)
  have I4 := Lib.hid hst.out.inf
  have O4 := Lib.hid hst.out.one
  have Z4 : Hid (17 = cs.size) := Lib.hid hst.out.size.symm
  have B4 := Lib.hid (hb3.trans (ba.mono hb3.size))
  have SZ3 := Lib.hid hsz3
  have L13 : Hid (w1.heap.size ≤ w3.heap.size) := Lib.hid hto.out.2.size
  clear hto hst x3 hb3 hsz3 ba HRD X0 B0
  obtain ⟨A', c', hrx, _⟩ := HR4.out
  have k0 := cell_of_row _ (w.heap.size + 1) 0 _ _ (0, 0) hrx
  have k1 := cell_of_row _ (w.heap.size + 1) 1 _ _ (0, 0) hrx
  have HRX := Lib.hid hrx
  clear hrx HR4
  by_cases he : r.e = 0
  · -- nothing was wrong
    have q : ((r.e : Int) != 0) = false := by simp [he]
    go_upto_region 5 with ((with_reducible show wpList _ _ _ _ _ _); refine wpList_store_new rfl rfl _ (.tmp 5) (.tmp 8) rfl _ _ cs _ rfl rfl I4.out Z4.out O4.out ?_)
    generalize hw4 : w3.alloc (.cells cs 30) = w4 at *
    clear hw4 k1 HRX
    by_cases hn0 : r.l.length = 0
    · have hnil : r.l = [] := List.length_eq_zero_iff.1 hn0
      rw [hn0] at k0
      have HEN : Hid (EE = if L.may = true then 0 else 3) := Lib.hid (by rw [← HEE.out, if_pos he]; simp [hnil])
      have HLN : Hid (LL = if L.may = true then L else LSt.zero) := Lib.hid (by rw [← HLL.out]; simp [hnil, he])
      clear hnil hn0 HEE HLL he
      go_wp2_with ((with_reducible show wpList _ _ _ _ _ _); refine wpList_load_rowG (o := ⟨some 20, _, _, _, _, _⟩) (by rfl) _ (.tmp 5) rfl (w3.heap.size) rfl _ _ _ _ Y4.out Try.underlying30 rfl I4.out ?_)
      refine (mayS S4.out).mono ?_
      rintro e w5 ⟨rfl, hb5⟩
      have X5 := Lib.hid ((hb5.block _ (Array.getElem?_eq_some_iff.1 X4.out).1).trans X4.out)
      have Y5 := Lib.hid ((hb5.block _ (Array.getElem?_eq_some_iff.1 Y4.out).1).trans Y4.out)
      have S5 := Lib.hid (S4.out.below hb5)
      have B5 := Lib.hid (B4.out.trans (hb5.mono B4.out.size))
      clear hb5 X4 Y4 S4 B4 k0
      cases hmy : L.may with
      | false =>
        have HE : Hid (EE = 3) := Lib.hid (by rw [HEN.out, hmy]; rfl)
        have HL : Hid (LL = LSt.zero) := Lib.hid (by rw [HLN.out, hmy]; rfl)
        clear hmy HEN HLN
        rw [HZS.out] at X5
        go_wp2_with ((with_reducible show wpList _ _ _ _ _ _); refine wpList_store_row rfl _ (.tmp 2) (.tmp 24) rfl (w.heap.size) #[.int .i64 0, .int .i64 0, .int .u32 0, .int .u32 0, .int .u32 0, .int .i64 0, .slice none 0 0, .int .u32 0, .int .i64 0, .slice none 0 0, .bool false, .int .u32 0, .int .u32 0, .int .i64 0, .int .i64 0, .int .i64 0, .slice none 0 0] rfl rfl _ _ X5.out (by kernel_rfl) (by rfl) (by simp [Value.oneCell']) ?_)
        have hrow : (w5.setRow w.heap.size #[.int .i64 0, .int .i64 0, .int .u32 0, .int .u32 0, .int .u32 0, .int .i64 0, .slice none 0 0, .int .u32 0, .int .i64 0, .slice none 0 0, .bool false, .int .u32 0, .int .u32 0, .int .i64 0, .int .i64 0, .int .i64 0, .slice none 0 0]).heap[w.heap.size]? = some (.cells #[.int .i64 0, .int .i64 0, .int .u32 0, .int .u32 0, .int .u32 0, .int .i64 0, .slice none 0 0, .int .u32 0, .int .i64 0, .slice none 0 0, .bool false, .int .u32 0, .int .u32 0, .int .i64 0, .int .i64 0, .int .i64 0, .slice none 0 0] 30 (0, 0)) := setRow_heap _ _ _ _ _ _ X5.out
        refine bodyPost_ret (results_cell_tmp_row rfl _ _ (w.heap.size) _ _ (0, 0) _ rfl hrow Try.underlying30 rfl (by kernel_rfl)) rfl ?_
        unfold ParseOk
        rw [HEE0.out, HLL0.out, HE.out, HL.out]
        exact ⟨_, rfl, Lib.hid (zero_is _ _), Lib.hid (below_setRow2 B5.out (Nat.le_refl _) _)⟩
      | true =>
        have HE : Hid (EE = 0) := Lib.hid (by rw [HEN.out, hmy]; rfl)
        have HL : Hid (LL = L) := Lib.hid (by rw [HLN.out, hmy]; rfl)
        clear hmy HEN HLN
        go_wp2_with (first
          | ((with_reducible show wpList _ _ _ _ _ _); refine wpList_load_row (o := ⟨some 25, _, _, _, _, _⟩) rfl _ (.tmp 5) rfl (w3.heap.size) rfl _ _ _ _ Y5.out Try.underlying30 rfl I4.out ?_)
          | ((with_reducible show wpList _ _ _ _ _ _); refine wpList_store_row rfl _ (.tmp 2) (.tmp 25) rfl (w.heap.size) cs rfl rfl _ _ X5.out I4.out Z4.out O4.out ?_))
        have hrow : (w5.setRow w.heap.size cs).heap[w.heap.size]? = some (.cells cs 30 (0, 0)) := setRow_heap _ _ _ _ _ _ X5.out
        refine bodyPost_ret (results_cell_tmp_row rfl _ _ (w.heap.size) _ _ (0, 0) _ rfl hrow Try.underlying30 rfl I4.out) rfl ?_
        unfold ParseOk
        rw [HEE0.out, HLL0.out, HE.out, HL.out]
        exact ⟨cs, rfl, Lib.hid ((S5.out.keep (by simp) fun b hb _ => setRow_other _ _ _ _ (by have := L13.out; have := HS1.out; omega)).imp fun b _ hb => by have := L13.out; have := HS1.out; omega), Lib.hid (below_setRow2 B5.out (Nat.le_refl _) _)⟩
    · have hnil : r.l ≠ [] := fun e => hn0 (by rw [e]; rfl)
      obtain ⟨nn, hnn⟩ : ∃ nn, r.l.length = nn := ⟨_, rfl⟩
      rw [hnn] at k0 hn0
      have qn : decide ((nn : Int) > 0) = true := by simp; omega
      have qn2 : (0 : Int) < (nn : Int) := by omega
      have qn3 : decide (0 < nn) = true := by simp; omega
      have qn4 : 0 < nn := by omega
      have HE : Hid (EE = 3) := Lib.hid (by rw [← HEE.out, if_pos he]; simp [hnil])
      have HL : Hid (LL = LSt.zero) := Lib.hid (by rw [← HLL.out]; simp [hnil])
      clear hnil hn0 HEE HLL he hnn
      rw [HZS.out] at X4
      go_wp2_with ((with_reducible show wpList _ _ _ _ _ _); refine wpList_store_row rfl _ (.tmp 2) (.tmp 24) rfl (w.heap.size) #[.int .i64 0, .int .i64 0, .int .u32 0, .int .u32 0, .int .u32 0, .int .i64 0, .slice none 0 0, .int .u32 0, .int .i64 0, .slice none 0 0, .bool false, .int .u32 0, .int .u32 0, .int .i64 0, .int .i64 0, .int .i64 0, .slice none 0 0] rfl rfl _ _ X4.out (by kernel_rfl) (by rfl) (by simp [Value.oneCell']) ?_)
      have hrow : (w4.setRow w.heap.size #[.int .i64 0, .int .i64 0, .int .u32 0, .int .u32 0, .int .u32 0, .int .i64 0, .slice none 0 0, .int .u32 0, .int .i64 0, .slice none 0 0, .bool false, .int .u32 0, .int .u32 0, .int .i64 0, .int .i64 0, .int .i64 0, .slice none 0 0]).heap[w.heap.size]? = some (.cells #[.int .i64 0, .int .i64 0, .int .u32 0, .int .u32 0, .int .u32 0, .int .i64 0, .slice none 0 0, .int .u32 0, .int .i64 0, .slice none 0 0, .bool false, .int .u32 0, .int .u32 0, .int .i64 0, .int .i64 0, .int .i64 0, .slice none 0 0] 30 (0, 0)) := setRow_heap _ _ _ _ _ _ X4.out
      refine bodyPost_ret (results_cell_tmp_row rfl _ _ (w.heap.size) _ _ (0, 0) _ rfl hrow Try.underlying30 rfl (by kernel_rfl)) rfl ?_
      unfold ParseOk
      rw [HEE0.out, HLL0.out, HE.out, HL.out]
      exact ⟨_, rfl, Lib.hid (zero_is _ _), Lib.hid (below_setRow2 B4.out (Nat.le_refl _) _)⟩
  · have q : ((r.e : Int) != 0) = true := by simp [he]
    have hE : EE = r.e := by rw [← HEE.out, if_neg he]
    have hL : LL = LSt.zero := by rw [← HLL.out, if_neg (fun h => he h.1)]
    have HE := Lib.hid hE
    have HL := Lib.hid hL
    clear he hE hL HEE HLL
    go_upto_region 4 with ((with_reducible show wpList _ _ _ _ _ _); refine wpList_store_new rfl rfl _ (.tmp 5) (.tmp 8) rfl _ _ cs _ rfl rfl I4.out Z4.out O4.out ?_)
    generalize hw4 : w3.alloc (.cells cs 30) = w4 at *
    obtain ⟨RC, hRC⟩ : ∃ RC, #[Value.slice A' r.l.length c', .int .i64 r.e] = RC := ⟨_, rfl⟩
    have BXR : Hid (BoxS (w.heap.size + 1) RC 67 w4) := Lib.hid (by rw [← hRC]; exact HRX.out)
    have HC : Hid (∀ W, BoxS (w.heap.size + 1) RC 67 W → W.cell? ⟨w.heap.size + 1, 1, none⟩ = some (.int .i64 r.e)) := Lib.hid fun W hW => by rw [cell_of_row W _ 1 _ _ (0, 0) hW, ← hRC]; rfl
    have XD : Hid (w4.drew.heap[w.heap.size]? = some (.cells zState 30 (0, 0))) := Lib.hid X4.out
    have HBL : Hid (Below w.heap.size w w4.drew) := Lib.hid B4.out.drew
    clear hRC hw4 k0 k1 HRX
    go_cut [3] (fun s3 wx => s3 = .int .i64 r.e ∧ Hid (wx = w4.drew.setRow w.heap.size zState))
    case first =>
      refine wp_region_noPanic ?_
      refine wp_region_held_drew (S := (fun W => BoxS (w.heap.size + 1) RC 67 W)) (by kernel_rfl) (BXR.out : BoxS _ _ _ w4.drew) (fun hH0 => ?_)
      have hH0 : BoxS (w.heap.size + 1) RC 67 w4.drew := hH0
      generalize w4.drew = wd3000 at *
      refine wpAnyH_take (i := 0) (oi := { dst := some 12, op := Op.build 30 #[], type := 30, pos := "state.go:87", after := #[], guard := none }) (v := ?tkv3001) rfl (by kernel_rfl) (by kernel_rfl) (by kernel_rfl) (fun _ _ _ h => h) (Or.inl ⟨by rfl, ?tky3001⟩) hH0 ?tkr3001
      case tky3001 => (intro w' hSw; clear hSw; go_simp; try with_reducible rfl)
      try simp only [Act.put, List.setIfInBounds_toArray, List.set_cons_zero, List.set_cons_succ]
      refine wpAnyH_take (i := 1) (oi := { dst := some 13, op := Op.fieldAddr 67 (Operand.tmp 4) 1, type := 0, pos := "state.go:87", after := #[{ on := 3, ground := Ground.gcOnly Departure.lateStores }], guard := none }) (v := ?tkv3002) rfl (by kernel_rfl) (by kernel_rfl) (by kernel_rfl) (fun _ _ _ h => h) (Or.inl ⟨by rfl, ?tky3002⟩) hH0 ?tkr3002
      case tky3002 => (intro w' hSw; clear hSw; go_simp; try with_reducible rfl)
      try simp only [Act.put, List.setIfInBounds_toArray, List.set_cons_zero, List.set_cons_succ]
      refine wpAnyH_take (i := 2) (oi := { dst := some 14, op := Op.load 33 (Operand.tmp 13), type := 33, pos := "state.go:87", after := #[{ on := 1, ground := Ground.data }, { on := 3, ground := Ground.gcOnly Departure.lateStores }], guard := none }) (v := ?tkv3003) rfl (by kernel_rfl) (by kernel_rfl) (by kernel_rfl) (fun _ _ _ h => h) (Or.inl ⟨by rfl, ?tky3003⟩) hH0 ?tkr3003
      case tky3003 => (intro w' hSw; have z0 := HC.out _ hSw; clear hSw; go_simp; try with_reducible rfl)
      try simp only [Act.put, List.setIfInBounds_toArray, List.set_cons_zero, List.set_cons_succ]
      refine wpAnyH_ready (rs := [3]) (by kernel_rfl) (by simp) ?_
      refine AllReadyH.cons (o := { dst := none, op := Op.store 30 (Operand.tmp 2) (Operand.tmp 12), type := 0, pos := "state.go:87", after := #[{ on := 0, ground := Ground.data }, { on := 0, ground := Ground.phase }, { on := 1, ground := Ground.textOnly Departure.lateStores }, { on := 2, ground := Ground.textOnly Departure.lateStores }], guard := none }) rfl (fun K hK => ?_) AllReadyH.nil
      rw [if_pos (by rfl)]
      refine wp_store_row _ _ _ rfl (w.heap.size) zState rfl rfl _ _ XD.out (by kernel_rfl) (by rfl) (by kernel_rfl) ?_
      have hS3004 : BoxS (w.heap.size + 1) RC 67 (wd3000.setRow w.heap.size zState) := (BoxS.setRow (hH0) (by omega) _)
      refine hK.out _ _ hS3004 (fun hH3004 => ?_)
      have hH3004 : BoxS (w.heap.size + 1) RC 67 (wd3000.setRow w.heap.size zState) := hH3004
      clear hK K hS3004
      refine wpAnyH_take (i := 4) (oi := { dst := some 3, op := Op.assign (Operand.tmp 14), type := 33, pos := "state.go:87", after := #[{ on := 2, ground := Ground.data }, { on := 3, ground := Ground.chain }, { on := 0, ground := Ground.phase }, { on := 1, ground := Ground.phase }, { on := 2, ground := Ground.phase }, { on := 3, ground := Ground.phase }], guard := none }) (v := ?tkv3005) rfl (by kernel_rfl) (by kernel_rfl) (by kernel_rfl) (fun _ _ _ h => h) (Or.inl ⟨by rfl, ?tky3005⟩) hH3004 ?tkr3005
      case tky3005 => (intro w' hSw; clear hSw; go_simp; try with_reducible rfl)
      try simp only [Act.put, List.setIfInBounds_toArray, List.set_cons_zero, List.set_cons_succ]
      refine wpAnyH_done (by kernel_rfl) ?_ _
      refine NoPanic.normal ?_
      go_wp2_with fail
      go_meet
      exact ⟨rfl, Lib.hid rfl⟩
    case rest =>
      obtain ⟨rfl, hwx⟩ := hcut
      go_wp2_with fail
      rw [hwx.out]
      have hrow : (w4.drew.setRow w.heap.size zState).heap[w.heap.size]? = some (.cells zState 30 (0, 0)) := setRow_heap _ _ _ _ _ _ XD.out
      refine bodyPost_ret (results_cell_tmp_row rfl _ _ (w.heap.size) _ _ (0, 0) _ rfl hrow Try.underlying30 rfl (by kernel_rfl)) rfl ?_
      unfold ParseOk
      rw [HEE0.out, HLL0.out, HE.out, HL.out]
      exact ⟨zState, rfl, Lib.hid (zero_is _ _), Lib.hid (below_setRow2 HBL.out (Nat.le_refl _) _)⟩
end Go.Proofs.Ytnbpjajgfpdddaa
