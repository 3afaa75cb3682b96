/- elim: a row's own, change by contract. -/
import Derived.Test.YtgeodhffgbhmaaaDoorElBase
namespace Go.Proofs.YtgeodhffgbhmaaaDoor.El
open Go.RowKit
open VecM Vc
theorem clone_none (w : World) : Calls Tryd.prog 46 #[.slice none 0 0] w fun e w' => e = .returned (.slice none 0 0) ∧ w = w' := by
  have hq : ∀ (w : World) (a : Option Addr) (n c : Nat), (binOp .eql 30 (.slice a n c) (.slice none 0 0)).run Tryd.prog w = .ok (.bool a.isNone) w := fun w a n c => Lib.run_eql_slice_nil w _ _ a n c 0 0 Tryd.underlying30
  go_enter Tryd.func46, Tryd.ntmps46
  go_wp2
  go_ret
  exact ⟨rfl, rfl⟩
theorem below_setRowB {B g : Nat} {w w' : World} (h : Below B w w') (hg : B ≤ g) (cs : Array Value) : Below B w (w'.setRow g cs) :=
  ⟨h.os, h.tape, h.output, by simpa using h.size, fun k hk => (setRow_other w' g k cs (by omega)).trans (h.block k hk)⟩
theorem dat_of_own {W : World} {base n c : Nat} {A : Option Addr} {l : List UInt8} (h : W.ownsRow base 5 1 (.slice A n c) n (bv l)) (hl : 0 < l.length) : n = l.length ∧ DatAt W A c l ∧ ∃ d, A = some ⟨d, 0, none⟩ ∧ base ≤ d ∧ d < W.heap.size := by
  have e : n = l.length := by have := h.1; rw [bv_length] at this; omega
  subst e
  rcases h.2 with ⟨h0, h1⟩ | ⟨g, cap, cur, hv, hb, hg, r⟩
  · omega
  · refine ⟨rfl, ⟨h.1, .inr ⟨g, cap, cur, hv, Nat.zero_le _, hg, r⟩⟩, g, ?_, hb, (Array.getElem?_eq_some_iff.1 hg).1⟩
    injection hv
abbrev SOwn (w : World) (p : Option Addr) (A : Option Addr) (m c : Nat) (wb W : World) : Prop :=
  Below wb.heap.size wb W ∧ W.cell? ⟨w.heap.size, 0, none⟩ = some (.pointer p) ∧ W.cell? ⟨w.heap.size, 1, none⟩ = some (.slice A m c)
def OwnOk (n X : Nat) (l : List UInt8) (w : World) (e : Ending) (w' : World) : Prop :=
  ∃ g h d c, e = .returned (.agg #[.pointer (some ⟨g, 0, none⟩), .slice (some ⟨d, 0, none⟩) l.length c]) ∧ w.heap.size ≤ g ∧ w.heap.size ≤ h ∧ w.heap.size ≤ d ∧ Hid (VecAt w' g h n X) ∧ Hid (DatAt w' (some ⟨d, 0, none⟩) c l) ∧ Hid (Below w.heap.size w w')
set_option maxRecDepth 100000 in
set_option maxHeartbeats 1600000 in
theorem ownR_any (g h n X c : Nat) (A : Option Addr) (l : List UInt8) (w : World) (v : VecAt w g h n X) (hr : Row w w.heap.size A l.length (bv l)) (hl : 0 < l.length) (hl2 : l.length ≤ 1000) :
    Calls Tryd.prog 53 #[.agg #[.pointer (some ⟨g, 0, none⟩), .slice A l.length c]] w (OwnOk n X l w) := by
  obtain ⟨m, hm⟩ : ∃ m, l.length = m := ⟨_, rfl⟩
  rw [hm] at hr ⊢
  have HM := Lib.hid hm
  have HL := Lib.hid hl
  have hx := heap_alloc2_old w (.cells #[.pointer (some ⟨g, 0, none⟩), .slice A m c] 73) (.cells #[.pointer none, .slice none 0 0] 73)
  have hy := heap_alloc2_new w (.cells #[.pointer (some ⟨g, 0, none⟩), .slice A m c] 73) (.cells #[.pointer none, .slice none 0 0] 73)
  have hb : Below w.heap.size w ((w.alloc (.cells #[.pointer (some ⟨g, 0, none⟩), .slice A m c] 73)).alloc (.cells #[.pointer none, .slice none 0 0] 73)) := ((Below.refl _ _).alloc (Nat.le_refl _) _).alloc (by simp) _
  have hsz : ((w.alloc (.cells #[.pointer (some ⟨g, 0, none⟩), .slice A m c] 73)).alloc (.cells #[.pointer none, .slice none 0 0] 73)).heap.size = w.heap.size + 2 := by simp
  have HCL := Lib.hid (fun (W : World) (hW : Below w.heap.size w W) => clone_any w.heap.size m c A l W (hr.below hW) (by omega) hW.size)
  have HCO := Lib.hid (fun (W : World) (hW : Below w.heap.size w W) => copy_any g h n X W (v.below hW))
  clear v hr hl hm hl2
  go_enter Tryd.func53, Tryd.ntmps53
  go_upto_region 1 with fail
  have HB := Lib.hid hb
  have BX := Lib.hid hy
  have LX : Hid (w.heap.size + 1 < ((w.alloc (.cells #[.pointer (some ⟨g, 0, none⟩), .slice A m c] 73)).alloc (.cells #[.pointer none, .slice none 0 0] 73)).heap.size) := Lib.hid (by rw [hsz]; omega)
  have HBB : Hid (w.heap.size + 1 ≤ ((w.alloc (.cells #[.pointer (some ⟨g, 0, none⟩), .slice A m c] 73)).alloc (.cells #[.pointer none, .slice none 0 0] 73)).heap.size) := Lib.hid (by rw [hsz]; omega)
  generalize ((w.alloc (.cells #[.pointer (some ⟨g, 0, none⟩), .slice A m c] 73)).alloc (.cells #[.pointer none, .slice none 0 0] 73)) = wb at *
  have c0 : Hid (∀ W, Below (w.heap.size + 1) wb W → W.cell? ⟨w.heap.size, 0, none⟩ = some (.pointer (some ⟨g, 0, none⟩))) := Lib.hid (fun W hW => by rw [cell_of_row W _ 0 _ _ (0, 0) ((hW.block w.heap.size (Nat.lt_succ_self _)).trans hx)]; rfl)
  have c1 : Hid (∀ W, Below (w.heap.size + 1) wb W → W.cell? ⟨w.heap.size, 1, none⟩ = some (.slice A m c)) := Lib.hid (fun W hW => by rw [cell_of_row W _ 1 _ _ (0, 0) ((hW.block w.heap.size (Nat.lt_succ_self _)).trans hx)]; rfl)
  clear hb hx hy hsz
  refine wp_region_noPanic ?_
  refine wp_region_held_drew (S := (fun W => Below (w.heap.size + 1) wb W)) (by kernel_rfl) (Below.refl _ _).drew (fun hH0 => ?_)
  have hH0 : Below (w.heap.size + 1) wb wb.drew := hH0
  have BXd := Lib.hid (show wb.drew.heap[(w.heap.size + 1)]? = _ from BX.out)
  have LXd := Lib.hid (show (w.heap.size + 1) < wb.drew.heap.size from LX.out)
  generalize wb.drew = wd900 at *
  refine wpAnyH_take (i := 0) (oi := { dst := some 3, op := Op.fieldAddr 73 (Operand.tmp 1) 0, type := 0, pos := "elim.go:28", after := #[], guard := none }) (v := ?tkv901) rfl (by kernel_rfl) (by kernel_rfl) (by kernel_rfl) (fun _ _ _ h => h) (Or.inl ⟨by rfl, ?tky901⟩) hH0 ?tkr901
  case tky901 => (intro w' hSw; clear hSw; go_simp; try with_reducible rfl)
  try simp only [Act.put, List.setIfInBounds_toArray, List.set_cons_zero, List.set_cons_succ]
  refine wpAnyH_take (i := 1) (oi := { dst := some 4, op := Op.load 33 (Operand.tmp 3), type := 33, pos := "elim.go:28", after := #[{ on := 0, ground := Ground.data }], guard := none }) (v := ?tkv902) rfl (by kernel_rfl) (by kernel_rfl) (by kernel_rfl) (fun _ _ _ h => h) (Or.inl ⟨by rfl, ?tky902⟩) hH0 ?tkr902
  case tky902 => (intro w' hSw; have z0 := c0.out _ hSw; have z1 := c1.out _ hSw; clear hSw; go_simp; try with_reducible rfl)
  try simp only [Act.put, List.setIfInBounds_toArray, List.set_cons_zero, List.set_cons_succ]
  refine wpAnyH_take (i := 3) (oi := { dst := some 6, op := Op.fieldAddr 73 (Operand.tmp 1) 1, type := 0, pos := "elim.go:28", after := #[], guard := none }) (v := ?tkv903) rfl (by kernel_rfl) (by kernel_rfl) (by kernel_rfl) (fun _ _ _ h => h) (Or.inl ⟨by rfl, ?tky903⟩) hH0 ?tkr903
  case tky903 => (intro w' hSw; clear hSw; go_simp; try with_reducible rfl)
  try simp only [Act.put, List.setIfInBounds_toArray, List.set_cons_zero, List.set_cons_succ]
  refine wpAnyH_take (i := 4) (oi := { dst := some 7, op := Op.load 30 (Operand.tmp 6), type := 30, pos := "elim.go:28", after := #[{ on := 3, ground := Ground.data }], guard := none }) (v := ?tkv904) rfl (by kernel_rfl) (by kernel_rfl) (by kernel_rfl) (fun _ _ _ h => h) (Or.inl ⟨by rfl, ?tky904⟩) hH0 ?tkr904
  case tky904 => (intro w' hSw; have z0 := c0.out _ hSw; have z1 := c1.out _ hSw; clear hSw; go_simp; try with_reducible rfl)
  try simp only [Act.put, List.setIfInBounds_toArray, List.set_cons_zero, List.set_cons_succ]
  refine wpAnyH_ready (rs := [2]) (by kernel_rfl) (by simp) ?_
  refine AllReadyH.cons (o := { dst := some 5, op := Op.call { callee := Callee.value (Operand.func 60), args := #[Operand.tmp 4], argTypes := #[33] }, type := 33, pos := "elim.go:28", after := #[{ on := 1, ground := Ground.data }], guard := none }) rfl (fun K hK => ?_) AllReadyH.nil
  go_simp
  refine (HCO.out wd900 (HB.out.trans ((hH0).mono (Nat.le_succ _)))).mono ?_
  rintro e' wn905 ⟨g905, h905, rfl, hg905, hh905, V905, hbo905⟩
  have hb905 := hbo905.out
  go_simp
  have BXd_905 := Lib.hid ((hb905.block (w.heap.size + 1) LXd.out).trans BXd.out)
  have LXd_905 := Lib.hid (Nat.lt_of_lt_of_le LXd.out hb905.size)
  have hS905 : Below (w.heap.size + 1) wb wn905 := (hH0).trans (hb905.mono (Nat.le_trans HBB.out (hH0).size))
  refine hK.out _ _ hS905 (fun hH905 => ?_)
  have hH905 : Below (w.heap.size + 1) wb wn905 := hH905
  clear hK K hS905
  try simp only [Act.put, List.setIfInBounds_toArray, List.set_cons_zero, List.set_cons_succ]
  refine wpAnyH_ready (rs := [5]) (by kernel_rfl) (by simp) ?_
  refine AllReadyH.cons (o := { dst := some 8, op := Op.call { callee := Callee.value (Operand.func 46), args := #[Operand.tmp 7], argTypes := #[30] }, type := 30, pos := "elim.go:28", after := #[{ on := 4, ground := Ground.data }, { on := 2, ground := Ground.chain }], guard := none }) rfl (fun K hK => ?_) AllReadyH.nil
  go_simp
  refine (HCL.out wn905 (HB.out.trans ((hH905).mono (Nat.le_succ _)))).mono ?_
  rintro e' wn906 ⟨Ac906, nc906, c906, rfl, hnc906, hown906, hb906⟩
  obtain ⟨e906, D906, d906, rfl, hd906, hdl906⟩ := dat_of_own hown906 HL.out
  rw [HM.out] at e906
  have f906 := e906.symm
  subst f906
  have DD906 := Lib.hid D906
  clear hown906 hnc906 D906
  go_simp
  have BXd_906 := Lib.hid ((hb906.block (w.heap.size + 1) LXd_905.out).trans BXd_905.out)
  have LXd_906 := Lib.hid (Nat.lt_of_lt_of_le LXd_905.out hb906.size)
  have V905_906 := Lib.hid (V905.out.below hb906)
  have hS906 : Below (w.heap.size + 1) wb wn906 := (hH905).trans (hb906.mono (Nat.le_trans HBB.out (hH905).size))
  refine hK.out _ _ hS906 (fun hH906 => ?_)
  have hH906 : Below (w.heap.size + 1) wb wn906 := hH906
  clear hK K hS906
  try simp only [Act.put, List.setIfInBounds_toArray, List.set_cons_zero, List.set_cons_succ]
  refine wpAnyH_take (i := 6) (oi := { dst := some 9, op := Op.build 73 #[(0, Operand.tmp 5), (1, Operand.tmp 8)], type := 73, pos := "elim.go:28", after := #[{ on := 2, ground := Ground.data }, { on := 5, ground := Ground.data }], guard := none }) (v := ?tkv907) rfl (by kernel_rfl) (by kernel_rfl) (by kernel_rfl) (fun _ _ _ h => h) (Or.inl ⟨by rfl, ?tky907⟩) hH906 ?tkr907
  case tky907 => (intro w' hSw; clear hSw; go_simp; try with_reducible rfl)
  try simp only [Act.put, List.setIfInBounds_toArray, List.set_cons_zero, List.set_cons_succ]
  refine wpAnyH_ready (rs := [7]) (by kernel_rfl) (by simp) ?_
  refine AllReadyH.cons (o := { dst := none, op := Op.store 73 (Operand.tmp 2) (Operand.tmp 9), type := 0, pos := "elim.go:28", after := #[{ on := 6, ground := Ground.data }, { on := 5, ground := Ground.chain }, { on := 0, ground := Ground.phase }, { on := 1, ground := Ground.phase }, { on := 2, ground := Ground.phase }, { on := 3, ground := Ground.phase }, { on := 4, ground := Ground.phase }, { on := 5, ground := Ground.phase }, { on := 6, ground := Ground.phase }], guard := none }) rfl (fun K hK => ?_) AllReadyH.nil
  rw [if_pos (by rfl)]
  refine wp_store_row _ _ _ rfl (w.heap.size + 1) #[.pointer (some ⟨g905, 0, none⟩), .slice (some ⟨d906, 0, none⟩) m c906] rfl rfl _ _ BXd_906.out (by kernel_rfl) (by rfl) (by kernel_rfl) ?_
  have hS908 : Below (w.heap.size + 1) wb (wn906.setRow (w.heap.size + 1) #[.pointer (some ⟨g905, 0, none⟩), .slice (some ⟨d906, 0, none⟩) m c906]) := (below_setRowB (hH906) (Nat.le_refl _) _)
  refine hK.out _ _ hS908 (fun hH908 => ?_)
  have hH908 : Below (w.heap.size + 1) wb (wn906.setRow (w.heap.size + 1) #[.pointer (some ⟨g905, 0, none⟩), .slice (some ⟨d906, 0, none⟩) m c906]) := hH908
  clear hK K hS908
  refine wpAnyH_done (by kernel_rfl) ?_ _
  refine NoPanic.normal ?_
  have HROW := Lib.hid (setRow_heap _ _ _ #[.pointer (some ⟨g905, 0, none⟩), .slice (some ⟨d906, 0, none⟩) m c906] _ _ BXd_906.out)
  have hends : Below w.heap.size w (wn906.setRow (w.heap.size + 1) #[.pointer (some ⟨g905, 0, none⟩), .slice (some ⟨d906, 0, none⟩) m c906]) := HB.out.trans ((hH908).mono (Nat.le_succ _))
  have hk : ∀ b, b ≠ w.heap.size + 1 → (wn906.setRow (w.heap.size + 1) #[.pointer (some ⟨g905, 0, none⟩), .slice (some ⟨d906, 0, none⟩) m c906]).heap[b]? = wn906.heap[b]? := fun b hb => setRow_other _ _ _ _ hb
  have hlx := LXd.out
  have hw1 := HB.out.size
  have hgg : wd900.heap.size ≤ g905 := hg905
  have hgh : wd900.heap.size ≤ h905 := hh905
  have hgd : wn905.heap.size ≤ d906 := hd906
  have hdv := (hH905).size
  have hdl := (LXd_905).out
  have VF : Hid (VecAt (wn906.setRow (w.heap.size + 1) #[.pointer (some ⟨g905, 0, none⟩), .slice (some ⟨d906, 0, none⟩) m c906]) g905 h905 n X) := Lib.hid (V905_906.out.keep (hk _ (by omega)) (hk _ (by omega)))
  have DF : Hid (DatAt (wn906.setRow (w.heap.size + 1) #[.pointer (some ⟨g905, 0, none⟩), .slice (some ⟨d906, 0, none⟩) m c906]) (some ⟨d906, 0, none⟩) c906 l) := Lib.hid (DD906.out.keep fun b hb => by
    have hb : d906 = b := Option.some.inj hb
    exact hk _ (by omega))
  have G1 : Hid (w.heap.size ≤ g905) := Lib.hid (by omega)
  have G2 : Hid (w.heap.size ≤ h905) := Lib.hid (by omega)
  have G3 : Hid (w.heap.size ≤ d906) := Lib.hid (by omega)
  have HENDS := Lib.hid hends
  clear hk hlx hw1 hgg hgh hgd hdv hdl hends
  go_wp2_with fail
  refine bodyPost_ret (results_cell_row rfl _ _ (w.heap.size + 1) _ _ (0, 0) _ rfl HROW.out Tryd.underlying73 rfl (by kernel_rfl)) rfl ?_
  exact ⟨g905, h905, d906, c906, by rw [HM.out], G1.out, G2.out, G3.out, VF, DF, HENDS⟩
end Go.Proofs.YtgeodhffgbhmaaaDoor.El
