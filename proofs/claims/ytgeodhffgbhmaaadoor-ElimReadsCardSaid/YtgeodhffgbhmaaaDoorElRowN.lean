/- elim: a row's own, change where it has no data: by contract. -/
import Derived.Test.YtgeodhffgbhmaaaDoorElRed
namespace Go.Proofs.YtgeodhffgbhmaaaDoor.El
open Go.RowKit
open VecM Vc
def OwnNOk (n X : Nat) (w : World) (e : Ending) (w' : World) : Prop :=
  ∃ g h, e = .returned (.agg #[.pointer (some ⟨g, 0, none⟩), .slice none 0 0]) ∧ w.heap.size ≤ g ∧ w.heap.size ≤ h ∧ Hid (VecAt w' g h n X) ∧ Hid (Below w.heap.size w w')
set_option maxRecDepth 100000 in
set_option maxHeartbeats 1600000 in
theorem ownN_any (g h n X : Nat) (w : World) (v : VecAt w g h n X) :
    Calls Tryd.prog 53 #[.agg #[.pointer (some ⟨g, 0, none⟩), .slice none 0 0]] w (OwnNOk n X w) := by
  have hx := heap_alloc2_old w (.cells #[.pointer (some ⟨g, 0, none⟩), .slice none 0 0] 73) (.cells #[.pointer none, .slice none 0 0] 73)
  have hy := heap_alloc2_new w (.cells #[.pointer (some ⟨g, 0, none⟩), .slice none 0 0] 73) (.cells #[.pointer none, .slice none 0 0] 73)
  have hb : Below w.heap.size w ((w.alloc (.cells #[.pointer (some ⟨g, 0, none⟩), .slice none 0 0] 73)).alloc (.cells #[.pointer none, .slice none 0 0] 73)) := ((Below.refl _ _).alloc (Nat.le_refl _) _).alloc (by simp) _
  have hsz : ((w.alloc (.cells #[.pointer (some ⟨g, 0, none⟩), .slice none 0 0] 73)).alloc (.cells #[.pointer none, .slice none 0 0] 73)).heap.size = w.heap.size + 2 := by simp
  have HCO := Lib.hid (fun (W : World) (hW : Below w.heap.size w W) => copy_any g h n X W (v.below hW))
  clear v
  go_enter Tryd.func53, Tryd.ntmps53
  go_upto_region 1 with fail
  have HB := Lib.hid hb
  have BX := Lib.hid hy
  have LX : Hid (w.heap.size + 1 < ((w.alloc (.cells #[.pointer (some ⟨g, 0, none⟩), .slice none 0 0] 73)).alloc (.cells #[.pointer none, .slice none 0 0] 73)).heap.size) := Lib.hid (by rw [hsz]; omega)
  have HBB : Hid (w.heap.size + 1 ≤ ((w.alloc (.cells #[.pointer (some ⟨g, 0, none⟩), .slice none 0 0] 73)).alloc (.cells #[.pointer none, .slice none 0 0] 73)).heap.size) := Lib.hid (by rw [hsz]; omega)
  generalize ((w.alloc (.cells #[.pointer (some ⟨g, 0, none⟩), .slice none 0 0] 73)).alloc (.cells #[.pointer none, .slice none 0 0] 73)) = wb at *
  have c0 : Hid (∀ W, Below (w.heap.size + 1) wb W → W.cell? ⟨w.heap.size, 0, none⟩ = some (.pointer (some ⟨g, 0, none⟩))) := Lib.hid (fun W hW => by rw [cell_of_row W _ 0 _ _ (0, 0) ((hW.block w.heap.size (Nat.lt_succ_self _)).trans hx)]; rfl)
  have c1 : Hid (∀ W, Below (w.heap.size + 1) wb W → W.cell? ⟨w.heap.size, 1, none⟩ = some (.slice none 0 0)) := Lib.hid (fun W hW => by rw [cell_of_row W _ 1 _ _ (0, 0) ((hW.block w.heap.size (Nat.lt_succ_self _)).trans hx)]; rfl)
  clear hb hx hy hsz
  refine wp_region_noPanic ?_
  refine wp_region_held_drew (S := (fun W => Below (w.heap.size + 1) wb W)) (by kernel_rfl) (Below.refl _ _).drew (fun hH0 => ?_)
  have hH0 : Below (w.heap.size + 1) wb wb.drew := hH0
  have BXd := Lib.hid (show wb.drew.heap[(w.heap.size + 1)]? = _ from BX.out)
  have LXd := Lib.hid (show (w.heap.size + 1) < wb.drew.heap.size from LX.out)
  generalize wb.drew = wd900 at *
  refine wpAnyH_take (i := 0) (oi := { dst := some 3, op := Op.fieldAddr 73 (Operand.tmp 1) 0, type := 0, pos := "elim.go:28", after := #[], guard := none }) (v := ?tkv901) rfl (by kernel_rfl) (by kernel_rfl) (by kernel_rfl) (fun _ _ _ h => h) (Or.inl ⟨by rfl, ?tky901⟩) hH0 ?tkr901
  case tky901 => (intro w' hSw; clear hSw; go_simp; try with_reducible rfl)
  try simp only [Act.put, List.setIfInBounds_toArray, List.set_cons_zero, List.set_cons_succ]
  refine wpAnyH_take (i := 1) (oi := { dst := some 4, op := Op.load 33 (Operand.tmp 3), type := 33, pos := "elim.go:28", after := #[{ on := 0, ground := Ground.data }], guard := none }) (v := ?tkv902) rfl (by kernel_rfl) (by kernel_rfl) (by kernel_rfl) (fun _ _ _ h => h) (Or.inl ⟨by rfl, ?tky902⟩) hH0 ?tkr902
  case tky902 => (intro w' hSw; have z0 := c0.out _ hSw; have z1 := c1.out _ hSw; clear hSw; go_simp; try with_reducible rfl)
  try simp only [Act.put, List.setIfInBounds_toArray, List.set_cons_zero, List.set_cons_succ]
  refine wpAnyH_take (i := 3) (oi := { dst := some 6, op := Op.fieldAddr 73 (Operand.tmp 1) 1, type := 0, pos := "elim.go:28", after := #[], guard := none }) (v := ?tkv903) rfl (by kernel_rfl) (by kernel_rfl) (by kernel_rfl) (fun _ _ _ h => h) (Or.inl ⟨by rfl, ?tky903⟩) hH0 ?tkr903
  case tky903 => (intro w' hSw; clear hSw; go_simp; try with_reducible rfl)
  try simp only [Act.put, List.setIfInBounds_toArray, List.set_cons_zero, List.set_cons_succ]
  refine wpAnyH_take (i := 4) (oi := { dst := some 7, op := Op.load 30 (Operand.tmp 6), type := 30, pos := "elim.go:28", after := #[{ on := 3, ground := Ground.data }], guard := none }) (v := ?tkv904) rfl (by kernel_rfl) (by kernel_rfl) (by kernel_rfl) (fun _ _ _ h => h) (Or.inl ⟨by rfl, ?tky904⟩) hH0 ?tkr904
  case tky904 => (intro w' hSw; have z0 := c0.out _ hSw; have z1 := c1.out _ hSw; clear hSw; go_simp; try with_reducible rfl)
  try simp only [Act.put, List.setIfInBounds_toArray, List.set_cons_zero, List.set_cons_succ]
  refine wpAnyH_ready (rs := [2]) (by kernel_rfl) (by simp) ?_
  refine AllReadyH.cons (o := { dst := some 5, op := Op.call { callee := Callee.value (Operand.func 60), args := #[Operand.tmp 4], argTypes := #[33] }, type := 33, pos := "elim.go:28", after := #[{ on := 1, ground := Ground.data }], guard := none }) rfl (fun K hK => ?_) AllReadyH.nil
  go_simp
  refine (HCO.out wd900 (HB.out.trans ((hH0).mono (Nat.le_succ _)))).mono ?_
  rintro e' wn905 ⟨g905, h905, rfl, hg905, hh905, V905, hbo905⟩
  have hb905 := hbo905.out
  go_simp
  have BXd_905 := Lib.hid ((hb905.block (w.heap.size + 1) LXd.out).trans BXd.out)
  have LXd_905 := Lib.hid (Nat.lt_of_lt_of_le LXd.out hb905.size)
  have hS905 : Below (w.heap.size + 1) wb wn905 := (hH0).trans (hb905.mono (Nat.le_trans HBB.out (hH0).size))
  refine hK.out _ _ hS905 (fun hH905 => ?_)
  have hH905 : Below (w.heap.size + 1) wb wn905 := hH905
  clear hK K hS905
  try simp only [Act.put, List.setIfInBounds_toArray, List.set_cons_zero, List.set_cons_succ]
  refine wpAnyH_ready (rs := [5]) (by kernel_rfl) (by simp) ?_
  refine AllReadyH.cons (o := { dst := some 8, op := Op.call { callee := Callee.value (Operand.func 46), args := #[Operand.tmp 7], argTypes := #[30] }, type := 30, pos := "elim.go:28", after := #[{ on := 4, ground := Ground.data }, { on := 2, ground := Ground.chain }], guard := none }) rfl (fun K hK => ?_) AllReadyH.nil
  go_simp
  refine (clone_none wn905).mono ?_
  rintro e' w' ⟨rfl, rfl⟩
  go_simp
  have hS906 : Below (w.heap.size + 1) wb wn905 := hH905
  refine hK.out _ _ hS906 (fun hH906 => ?_)
  have hH906 : Below (w.heap.size + 1) wb wn905 := hH906
  clear hK K hS906
  try simp only [Act.put, List.setIfInBounds_toArray, List.set_cons_zero, List.set_cons_succ]
  refine wpAnyH_take (i := 6) (oi := { dst := some 9, op := Op.build 73 #[(0, Operand.tmp 5), (1, Operand.tmp 8)], type := 73, pos := "elim.go:28", after := #[{ on := 2, ground := Ground.data }, { on := 5, ground := Ground.data }], guard := none }) (v := ?tkv907) rfl (by kernel_rfl) (by kernel_rfl) (by kernel_rfl) (fun _ _ _ h => h) (Or.inl ⟨by rfl, ?tky907⟩) hH906 ?tkr907
  case tky907 => (intro w' hSw; clear hSw; go_simp; try with_reducible rfl)
  try simp only [Act.put, List.setIfInBounds_toArray, List.set_cons_zero, List.set_cons_succ]
  refine wpAnyH_ready (rs := [7]) (by kernel_rfl) (by simp) ?_
  refine AllReadyH.cons (o := { dst := none, op := Op.store 73 (Operand.tmp 2) (Operand.tmp 9), type := 0, pos := "elim.go:28", after := #[{ on := 6, ground := Ground.data }, { on := 5, ground := Ground.chain }, { on := 0, ground := Ground.phase }, { on := 1, ground := Ground.phase }, { on := 2, ground := Ground.phase }, { on := 3, ground := Ground.phase }, { on := 4, ground := Ground.phase }, { on := 5, ground := Ground.phase }, { on := 6, ground := Ground.phase }], guard := none }) rfl (fun K hK => ?_) AllReadyH.nil
  rw [if_pos (by rfl)]
  refine wp_store_row _ _ _ rfl (w.heap.size + 1) #[.pointer (some ⟨g905, 0, none⟩), .slice none 0 0] rfl rfl _ _ BXd_905.out (by kernel_rfl) (by rfl) (by kernel_rfl) ?_
  have hS908 : Below (w.heap.size + 1) wb (wn905.setRow (w.heap.size + 1) #[.pointer (some ⟨g905, 0, none⟩), .slice none 0 0]) := (below_setRowB (hH906) (Nat.le_refl _) _)
  refine hK.out _ _ hS908 (fun hH908 => ?_)
  have hH908 : Below (w.heap.size + 1) wb (wn905.setRow (w.heap.size + 1) #[.pointer (some ⟨g905, 0, none⟩), .slice none 0 0]) := hH908
  clear hK K hS908
  refine wpAnyH_done (by kernel_rfl) ?_ _
  refine NoPanic.normal ?_
  have HROW := Lib.hid (setRow_heap _ _ _ #[.pointer (some ⟨g905, 0, none⟩), .slice none 0 0] _ _ BXd_905.out)
  have hends : Below w.heap.size w (wn905.setRow (w.heap.size + 1) #[.pointer (some ⟨g905, 0, none⟩), .slice none 0 0]) := HB.out.trans ((hH908).mono (Nat.le_succ _))
  have hk : ∀ b, b ≠ w.heap.size + 1 → (wn905.setRow (w.heap.size + 1) #[.pointer (some ⟨g905, 0, none⟩), .slice none 0 0]).heap[b]? = wn905.heap[b]? := fun b hb => setRow_other _ _ _ _ hb
  have hlx := LXd.out
  have hw1 := HB.out.size
  have hgg : wd900.heap.size ≤ g905 := hg905
  have hgh : wd900.heap.size ≤ h905 := hh905
  have VF : Hid (VecAt (wn905.setRow (w.heap.size + 1) #[.pointer (some ⟨g905, 0, none⟩), .slice none 0 0]) g905 h905 n X) := Lib.hid (V905.out.keep (hk _ (by omega)) (hk _ (by omega)))
  have G1 : Hid (w.heap.size ≤ g905) := Lib.hid (by omega)
  have G2 : Hid (w.heap.size ≤ h905) := Lib.hid (by omega)
  have HENDS := Lib.hid hends
  clear hk hlx hw1 hgg hgh hends
  go_wp2_with fail
  refine bodyPost_ret (results_cell_row rfl _ _ (w.heap.size + 1) _ _ (0, 0) _ rfl HROW.out Tryd.underlying73 rfl (by kernel_rfl)) rfl ?_
  exact ⟨g905, h905, rfl, G1.out, G2.out, VF, HENDS⟩
def ChNOk (g h n Z : Nat) (w : World) (e : Ending) (w' : World) : Prop := e = .returned (.tuple #[]) ∧ Hid (VecAt w' g h n Z) ∧ Hid (Fr w w' (fun b => b = h))
set_option maxRecDepth 100000 in
set_option maxHeartbeats 1600000 in
theorem changeN_any (g h n X g' h' Y d' c' m : Nat) (w : World) (v : VecAt w g h n X) (u : VecAt w g' h' n Y) (hh : h ≠ h') :
    Calls Tryd.prog 34 #[.agg #[.pointer (some ⟨g, 0, none⟩), .slice none 0 0], .agg #[.pointer (some ⟨g', 0, none⟩), .slice (some ⟨d', 0, none⟩) m c']] w (ChNOk g h n (X ^^^ Y) w) := by
  have hx := heap_alloc2_old w (.cells #[.pointer (some ⟨g, 0, none⟩), .slice none 0 0] 73) (.cells #[.pointer (some ⟨g', 0, none⟩), .slice (some ⟨d', 0, none⟩) m c'] 73)
  have hb : Below w.heap.size w ((w.alloc (.cells #[.pointer (some ⟨g, 0, none⟩), .slice none 0 0] 73)).alloc (.cells #[.pointer (some ⟨g', 0, none⟩), .slice (some ⟨d', 0, none⟩) m c'] 73)) := ((Below.refl _ _).alloc (Nat.le_refl _) _).alloc (by simp) _
  have hg' : h ≠ g' := by obtain ⟨c1, a1⟩ := VecAt.hblk v; obtain ⟨c2, a2⟩ := VecAt.gblk u; exact ne_of_types a1 a2 (by decide)
  have HLT := Lib.hid v.lt
  have HV := Lib.hid (v.below hb)
  have HU := Lib.hid (u.below hb)
  have HNE := Lib.hid (And.intro hg' hh)
  have HX := Lib.hid hx
  have HB := Lib.hid hb
  clear v u hh hx hb hg'
  go_enter Tryd.func34, Tryd.ntmps34
  go_wp2_with fail
  generalize ((w.alloc (.cells #[.pointer (some ⟨g, 0, none⟩), .slice none 0 0] 73)).alloc (.cells #[.pointer (some ⟨g', 0, none⟩), .slice (some ⟨d', 0, none⟩) m c'] 73)) = wb at *
  refine (xor_any g h n X g' h' Y wb HV.out HU.out HNE.out.2 HNE.out.1).mono ?_
  rintro e w1 ⟨rfl, hv1, hg1⟩
  have hx1 := (hg1.out.block w.heap.size (Array.getElem?_eq_some_iff.1 HX.out).1 (fun e => by injection e with e; have := HLT.out.2; omega)).trans HX.out
  have c1 : w1.cell? ⟨w.heap.size, 1, none⟩ = some (.slice none 0 0) := by rw [cell_of_row w1 _ 1 _ _ (0, 0) hx1]; rfl
  have HF1 : Hid (Fr w w1 (fun b => b = h)) := Lib.hid ((Fr.of_below HB.out).trans (Fr.of_grown hg1.out (F := fun b => b = h) rfl) fun _ _ h => h)
  clear hx1 HX HB HV HU hg1
  go_wp2_with fail
  go_loopw [13] (fun x wr => x = .int .i64 0 ∧ wr = w1) (fun _ _ => 0)
  case atStart => exact ⟨rfl, rfl⟩
  case round =>
    obtain ⟨rfl, rfl⟩ := hrel
    go_wp2_with fail
    first | go_end0 | (simp only [Exit.inBlock, Exit.then]; refine bodyPost_ret (results_none rfl _ _ _) rfl ?_) | refine bodyPost_ret (results_none rfl _ _ _) rfl ?_
    exact ⟨rfl, hv1, HF1⟩
end Go.Proofs.YtgeodhffgbhmaaaDoor.El
