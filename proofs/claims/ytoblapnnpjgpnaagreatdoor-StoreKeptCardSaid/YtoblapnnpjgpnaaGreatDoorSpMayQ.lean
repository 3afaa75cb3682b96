/- spread.May, code.Of, manifest.May, Same: by contracts. -/
import Derived.Laws.ResultCell
import Derived.Laws.Rows
import Derived.Deep.RegionWith
import Derived.BigQuiet
import Derived.Deep.QuietTactic
import Derived.StillTailTactics
import Derived.Test.YtoblapnnpjgpnaaGreatDoorBlkCountQ
import Derived.Test.YtoblapnnpjgpnaaGreatDoorZAQ
namespace Go.Proofs.YtoblapnnpjgpnaaGreatDoor
open Go.RowKit
theorem within_any (x a b : Int) (w : World) : Calls Tryz.prog 72 #[.int .i64 x, .int .i64 a, .int .i64 b] w fun e w' => e = .returned (.bool (decide (a ≤ x) && decide (x ≤ b))) ∧ w = w' := by
  go_enter Tryz.func72, Tryz.ntmps72
  go_wp2
  all_goals (go_ret; exact ⟨by simp; intros; omega, rfl⟩)
def mayB (K P Z : Int) : Bool := (decide (1 ≤ K) && decide (K ≤ 64)) && (decide (0 ≤ P) && decide (P ≤ 16)) && (decide (1 ≤ Z) && decide (Z ≤ 16))
set_option maxRecDepth 100000 in
set_option maxHeartbeats 400000 in
theorem spMay_any (s K P Z : Int) (w : World) : Calls Tryz.prog 37 #[.agg #[.int .u32 s, .int .i64 K, .int .i64 P, .int .i64 Z]] w fun e w' => e = .returned (.bool (mayB K P Z)) ∧ Below w.heap.size w w' := by
  go_enter Tryz.func37, Tryz.ntmps37
  go_wp2_with (go_at_call 72; refine (within_any _ _ _ _).mono ?_; rintro e w' ⟨rfl, rfl⟩)
  all_goals (go_ret; exact ⟨by simp [mayB, *], (Below.refl _ _).alloc (Nat.le_refl _) _⟩)
theorem results_cell_tmp_row {P : Program} {fn : Func} {p u : Tmp} {ty : TypeId} (h : fn.results = #[.cell p ty, .tmp u]) (tmps : Array Value) (w : World) (g : Nat) (t : TypeId) (cs : Array Value) (fr : Nat × Nat) (d : TypeDesc)
    (hp : tmps.getD p undef = .pointer (some ⟨g, 0, none⟩)) (hg : w.heap[g]? = some (.cells cs t fr))
    (hu : P.underlying ty = some d) (hd : (match d with | .struct _ | .array _ _ => true | _ => false) = true) (hi : (P.info? ty).map (·.size) = some cs.size) :
    (results fn tmps).run P w = .ok (.tuple #[.agg cs, tmps.getD u undef]) w := by
  rw [results_cell_tmp h, hp]
  simp [asAddr, run_loadVar_row w g t ty cs fr d hg hu hd hi]
theorem set4 {w : World} {g : Nat} {t : TypeId} {z0 z1 z2 z3 : Value} (h : w.heap[g]? = some (.cells #[z0, z1, z2, z3] t (0, 0))) (v0 v1 v2 v3 : Value) :
    ((((w.setCell ⟨g, 0, none⟩ v0).setCell ⟨g, 1, none⟩ v1).setCell ⟨g, 2, none⟩ v2).setCell ⟨g, 3, none⟩ v3).heap[g]? = some (.cells #[v0, v1, v2, v3] t (0, 0)) := by
  have h0 : (w.setCell ⟨g, 0, none⟩ v0).heap[g]? = some (.cells #[v0, z1, z2, z3] t (0, 0)) := heap_setCell_same _ g 0 _ t v0 h
  have h1 : ((w.setCell ⟨g, 0, none⟩ v0).setCell ⟨g, 1, none⟩ v1).heap[g]? = some (.cells #[v0, v1, z2, z3] t (0, 0)) := heap_setCell_same _ g 1 _ t v1 h0
  have h2 : (((w.setCell ⟨g, 0, none⟩ v0).setCell ⟨g, 1, none⟩ v1).setCell ⟨g, 2, none⟩ v2).heap[g]? = some (.cells #[v0, v1, v2, z3] t (0, 0)) := heap_setCell_same _ g 2 _ t v2 h1
  exact heap_setCell_same _ g 3 _ t v3 h2
/-- may a manifest of these numbers be coded? -/
def ofB (l z p : Int) : Bool := mayB (BlkM.count l z : Nat) p z
theorem bx6 {w : World} {g : Nat} {a b c d e f : Value} {t : TypeId} (h : w.heap[g]? = some (.cells #[a, b, c, d, e, f] t (0, 0))) : w.cell? ⟨g, 0, none⟩ = some a ∧ w.cell? ⟨g, 1, none⟩ = some b ∧ w.cell? ⟨g, 2, none⟩ = some c ∧ w.cell? ⟨g, 3, none⟩ = some d ∧ w.cell? ⟨g, 4, none⟩ = some e ∧ w.cell? ⟨g, 5, none⟩ = some f := by
  refine ⟨?_, ?_, ?_, ?_, ?_, ?_⟩ <;> rw [cell_of_row w g _ _ t (0, 0) h] <;> rfl
theorem bx4 {w : World} {g : Nat} {x y z u : Value} {t : TypeId} (h : w.heap[g]? = some (.cells #[x, y, z, u] t (0, 0))) : (w.cell? ⟨g, 0, none⟩ = some x ∧ w.cell? ⟨g, 1, none⟩ = some y ∧ w.cell? ⟨g, 2, none⟩ = some z ∧ w.cell? ⟨g, 3, none⟩ = some u) ∧ (w.frozen? ⟨g, 0, none⟩ = false ∧ w.frozen? ⟨g, 1, none⟩ = false ∧ w.frozen? ⟨g, 2, none⟩ = false ∧ w.frozen? ⟨g, 3, none⟩ = false) := by
  refine ⟨⟨?_, ?_, ?_, ?_⟩, frozen_of_row w g 0 _ _ h, frozen_of_row w g 1 _ _ h, frozen_of_row w g 2 _ _ h, frozen_of_row w g 3 _ _ h⟩ <;> rw [cell_of_row w g _ _ t (0, 0) h] <;> rfl
theorem count_eq (a b : Int) (K : Nat) (w : World) (h : Hid (BlkM.count a b = K)) : Calls Tryz.prog 36 #[.int .i64 a, .int .i64 b] w fun e w' => e = .returned (.int .i64 (K : Int)) ∧ w = w' := by
  rw [← h.out]; exact count_any a b w
def OfOk (l z p : Int) (w : World) (e : Ending) (w' : World) : Prop := ∃ s K P Z : Int, e = .returned (.tuple #[.agg #[.int .u32 s, .int .i64 K, .int .i64 P, .int .i64 Z], .bool (ofB l z p)]) ∧ Below w.heap.size w w'
def OfAll (sv : Nat) (l z p : Int) (w : World) (e : Ending) (w' : World) : Prop := ∃ s K P Z : Int, e = .returned (.tuple #[.agg #[.int .u32 s, .int .i64 K, .int .i64 P, .int .i64 Z], .bool (ofB l z p)]) ∧ Below w.heap.size w w' ∧ (ofB l z p = true → s = (sv : Int) ∧ K = ((BlkM.count l z : Nat) : Int) ∧ P = p ∧ Z = z)
set_option maxRecDepth 100000 in
set_option maxHeartbeats 200000 in
theorem of_all (s v : Nat) (l z p : Int) (A : Option Addr) (n c : Nat) (w : World) :
    Calls Tryz.prog 15 #[.agg #[.int .u32 (s : Int), .int .u32 (v : Int), .int .i64 l, .int .i64 z, .int .i64 p, .slice A n c]] w (OfAll s l z p w) := by
  have hx1 := heap_alloc2_old w (.cells #[.int .u32 (s : Int), .int .u32 (v : Int), .int .i64 l, .int .i64 z, .int .i64 p, .slice A n c] 33) (.cells #[.int .u32 0, .int .i64 0, .int .i64 0, .int .i64 0] 44)
  have hx2 := heap_alloc2_new w (.cells #[.int .u32 (s : Int), .int .u32 (v : Int), .int .i64 l, .int .i64 z, .int .i64 p, .slice A n c] 33) (.cells #[.int .u32 0, .int .i64 0, .int .i64 0, .int .i64 0] 44)
  obtain ⟨N0, hK⟩ : ∃ N0, BlkM.count l z = N0 := ⟨_, rfl⟩
  have HK := Lib.hid hK
  have HX1 := Lib.hid hx1
  have HX2 := Lib.hid hx2
  clear hK hx1 hx2
  go_enter Tryz.func15, Tryz.ntmps15
  go_wp2_with fail
  have hx1 := HX1.out
  have hx2 := HX2.out
  have hb0 : Below w.heap.size w ((w.alloc (.cells #[.int .u32 (s : Int), .int .u32 (v : Int), .int .i64 l, .int .i64 z, .int .i64 p, .slice A n c] 33)).alloc (.cells #[.int .u32 0, .int .i64 0, .int .i64 0, .int .i64 0] 44)) := ((Below.refl _ _).alloc (Nat.le_refl _) _).alloc (by simp) _
  have hsz : ((w.alloc (.cells #[.int .u32 (s : Int), .int .u32 (v : Int), .int .i64 l, .int .i64 z, .int .i64 p, .slice A n c] 33)).alloc (.cells #[.int .u32 0, .int .i64 0, .int .i64 0, .int .i64 0] 44)).heap.size = w.heap.size + 2 := by simp
  have HSZ := Lib.hid hsz
  clear HX1 HX2 hsz
  generalize ((w.alloc (.cells #[.int .u32 (s : Int), .int .u32 (v : Int), .int .i64 l, .int .i64 z, .int .i64 p, .slice A n c] 33)).alloc (.cells #[.int .u32 0, .int .i64 0, .int .i64 0, .int .i64 0] 44)) = W0 at *
  obtain ⟨c0, c1, c2, c3, c4, c5⟩ := bx6 hx1
  have HX2 := Lib.hid hx2
  have HB0 := Lib.hid hb0
  clear hx1 hx2 hb0
  clear c1 c5
  have HC : Hid (∀ W, Below W0.heap.size W0 W → W.cell? ⟨w.heap.size, 0, none⟩ = some (.int .u32 (s : Int)) ∧ W.cell? ⟨w.heap.size, 2, none⟩ = some (.int .i64 l) ∧ W.cell? ⟨w.heap.size, 3, none⟩ = some (.int .i64 z) ∧ W.cell? ⟨w.heap.size, 4, none⟩ = some (.int .i64 p)) := by
    intro W hW
    have hl : w.heap.size < W0.heap.size := by have := HSZ.out; omega
    exact ⟨(hW.cell (p := ⟨_, _, none⟩) hl).trans c0, (hW.cell (p := ⟨_, _, none⟩) hl).trans c2, (hW.cell (p := ⟨_, _, none⟩) hl).trans c3, (hW.cell (p := ⟨_, _, none⟩) hl).trans c4⟩
  clear c0 c2 c3 c4
  -- REGION
  refine wp_region_noPanic ?_
  refine wp_region_held_drew (S := (fun W => Below W0.heap.size W0 W)) (by kernel_rfl) (Below.refl _ _).drew (fun hH0 => ?_)
  have hH0 : (fun W => Below W0.heap.size W0 W) W0.drew := hH0
  generalize W0.drew = wd at *
  have hWD : Below W0.heap.size W0 wd := hH0
  refine wpAnyH_take (i := 0) (oi := { dst := some 5, op := Op.fieldAddr 33 (Operand.tmp 1) 0, type := 0, pos := "code.go:24", after := #[], guard := none }) (v := ?tkv901) rfl (by kernel_rfl) (by kernel_rfl) (by kernel_rfl) (fun _ _ _ h => h) (Or.inl ⟨by rfl, ?tky901⟩) hH0 ?tkr901
  case tky901 => (intro w' hSw; clear hSw; go_simp; try with_reducible rfl)
  try simp only [Act.put, List.setIfInBounds_toArray, List.set_cons_zero, List.set_cons_succ]
  refine wpAnyH_take (i := 1) (oi := { dst := some 6, op := Op.load 22 (Operand.tmp 5), type := 22, pos := "code.go:24", after := #[{ on := 0, ground := Ground.data }], guard := none }) (v := ?tkv902) rfl (by kernel_rfl) (by kernel_rfl) (by kernel_rfl) (fun _ _ _ h => h) (Or.inl ⟨by rfl, ?tky902⟩) hH0 ?tkr902
  case tky902 => (intro w' hSw; have z0 := HC.out _ hSw; clear hSw; go_simp; try with_reducible rfl)
  try simp only [Act.put, List.setIfInBounds_toArray, List.set_cons_zero, List.set_cons_succ]
  refine wpAnyH_take (i := 2) (oi := { dst := some 7, op := Op.fieldAddr 33 (Operand.tmp 1) 2, type := 0, pos := "code.go:24", after := #[], guard := none }) (v := ?tkv903) rfl (by kernel_rfl) (by kernel_rfl) (by kernel_rfl) (fun _ _ _ h => h) (Or.inl ⟨by rfl, ?tky903⟩) hH0 ?tkr903
  case tky903 => (intro w' hSw; clear hSw; go_simp; try with_reducible rfl)
  try simp only [Act.put, List.setIfInBounds_toArray, List.set_cons_zero, List.set_cons_succ]
  refine wpAnyH_take (i := 3) (oi := { dst := some 8, op := Op.load 3 (Operand.tmp 7), type := 3, pos := "code.go:24", after := #[{ on := 2, ground := Ground.data }], guard := none }) (v := ?tkv904) rfl (by kernel_rfl) (by kernel_rfl) (by kernel_rfl) (fun _ _ _ h => h) (Or.inl ⟨by rfl, ?tky904⟩) hH0 ?tkr904
  case tky904 => (intro w' hSw; have z0 := HC.out _ hSw; clear hSw; go_simp; try with_reducible rfl)
  try simp only [Act.put, List.setIfInBounds_toArray, List.set_cons_zero, List.set_cons_succ]
  refine wpAnyH_take (i := 4) (oi := { dst := some 9, op := Op.fieldAddr 33 (Operand.tmp 1) 3, type := 0, pos := "code.go:24", after := #[], guard := none }) (v := ?tkv905) rfl (by kernel_rfl) (by kernel_rfl) (by kernel_rfl) (fun _ _ _ h => h) (Or.inl ⟨by rfl, ?tky905⟩) hH0 ?tkr905
  case tky905 => (intro w' hSw; clear hSw; go_simp; try with_reducible rfl)
  try simp only [Act.put, List.setIfInBounds_toArray, List.set_cons_zero, List.set_cons_succ]
  refine wpAnyH_take (i := 5) (oi := { dst := some 10, op := Op.load 3 (Operand.tmp 9), type := 3, pos := "code.go:24", after := #[{ on := 4, ground := Ground.data }], guard := none }) (v := ?tkv906) rfl (by kernel_rfl) (by kernel_rfl) (by kernel_rfl) (fun _ _ _ h => h) (Or.inl ⟨by rfl, ?tky906⟩) hH0 ?tkr906
  case tky906 => (intro w' hSw; have z0 := HC.out _ hSw; clear hSw; go_simp; try with_reducible rfl)
  try simp only [Act.put, List.setIfInBounds_toArray, List.set_cons_zero, List.set_cons_succ]
  refine wpAnyH_take (i := 7) (oi := { dst := some 12, op := Op.fieldAddr 33 (Operand.tmp 1) 4, type := 0, pos := "code.go:24", after := #[], guard := none }) (v := ?tkv907) rfl (by kernel_rfl) (by kernel_rfl) (by kernel_rfl) (fun _ _ _ h => h) (Or.inl ⟨by rfl, ?tky907⟩) hH0 ?tkr907
  case tky907 => (intro w' hSw; clear hSw; go_simp; try with_reducible rfl)
  try simp only [Act.put, List.setIfInBounds_toArray, List.set_cons_zero, List.set_cons_succ]
  refine wpAnyH_take (i := 8) (oi := { dst := some 13, op := Op.load 3 (Operand.tmp 12), type := 3, pos := "code.go:24", after := #[{ on := 7, ground := Ground.data }], guard := none }) (v := ?tkv908) rfl (by kernel_rfl) (by kernel_rfl) (by kernel_rfl) (fun _ _ _ h => h) (Or.inl ⟨by rfl, ?tky908⟩) hH0 ?tkr908
  case tky908 => (intro w' hSw; have z0 := HC.out _ hSw; clear hSw; go_simp; try with_reducible rfl)
  try simp only [Act.put, List.setIfInBounds_toArray, List.set_cons_zero, List.set_cons_succ]
  refine wpAnyH_take (i := 9) (oi := { dst := some 14, op := Op.fieldAddr 33 (Operand.tmp 1) 3, type := 0, pos := "code.go:24", after := #[], guard := none }) (v := ?tkv909) rfl (by kernel_rfl) (by kernel_rfl) (by kernel_rfl) (fun _ _ _ h => h) (Or.inl ⟨by rfl, ?tky909⟩) hH0 ?tkr909
  case tky909 => (intro w' hSw; clear hSw; go_simp; try with_reducible rfl)
  try simp only [Act.put, List.setIfInBounds_toArray, List.set_cons_zero, List.set_cons_succ]
  refine wpAnyH_take (i := 10) (oi := { dst := some 15, op := Op.load 3 (Operand.tmp 14), type := 3, pos := "code.go:24", after := #[{ on := 9, ground := Ground.data }], guard := none }) (v := ?tkv910) rfl (by kernel_rfl) (by kernel_rfl) (by kernel_rfl) (fun _ _ _ h => h) (Or.inl ⟨by rfl, ?tky910⟩) hH0 ?tkr910
  case tky910 => (intro w' hSw; have z0 := HC.out _ hSw; clear hSw; go_simp; try with_reducible rfl)
  try simp only [Act.put, List.setIfInBounds_toArray, List.set_cons_zero, List.set_cons_succ]
  refine wpAnyH_ready (rs := [6, 12]) (by kernel_rfl) (by simp) ?_
  refine AllReadyH.cons (o := { dst := some 11, op := Op.call { callee := Callee.value (Operand.func 36), args := #[Operand.tmp 8, Operand.tmp 10], argTypes := #[3, 3] }, type := 3, pos := "code.go:24", after := #[{ on := 3, ground := Ground.data }, { on := 5, ground := Ground.data }], guard := none }) rfl (fun K hK => ?_) (AllReadyH.cons (o := { dst := some 4, op := Op.alloc 44, type := 0, pos := "code.go:24", after := #[], guard := none }) rfl (fun K hK => ?_) AllReadyH.nil)
  · go_simp
    (with_reducible refine (count_eq l z N0 _ HK).mono ?_)
    rintro e' w' ⟨rfl, rfl⟩
    go_simp
    have hS911 : (fun W => Below W0.heap.size W0 W) wd := hH0
    refine hK.out _ _ hS911 (fun hH911 => ?_)
    clear hK K
    try simp only [Act.put, List.setIfInBounds_toArray, List.set_cons_zero, List.set_cons_succ]
    refine wpAnyH_take (i := 11) (oi := { dst := some 16, op := Op.build 44 #[(0, Operand.tmp 6), (1, Operand.tmp 11), (2, Operand.tmp 13), (3, Operand.tmp 15)], type := 44, pos := "code.go:24", after := #[{ on := 1, ground := Ground.data }, { on := 6, ground := Ground.data }, { on := 8, ground := Ground.data }, { on := 10, ground := Ground.data }], guard := none }) (v := ?tkv912) rfl (by kernel_rfl) (by kernel_rfl) (by kernel_rfl) (fun _ _ _ h => h) (Or.inl ⟨by rfl, ?tky912⟩) hH911 ?tkr912
    case tky912 => (intro w' hSw; clear hSw; go_simp; try with_reducible rfl)
    try simp only [Act.put, List.setIfInBounds_toArray, List.set_cons_zero, List.set_cons_succ]
    refine wpAnyH_ready (rs := [12]) (by kernel_rfl) (by simp) ?_
    refine AllReadyH.cons (o := { dst := some 4, op := Op.alloc 44, type := 0, pos := "code.go:24", after := #[], guard := none }) rfl (fun K hK => ?_) AllReadyH.nil
    go_simp
    have hS913 : (fun W => Below W0.heap.size W0 W) (wd.alloc (.cells #[.int .u32 0, .int .i64 0, .int .i64 0, .int .i64 0] 44)) := (hWD.alloc hWD.size _)
    refine hK.out _ _ hS913 (fun hH913 => ?_)
    clear hK K
    try simp only [Act.put, List.setIfInBounds_toArray, List.set_cons_zero, List.set_cons_succ]
    refine wpAnyH_ready (rs := [13]) (by kernel_rfl) (by simp) ?_
    refine AllReadyH.cons (o := { dst := none, op := Op.store 44 (Operand.tmp 4) (Operand.tmp 16), type := 0, pos := "code.go:24", after := #[{ on := 12, ground := Ground.data }, { on := 11, ground := Ground.data }, { on := 6, ground := Ground.chain }, { on := 0, ground := Ground.phase }, { on := 1, ground := Ground.phase }, { on := 2, ground := Ground.phase }, { on := 3, ground := Ground.phase }, { on := 4, ground := Ground.phase }, { on := 5, ground := Ground.phase }, { on := 6, ground := Ground.phase }, { on := 7, ground := Ground.phase }, { on := 8, ground := Ground.phase }, { on := 9, ground := Ground.phase }, { on := 10, ground := Ground.phase }, { on := 11, ground := Ground.phase }, { on := 12, ground := Ground.phase }], guard := none }) rfl (fun K hK => ?_) AllReadyH.nil
    go_simp
    have hS914 : (fun W => Below W0.heap.size W0 W) (wd.alloc (.cells #[.int .u32 (s : Int), .int .i64 (N0 : Int), .int .i64 p, .int .i64 z] 44)) := (hWD.alloc hWD.size _)
    refine hK.out _ _ hS914 (fun hH914 => ?_)
    clear hK K
    try simp only [Act.put, List.setIfInBounds_toArray, List.set_cons_zero, List.set_cons_succ]
    refine wpAnyH_done (by kernel_rfl) ?_ _
    refine NoPanic.normal ?_
    go_wp2_with fail
    refine (spMay_any s N0 p z _).mono ?_
    rintro e w2 ⟨rfl, hb2⟩
    have hq1 : w.heap.size + 1 < wd.heap.size := by have h1 := HSZ.out; have h2 := hWD.size; omega
    have hbd : Below w.heap.size w wd := HB0.out.trans (hWD.mono HB0.out.size)
    have hx2 : w2.heap[w.heap.size + 1]? = some (.cells #[.int .u32 0, .int .i64 0, .int .i64 0, .int .i64 0] 44 (0, 0)) := (hb2.block (w.heap.size + 1) (by simp; omega)).trans ((heap_alloc_old wd _ (by omega)).trans ((hWD.block (w.heap.size + 1) (by have := HSZ.out; omega)).trans HX2.out))
    have hx3 : w2.heap[wd.heap.size]? = some (.cells #[.int .u32 (s : Int), .int .i64 (N0 : Int), .int .i64 p, .int .i64 z] 44 (0, 0)) := (hb2.block wd.heap.size (by simp)).trans (heap_alloc_new wd _)
    have HBZ : Hid (Below w.heap.size w w2) := (hbd.alloc hbd.size _).trans (hb2.mono (by simp; have := hbd.size; omega))
    have HOF : Hid (ofB l z p = mayB (N0 : Int) p z) := by show _ = _; unfold ofB; rw [HK.out]
    obtain ⟨⟨y0, y1, y2, y3⟩, ⟨f0, f1, f2, f3⟩⟩ := bx4 hx2
    obtain ⟨⟨u0, u1, u2, u3⟩, -⟩ := bx4 hx3
    have HX3 := Lib.hid hx2
    clear hx2 hx3 hb2 hq1 hbd
    cases hm : mayB (N0 : Int) p z with
    | false =>
      rw [hm] at HOF
      clear hm
      go_wp2_with fail
      have hrow := set4 HX3.out (.int .u32 0) (.int .i64 0) (.int .i64 0) (.int .i64 0)
      refine bodyPost_ret (results_cell_tmp_row rfl _ _ (w.heap.size + 1) _ _ (0, 0) _ rfl hrow Tryz.underlying44 rfl (by kernel_rfl)) rfl ?_
      exact ⟨0, 0, 0, 0, by rw [HOF.out]; rfl, (((HBZ.out.setCell (by simp) _).setCell (by simp) _).setCell (by simp) _).setCell (by simp) _, fun h => by rw [HOF.out] at h; cases h⟩
    | true =>
      rw [hm] at HOF
      clear hm
      go_wp2_with fail
      have hrow := set4 HX3.out (.int .u32 (s : Int)) (.int .i64 (N0 : Int)) (.int .i64 p) (.int .i64 z)
      refine bodyPost_ret (results_cell_tmp_row rfl _ _ (w.heap.size + 1) _ _ (0, 0) _ rfl hrow Tryz.underlying44 rfl (by kernel_rfl)) rfl ?_
      exact ⟨s, N0, p, z, by rw [HOF.out]; rfl, (((HBZ.out.setCell (by simp) _).setCell (by simp) _).setCell (by simp) _).setCell (by simp) _, fun _ => ⟨rfl, by rw [HK.out], rfl, rfl⟩⟩
  · go_simp
    have hS915 : (fun W => Below W0.heap.size W0 W) (wd.alloc (.cells #[.int .u32 0, .int .i64 0, .int .i64 0, .int .i64 0] 44)) := (hWD.alloc hWD.size _)
    refine hK.out _ _ hS915 (fun hH915 => ?_)
    clear hK K
    try simp only [Act.put, List.setIfInBounds_toArray, List.set_cons_zero, List.set_cons_succ]
    refine wpAnyH_ready (rs := [6]) (by kernel_rfl) (by simp) ?_
    refine AllReadyH.cons (o := { dst := some 11, op := Op.call { callee := Callee.value (Operand.func 36), args := #[Operand.tmp 8, Operand.tmp 10], argTypes := #[3, 3] }, type := 3, pos := "code.go:24", after := #[{ on := 3, ground := Ground.data }, { on := 5, ground := Ground.data }], guard := none }) rfl (fun K hK => ?_) AllReadyH.nil
    go_simp
    (with_reducible refine (count_eq l z N0 _ HK).mono ?_)
    rintro e' w' ⟨rfl, rfl⟩
    go_simp
    have hS916 : (fun W => Below W0.heap.size W0 W) (wd.alloc (.cells #[.int .u32 0, .int .i64 0, .int .i64 0, .int .i64 0] 44)) := hH915
    refine hK.out _ _ hS916 (fun hH916 => ?_)
    clear hK K
    try simp only [Act.put, List.setIfInBounds_toArray, List.set_cons_zero, List.set_cons_succ]
    refine wpAnyH_take (i := 11) (oi := { dst := some 16, op := Op.build 44 #[(0, Operand.tmp 6), (1, Operand.tmp 11), (2, Operand.tmp 13), (3, Operand.tmp 15)], type := 44, pos := "code.go:24", after := #[{ on := 1, ground := Ground.data }, { on := 6, ground := Ground.data }, { on := 8, ground := Ground.data }, { on := 10, ground := Ground.data }], guard := none }) (v := ?tkv917) rfl (by kernel_rfl) (by kernel_rfl) (by kernel_rfl) (fun _ _ _ h => h) (Or.inl ⟨by rfl, ?tky917⟩) hH916 ?tkr917
    case tky917 => (intro w' hSw; clear hSw; go_simp; try with_reducible rfl)
    try simp only [Act.put, List.setIfInBounds_toArray, List.set_cons_zero, List.set_cons_succ]
    refine wpAnyH_ready (rs := [13]) (by kernel_rfl) (by simp) ?_
    refine AllReadyH.cons (o := { dst := none, op := Op.store 44 (Operand.tmp 4) (Operand.tmp 16), type := 0, pos := "code.go:24", after := #[{ on := 12, ground := Ground.data }, { on := 11, ground := Ground.data }, { on := 6, ground := Ground.chain }, { on := 0, ground := Ground.phase }, { on := 1, ground := Ground.phase }, { on := 2, ground := Ground.phase }, { on := 3, ground := Ground.phase }, { on := 4, ground := Ground.phase }, { on := 5, ground := Ground.phase }, { on := 6, ground := Ground.phase }, { on := 7, ground := Ground.phase }, { on := 8, ground := Ground.phase }, { on := 9, ground := Ground.phase }, { on := 10, ground := Ground.phase }, { on := 11, ground := Ground.phase }, { on := 12, ground := Ground.phase }], guard := none }) rfl (fun K hK => ?_) AllReadyH.nil
    go_simp
    have hS918 : (fun W => Below W0.heap.size W0 W) (wd.alloc (.cells #[.int .u32 (s : Int), .int .i64 (N0 : Int), .int .i64 p, .int .i64 z] 44)) := (hWD.alloc hWD.size _)
    refine hK.out _ _ hS918 (fun hH918 => ?_)
    clear hK K
    try simp only [Act.put, List.setIfInBounds_toArray, List.set_cons_zero, List.set_cons_succ]
    refine wpAnyH_done (by kernel_rfl) ?_ _
    refine NoPanic.normal ?_
    go_wp2_with fail
    refine (spMay_any s N0 p z _).mono ?_
    rintro e w2 ⟨rfl, hb2⟩
    have hq1 : w.heap.size + 1 < wd.heap.size := by have h1 := HSZ.out; have h2 := hWD.size; omega
    have hbd : Below w.heap.size w wd := HB0.out.trans (hWD.mono HB0.out.size)
    have hx2 : w2.heap[w.heap.size + 1]? = some (.cells #[.int .u32 0, .int .i64 0, .int .i64 0, .int .i64 0] 44 (0, 0)) := (hb2.block (w.heap.size + 1) (by simp; omega)).trans ((heap_alloc_old wd _ (by omega)).trans ((hWD.block (w.heap.size + 1) (by have := HSZ.out; omega)).trans HX2.out))
    have hx3 : w2.heap[wd.heap.size]? = some (.cells #[.int .u32 (s : Int), .int .i64 (N0 : Int), .int .i64 p, .int .i64 z] 44 (0, 0)) := (hb2.block wd.heap.size (by simp)).trans (heap_alloc_new wd _)
    have HBZ : Hid (Below w.heap.size w w2) := (hbd.alloc hbd.size _).trans (hb2.mono (by simp; have := hbd.size; omega))
    have HOF : Hid (ofB l z p = mayB (N0 : Int) p z) := by show _ = _; unfold ofB; rw [HK.out]
    obtain ⟨⟨y0, y1, y2, y3⟩, ⟨f0, f1, f2, f3⟩⟩ := bx4 hx2
    obtain ⟨⟨u0, u1, u2, u3⟩, -⟩ := bx4 hx3
    have HX3 := Lib.hid hx2
    clear hx2 hx3 hb2 hq1 hbd
    cases hm : mayB (N0 : Int) p z with
    | false =>
      rw [hm] at HOF
      clear hm
      go_wp2_with fail
      have hrow := set4 HX3.out (.int .u32 0) (.int .i64 0) (.int .i64 0) (.int .i64 0)
      refine bodyPost_ret (results_cell_tmp_row rfl _ _ (w.heap.size + 1) _ _ (0, 0) _ rfl hrow Tryz.underlying44 rfl (by kernel_rfl)) rfl ?_
      exact ⟨0, 0, 0, 0, by rw [HOF.out]; rfl, (((HBZ.out.setCell (by simp) _).setCell (by simp) _).setCell (by simp) _).setCell (by simp) _, fun h => by rw [HOF.out] at h; cases h⟩
    | true =>
      rw [hm] at HOF
      clear hm
      go_wp2_with fail
      have hrow := set4 HX3.out (.int .u32 (s : Int)) (.int .i64 (N0 : Int)) (.int .i64 p) (.int .i64 z)
      refine bodyPost_ret (results_cell_tmp_row rfl _ _ (w.heap.size + 1) _ _ (0, 0) _ rfl hrow Tryz.underlying44 rfl (by kernel_rfl)) rfl ?_
      exact ⟨s, N0, p, z, by rw [HOF.out]; rfl, (((HBZ.out.setCell (by simp) _).setCell (by simp) _).setCell (by simp) _).setCell (by simp) _, fun _ => ⟨rfl, by rw [HK.out], rfl, rfl⟩⟩
theorem of_any (s v : Nat) (l z p : Int) (A : Option Addr) (n c : Nat) (w : World) :
    Calls Tryz.prog 15 #[.agg #[.int .u32 (s : Int), .int .u32 (v : Int), .int .i64 l, .int .i64 z, .int .i64 p, .slice A n c]] w (OfOk l z p w) :=
  (of_all s v l z p A n c w).mono (by
    rintro e w' ⟨q, K, P, Z, h1, h2, _⟩
    exact ⟨q, K, P, Z, h1, h2⟩)
end Go.Proofs.YtoblapnnpjgpnaaGreatDoor
