/- spread.May, code.Of, manifest.May, Same: by contracts. -/
import Derived.Laws.ResultCell
import Derived.Laws.Rows
import Derived.Deep.RegionWith
import Derived.BigQuiet
import Derived.Deep.QuietTactic
import Derived.StillTailTactics
import Derived.Deep.WholeRow
import Derived.Test.YtidcnoejihjgjaaGreatDoorZAQF
import Derived.Test.YtidcnoejihjgjaaGreatDoorRows
namespace Go.Proofs.YtidcnoejihjgjaaGreatDoor
open Go.RowKit
theorem within_any (x a b : Int) (w : World) : Calls Tryz.prog 88 #[.int .i64 x, .int .i64 a, .int .i64 b] w fun e w' => e = .returned (.bool (decide (a ≤ x) && decide (x ≤ b))) ∧ w = w' := by
  go_enter Tryz.func88, Tryz.ntmps88
  go_wp2
  all_goals (go_ret; exact ⟨by simp; intros; omega, rfl⟩)
def mayB (K P Z : Int) : Bool := (decide (1 ≤ K) && decide (K ≤ 64)) && (decide (0 ≤ P) && decide (P ≤ 16)) && (decide (1 ≤ Z) && decide (Z ≤ 16))
set_option maxRecDepth 100000 in
set_option maxHeartbeats 400000 in
theorem spMay_any (s K P Z : Int) (w : World) : Calls Tryz.prog 59 #[.agg #[.int .u32 s, .int .i64 K, .int .i64 P, .int .i64 Z]] w fun e w' => e = .returned (.bool (mayB K P Z)) ∧ Below w.heap.size w w' := by
  go_enter Tryz.func59, Tryz.ntmps59
  go_wp2_with (go_at_call 88; refine (within_any _ _ _ _).mono ?_; rintro e w' ⟨rfl, rfl⟩)
  all_goals (go_ret; exact ⟨by simp [mayB, *], (Below.refl _ _).alloc (Nat.le_refl _) _⟩)
theorem results_cell_tmp_row {P : Program} {fn : Func} {p u : Tmp} {ty : TypeId} (h : fn.results = #[.cell p ty, .tmp u]) (tmps : Array Value) (w : World) (g : Nat) (t : TypeId) (cs : Array Value) (fr : Nat × Nat) (d : TypeDesc)
    (hp : tmps.getD p undef = .pointer (some ⟨g, 0, none⟩)) (hg : w.heap[g]? = some (.cells cs t fr))
    (hu : P.underlying ty = some d) (hd : (match d with | .struct _ | .array _ _ => true | _ => false) = true) (hi : (P.info? ty).map (·.size) = some cs.size) :
    (results fn tmps).run P w = .ok (.tuple #[.agg cs, tmps.getD u undef]) w := by
  rw [results_cell_tmp h, hp]
  simp [asAddr, run_loadVar_row w g t ty cs fr d hg hu hd hi]
theorem set4 {w : World} {g : Nat} {t : TypeId} {z0 z1 z2 z3 : Value} (h : w.heap[g]? = some (.cells #[z0, z1, z2, z3] t (0, 0))) (v0 v1 v2 v3 : Value) :
    ((((w.setCell ⟨g, 0, none⟩ v0).setCell ⟨g, 1, none⟩ v1).setCell ⟨g, 2, none⟩ v2).setCell ⟨g, 3, none⟩ v3).heap[g]? = some (.cells #[v0, v1, v2, v3] t (0, 0)) := by
  have h0 : (w.setCell ⟨g, 0, none⟩ v0).heap[g]? = some (.cells #[v0, z1, z2, z3] t (0, 0)) := heap_setCell_same _ g 0 _ t v0 h
  have h1 : ((w.setCell ⟨g, 0, none⟩ v0).setCell ⟨g, 1, none⟩ v1).heap[g]? = some (.cells #[v0, v1, z2, z3] t (0, 0)) := heap_setCell_same _ g 1 _ t v1 h0
  have h2 : (((w.setCell ⟨g, 0, none⟩ v0).setCell ⟨g, 1, none⟩ v1).setCell ⟨g, 2, none⟩ v2).heap[g]? = some (.cells #[v0, v1, v2, z3] t (0, 0)) := heap_setCell_same _ g 2 _ t v2 h1
  exact heap_setCell_same _ g 3 _ t v3 h2
def ofB (l z p : Int) : Bool := mayB (BlkM.count l z : Nat) p z
theorem bx6 {w : World} {g : Nat} {a b c d e f : Value} {t : TypeId} (h : w.heap[g]? = some (.cells #[a, b, c, d, e, f] t (0, 0))) : w.cell? ⟨g, 0, none⟩ = some a ∧ w.cell? ⟨g, 1, none⟩ = some b ∧ w.cell? ⟨g, 2, none⟩ = some c ∧ w.cell? ⟨g, 3, none⟩ = some d ∧ w.cell? ⟨g, 4, none⟩ = some e ∧ w.cell? ⟨g, 5, none⟩ = some f := by
  refine ⟨?_, ?_, ?_, ?_, ?_, ?_⟩ <;> rw [cell_of_row w g _ _ t (0, 0) h] <;> rfl
theorem bx4 {w : World} {g : Nat} {x y z u : Value} {t : TypeId} (h : w.heap[g]? = some (.cells #[x, y, z, u] t (0, 0))) : (w.cell? ⟨g, 0, none⟩ = some x ∧ w.cell? ⟨g, 1, none⟩ = some y ∧ w.cell? ⟨g, 2, none⟩ = some z ∧ w.cell? ⟨g, 3, none⟩ = some u) ∧ (w.frozen? ⟨g, 0, none⟩ = false ∧ w.frozen? ⟨g, 1, none⟩ = false ∧ w.frozen? ⟨g, 2, none⟩ = false ∧ w.frozen? ⟨g, 3, none⟩ = false) := by
  refine ⟨⟨?_, ?_, ?_, ?_⟩, frozen_of_row w g 0 _ _ h, frozen_of_row w g 1 _ _ h, frozen_of_row w g 2 _ _ h, frozen_of_row w g 3 _ _ h⟩ <;> rw [cell_of_row w g _ _ t (0, 0) h] <;> rfl
theorem count_eq (a b : Int) (K : Nat) (w : World) (h : Hid (BlkM.count a b = K)) : Calls Tryz.prog 58 #[.int .i64 a, .int .i64 b] w fun e w' => e = .returned (.int .i64 (K : Int)) ∧ w = w' := by
  rw [← h.out]; exact count_any a b w
def OfOk (l z p : Int) (w : World) (e : Ending) (w' : World) : Prop := ∃ s K P Z : Int, e = .returned (.tuple #[.agg #[.int .u32 s, .int .i64 K, .int .i64 P, .int .i64 Z], .bool (ofB l z p)]) ∧ Below w.heap.size w w'
def OfAll (sv : Nat) (l z p : Int) (w : World) (e : Ending) (w' : World) : Prop := ∃ s K P Z : Int, e = .returned (.tuple #[.agg #[.int .u32 s, .int .i64 K, .int .i64 P, .int .i64 Z], .bool (ofB l z p)]) ∧ Below w.heap.size w w' ∧ (ofB l z p = true → s = (sv : Int) ∧ K = ((BlkM.count l z : Nat) : Int) ∧ P = p ∧ Z = z)
set_option maxRecDepth 100000 in
set_option maxHeartbeats 200000 in
theorem of_all (s v : Nat) (l z p : Int) (A : Option Addr) (n c : Nat) (w : World) :
    Calls Tryz.prog 25 #[.agg #[.int .u32 (s : Int), .int .u32 (v : Int), .int .i64 l, .int .i64 z, .int .i64 p, .slice A n c]] w (OfAll s l z p w) := by
  have hx1 := heap_alloc2_old w (.cells #[.int .u32 (s : Int), .int .u32 (v : Int), .int .i64 l, .int .i64 z, .int .i64 p, .slice A n c] 32) (.cells #[.int .u32 0, .int .i64 0, .int .i64 0, .int .i64 0] 35)
  have hx2 := heap_alloc2_new w (.cells #[.int .u32 (s : Int), .int .u32 (v : Int), .int .i64 l, .int .i64 z, .int .i64 p, .slice A n c] 32) (.cells #[.int .u32 0, .int .i64 0, .int .i64 0, .int .i64 0] 35)
  obtain ⟨N0, hK⟩ : ∃ N0, BlkM.count l z = N0 := ⟨_, rfl⟩
  have HK := Lib.hid hK
  have HX1 := Lib.hid hx1
  have HX2 := Lib.hid hx2
  clear hK hx1 hx2
  go_enter Tryz.func25, Tryz.ntmps25
  go_wp2_with fail
  have hx1 := HX1.out
  have hx2 := HX2.out
  have hb0 : Below w.heap.size w ((w.alloc (.cells #[.int .u32 (s : Int), .int .u32 (v : Int), .int .i64 l, .int .i64 z, .int .i64 p, .slice A n c] 32)).alloc (.cells #[.int .u32 0, .int .i64 0, .int .i64 0, .int .i64 0] 35)) := ((Below.refl _ _).alloc (Nat.le_refl _) _).alloc (by simp) _
  have hsz : ((w.alloc (.cells #[.int .u32 (s : Int), .int .u32 (v : Int), .int .i64 l, .int .i64 z, .int .i64 p, .slice A n c] 32)).alloc (.cells #[.int .u32 0, .int .i64 0, .int .i64 0, .int .i64 0] 35)).heap.size = w.heap.size + 2 := by simp
  have HSZ := Lib.hid hsz
  clear HX1 HX2 hsz
  generalize ((w.alloc (.cells #[.int .u32 (s : Int), .int .u32 (v : Int), .int .i64 l, .int .i64 z, .int .i64 p, .slice A n c] 32)).alloc (.cells #[.int .u32 0, .int .i64 0, .int .i64 0, .int .i64 0] 35)) = W0 at *
  obtain ⟨c0, c1, c2, c3, c4, c5⟩ := bx6 hx1
  have HX2 := Lib.hid hx2
  have HB0 := Lib.hid hb0
  clear hx1 hx2 hb0
  clear c1 c5
  have HC : Hid (∀ W, Below W0.heap.size W0 W → W.cell? ⟨w.heap.size, 0, none⟩ = some (.int .u32 (s : Int)) ∧ W.cell? ⟨w.heap.size, 2, none⟩ = some (.int .i64 l) ∧ W.cell? ⟨w.heap.size, 3, none⟩ = some (.int .i64 z) ∧ W.cell? ⟨w.heap.size, 4, none⟩ = some (.int .i64 p)) := by
    intro W hW
    have hl : w.heap.size < W0.heap.size := by have := HSZ.out; omega
    exact ⟨(hW.cell (p := ⟨_, _, none⟩) hl).trans c0, (hW.cell (p := ⟨_, _, none⟩) hl).trans c2, (hW.cell (p := ⟨_, _, none⟩) hl).trans c3, (hW.cell (p := ⟨_, _, none⟩) hl).trans c4⟩
  clear c0 c2 c3 c4
  -- REGION
  refine wp_region_noPanic ?_
  refine wp_region_held_drew (S := (fun W => Below W0.heap.size W0 W)) (by kernel_rfl) (Below.refl _ _).drew (fun hH0 => ?_)
  have hH0 : (fun W => Below W0.heap.size W0 W) W0.drew := hH0
  generalize W0.drew = wd at *
  have hWD : Below W0.heap.size W0 wd := hH0
  refine wpAnyH_take (i := 0) (oi := _) (v := ?tkv901) rfl (by kernel_rfl) (by kernel_rfl) (by kernel_rfl) (fun _ _ _ h => h) (Or.inl ⟨by rfl, ?tky901⟩) hH0 ?tkr901
  case tky901 => (intro w' hSw; clear hSw; go_simp; try with_reducible rfl)
  try simp only [Act.put, List.setIfInBounds_toArray, List.set_cons_zero, List.set_cons_succ]
  refine wpAnyH_take (i := 1) (oi := _) (v := ?tkv902) rfl (by kernel_rfl) (by kernel_rfl) (by kernel_rfl) (fun _ _ _ h => h) (Or.inl ⟨by rfl, ?tky902⟩) hH0 ?tkr902
  case tky902 => (intro w' hSw; have z0 := HC.out _ hSw; clear hSw; go_simp; try with_reducible rfl)
  try simp only [Act.put, List.setIfInBounds_toArray, List.set_cons_zero, List.set_cons_succ]
  refine wpAnyH_take (i := 2) (oi := _) (v := ?tkv903) rfl (by kernel_rfl) (by kernel_rfl) (by kernel_rfl) (fun _ _ _ h => h) (Or.inl ⟨by rfl, ?tky903⟩) hH0 ?tkr903
  case tky903 => (intro w' hSw; clear hSw; go_simp; try with_reducible rfl)
  try simp only [Act.put, List.setIfInBounds_toArray, List.set_cons_zero, List.set_cons_succ]
  refine wpAnyH_take (i := 3) (oi := _) (v := ?tkv904) rfl (by kernel_rfl) (by kernel_rfl) (by kernel_rfl) (fun _ _ _ h => h) (Or.inl ⟨by rfl, ?tky904⟩) hH0 ?tkr904
  case tky904 => (intro w' hSw; have z0 := HC.out _ hSw; clear hSw; go_simp; try with_reducible rfl)
  try simp only [Act.put, List.setIfInBounds_toArray, List.set_cons_zero, List.set_cons_succ]
  refine wpAnyH_take (i := 4) (oi := _) (v := ?tkv905) rfl (by kernel_rfl) (by kernel_rfl) (by kernel_rfl) (fun _ _ _ h => h) (Or.inl ⟨by rfl, ?tky905⟩) hH0 ?tkr905
  case tky905 => (intro w' hSw; clear hSw; go_simp; try with_reducible rfl)
  try simp only [Act.put, List.setIfInBounds_toArray, List.set_cons_zero, List.set_cons_succ]
  refine wpAnyH_take (i := 5) (oi := _) (v := ?tkv906) rfl (by kernel_rfl) (by kernel_rfl) (by kernel_rfl) (fun _ _ _ h => h) (Or.inl ⟨by rfl, ?tky906⟩) hH0 ?tkr906
  case tky906 => (intro w' hSw; have z0 := HC.out _ hSw; clear hSw; go_simp; try with_reducible rfl)
  try simp only [Act.put, List.setIfInBounds_toArray, List.set_cons_zero, List.set_cons_succ]
  refine wpAnyH_take (i := 7) (oi := _) (v := ?tkv907) rfl (by kernel_rfl) (by kernel_rfl) (by kernel_rfl) (fun _ _ _ h => h) (Or.inl ⟨by rfl, ?tky907⟩) hH0 ?tkr907
  case tky907 => (intro w' hSw; clear hSw; go_simp; try with_reducible rfl)
  try simp only [Act.put, List.setIfInBounds_toArray, List.set_cons_zero, List.set_cons_succ]
  refine wpAnyH_take (i := 8) (oi := _) (v := ?tkv908) rfl (by kernel_rfl) (by kernel_rfl) (by kernel_rfl) (fun _ _ _ h => h) (Or.inl ⟨by rfl, ?tky908⟩) hH0 ?tkr908
  case tky908 => (intro w' hSw; have z0 := HC.out _ hSw; clear hSw; go_simp; try with_reducible rfl)
  try simp only [Act.put, List.setIfInBounds_toArray, List.set_cons_zero, List.set_cons_succ]
  refine wpAnyH_take (i := 9) (oi := _) (v := ?tkv909) rfl (by kernel_rfl) (by kernel_rfl) (by kernel_rfl) (fun _ _ _ h => h) (Or.inl ⟨by rfl, ?tky909⟩) hH0 ?tkr909
  case tky909 => (intro w' hSw; clear hSw; go_simp; try with_reducible rfl)
  try simp only [Act.put, List.setIfInBounds_toArray, List.set_cons_zero, List.set_cons_succ]
  refine wpAnyH_take (i := 10) (oi := _) (v := ?tkv910) rfl (by kernel_rfl) (by kernel_rfl) (by kernel_rfl) (fun _ _ _ h => h) (Or.inl ⟨by rfl, ?tky910⟩) hH0 ?tkr910
  case tky910 => (intro w' hSw; have z0 := HC.out _ hSw; clear hSw; go_simp; try with_reducible rfl)
  try simp only [Act.put, List.setIfInBounds_toArray, List.set_cons_zero, List.set_cons_succ]
  refine wpAnyH_ready (rs := [6, 12]) (by kernel_rfl) (by simp) ?_
  refine AllReadyH.cons (o := _) rfl (fun K hK => ?_) (AllReadyH.cons (o := _) rfl (fun K hK => ?_) AllReadyH.nil)
  · go_simp
    (with_reducible refine (count_eq l z N0 _ HK).mono ?_)
    rintro e' w' ⟨rfl, rfl⟩
    go_simp
    have hS911 : (fun W => Below W0.heap.size W0 W) wd := hH0
    refine hK.out _ _ hS911 (fun hH911 => ?_)
    clear hK K
    try simp only [Act.put, List.setIfInBounds_toArray, List.set_cons_zero, List.set_cons_succ]
    refine wpAnyH_take (i := 11) (oi := _) (v := ?tkv912) rfl (by kernel_rfl) (by kernel_rfl) (by kernel_rfl) (fun _ _ _ h => h) (Or.inl ⟨by rfl, ?tky912⟩) hH911 ?tkr912
    case tky912 => (intro w' hSw; clear hSw; go_simp; try with_reducible rfl)
    try simp only [Act.put, List.setIfInBounds_toArray, List.set_cons_zero, List.set_cons_succ]
    refine wpAnyH_ready (rs := [12]) (by kernel_rfl) (by simp) ?_
    refine AllReadyH.cons (o := _) rfl (fun K hK => ?_) AllReadyH.nil
    go_simp
    have hS913 : (fun W => Below W0.heap.size W0 W) (wd.alloc (.cells #[.int .u32 0, .int .i64 0, .int .i64 0, .int .i64 0] 35)) := (hWD.alloc hWD.size _)
    refine hK.out _ _ hS913 (fun hH913 => ?_)
    clear hK K
    try simp only [Act.put, List.setIfInBounds_toArray, List.set_cons_zero, List.set_cons_succ]
    refine wpAnyH_ready (rs := [13]) (by kernel_rfl) (by simp) ?_
    refine AllReadyH.cons (o := _) rfl (fun K hK => ?_) AllReadyH.nil
    go_simp
    have hS914 : (fun W => Below W0.heap.size W0 W) (wd.alloc (.cells #[.int .u32 (s : Int), .int .i64 (N0 : Int), .int .i64 p, .int .i64 z] 35)) := (hWD.alloc hWD.size _)
    refine hK.out _ _ hS914 (fun hH914 => ?_)
    clear hK K
    try simp only [Act.put, List.setIfInBounds_toArray, List.set_cons_zero, List.set_cons_succ]
    refine wpAnyH_done (by kernel_rfl) ?_ _
    refine NoPanic.normal ?_
    go_wp2_with fail
    refine (spMay_any s N0 p z _).mono ?_
    rintro e w2 ⟨rfl, hb2⟩
    have hq1 : w.heap.size + 1 < wd.heap.size := by have h1 := HSZ.out; have h2 := hWD.size; omega
    have hbd : Below w.heap.size w wd := HB0.out.trans (hWD.mono HB0.out.size)
    have hx2 : w2.heap[w.heap.size + 1]? = some (.cells #[.int .u32 0, .int .i64 0, .int .i64 0, .int .i64 0] 35 (0, 0)) := (hb2.block (w.heap.size + 1) (by simp; omega)).trans ((heap_alloc_old wd _ (by omega)).trans ((hWD.block (w.heap.size + 1) (by have := HSZ.out; omega)).trans HX2.out))
    have hx3 : w2.heap[wd.heap.size]? = some (.cells #[.int .u32 (s : Int), .int .i64 (N0 : Int), .int .i64 p, .int .i64 z] 35 (0, 0)) := (hb2.block wd.heap.size (by simp)).trans (heap_alloc_new wd _)
    have HBZ : Hid (Below w.heap.size w w2) := (hbd.alloc hbd.size _).trans (hb2.mono (by simp; have := hbd.size; omega))
    have HOF : Hid (ofB l z p = mayB (N0 : Int) p z) := by show _ = _; unfold ofB; rw [HK.out]
    obtain ⟨⟨y0, y1, y2, y3⟩, ⟨f0, f1, f2, f3⟩⟩ := bx4 hx2
    obtain ⟨⟨u0, u1, u2, u3⟩, -⟩ := bx4 hx3
    have HX3 := Lib.hid hx2
    clear hx2 hx3 hb2 hq1 hbd
    cases hm : mayB (N0 : Int) p z with
    | false =>
      rw [hm] at HOF
      clear hm
      go_wp2_with fail
      have hrow := set4 HX3.out (.int .u32 0) (.int .i64 0) (.int .i64 0) (.int .i64 0)
      refine bodyPost_ret (results_cell_tmp_row rfl _ _ (w.heap.size + 1) _ _ (0, 0) _ rfl hrow Tryz.underlying35 rfl (by kernel_rfl)) rfl ?_
      exact ⟨0, 0, 0, 0, by rw [HOF.out]; rfl, (((HBZ.out.setCell (by simp) _).setCell (by simp) _).setCell (by simp) _).setCell (by simp) _, fun h => by rw [HOF.out] at h; cases h⟩
    | true =>
      rw [hm] at HOF
      clear hm
      go_wp2_with fail
      have hrow := set4 HX3.out (.int .u32 (s : Int)) (.int .i64 (N0 : Int)) (.int .i64 p) (.int .i64 z)
      refine bodyPost_ret (results_cell_tmp_row rfl _ _ (w.heap.size + 1) _ _ (0, 0) _ rfl hrow Tryz.underlying35 rfl (by kernel_rfl)) rfl ?_
      exact ⟨s, N0, p, z, by rw [HOF.out]; rfl, (((HBZ.out.setCell (by simp) _).setCell (by simp) _).setCell (by simp) _).setCell (by simp) _, fun _ => ⟨rfl, by rw [HK.out], rfl, rfl⟩⟩
  · go_simp
    have hS915 : (fun W => Below W0.heap.size W0 W) (wd.alloc (.cells #[.int .u32 0, .int .i64 0, .int .i64 0, .int .i64 0] 35)) := (hWD.alloc hWD.size _)
    refine hK.out _ _ hS915 (fun hH915 => ?_)
    clear hK K
    try simp only [Act.put, List.setIfInBounds_toArray, List.set_cons_zero, List.set_cons_succ]
    refine wpAnyH_ready (rs := [6]) (by kernel_rfl) (by simp) ?_
    refine AllReadyH.cons (o := _) rfl (fun K hK => ?_) AllReadyH.nil
    go_simp
    (with_reducible refine (count_eq l z N0 _ HK).mono ?_)
    rintro e' w' ⟨rfl, rfl⟩
    go_simp
    have hS916 : (fun W => Below W0.heap.size W0 W) (wd.alloc (.cells #[.int .u32 0, .int .i64 0, .int .i64 0, .int .i64 0] 35)) := hH915
    refine hK.out _ _ hS916 (fun hH916 => ?_)
    clear hK K
    try simp only [Act.put, List.setIfInBounds_toArray, List.set_cons_zero, List.set_cons_succ]
    refine wpAnyH_take (i := 11) (oi := _) (v := ?tkv917) rfl (by kernel_rfl) (by kernel_rfl) (by kernel_rfl) (fun _ _ _ h => h) (Or.inl ⟨by rfl, ?tky917⟩) hH916 ?tkr917
    case tky917 => (intro w' hSw; clear hSw; go_simp; try with_reducible rfl)
    try simp only [Act.put, List.setIfInBounds_toArray, List.set_cons_zero, List.set_cons_succ]
    refine wpAnyH_ready (rs := [13]) (by kernel_rfl) (by simp) ?_
    refine AllReadyH.cons (o := _) rfl (fun K hK => ?_) AllReadyH.nil
    go_simp
    have hS918 : (fun W => Below W0.heap.size W0 W) (wd.alloc (.cells #[.int .u32 (s : Int), .int .i64 (N0 : Int), .int .i64 p, .int .i64 z] 35)) := (hWD.alloc hWD.size _)
    refine hK.out _ _ hS918 (fun hH918 => ?_)
    clear hK K
    try simp only [Act.put, List.setIfInBounds_toArray, List.set_cons_zero, List.set_cons_succ]
    refine wpAnyH_done (by kernel_rfl) ?_ _
    refine NoPanic.normal ?_
    go_wp2_with fail
    refine (spMay_any s N0 p z _).mono ?_
    rintro e w2 ⟨rfl, hb2⟩
    have hq1 : w.heap.size + 1 < wd.heap.size := by have h1 := HSZ.out; have h2 := hWD.size; omega
    have hbd : Below w.heap.size w wd := HB0.out.trans (hWD.mono HB0.out.size)
    have hx2 : w2.heap[w.heap.size + 1]? = some (.cells #[.int .u32 0, .int .i64 0, .int .i64 0, .int .i64 0] 35 (0, 0)) := (hb2.block (w.heap.size + 1) (by simp; omega)).trans ((heap_alloc_old wd _ (by omega)).trans ((hWD.block (w.heap.size + 1) (by have := HSZ.out; omega)).trans HX2.out))
    have hx3 : w2.heap[wd.heap.size]? = some (.cells #[.int .u32 (s : Int), .int .i64 (N0 : Int), .int .i64 p, .int .i64 z] 35 (0, 0)) := (hb2.block wd.heap.size (by simp)).trans (heap_alloc_new wd _)
    have HBZ : Hid (Below w.heap.size w w2) := (hbd.alloc hbd.size _).trans (hb2.mono (by simp; have := hbd.size; omega))
    have HOF : Hid (ofB l z p = mayB (N0 : Int) p z) := by show _ = _; unfold ofB; rw [HK.out]
    obtain ⟨⟨y0, y1, y2, y3⟩, ⟨f0, f1, f2, f3⟩⟩ := bx4 hx2
    obtain ⟨⟨u0, u1, u2, u3⟩, -⟩ := bx4 hx3
    have HX3 := Lib.hid hx2
    clear hx2 hx3 hb2 hq1 hbd
    cases hm : mayB (N0 : Int) p z with
    | false =>
      rw [hm] at HOF
      clear hm
      go_wp2_with fail
      have hrow := set4 HX3.out (.int .u32 0) (.int .i64 0) (.int .i64 0) (.int .i64 0)
      refine bodyPost_ret (results_cell_tmp_row rfl _ _ (w.heap.size + 1) _ _ (0, 0) _ rfl hrow Tryz.underlying35 rfl (by kernel_rfl)) rfl ?_
      exact ⟨0, 0, 0, 0, by rw [HOF.out]; rfl, (((HBZ.out.setCell (by simp) _).setCell (by simp) _).setCell (by simp) _).setCell (by simp) _, fun h => by rw [HOF.out] at h; cases h⟩
    | true =>
      rw [hm] at HOF
      clear hm
      go_wp2_with fail
      have hrow := set4 HX3.out (.int .u32 (s : Int)) (.int .i64 (N0 : Int)) (.int .i64 p) (.int .i64 z)
      refine bodyPost_ret (results_cell_tmp_row rfl _ _ (w.heap.size + 1) _ _ (0, 0) _ rfl hrow Tryz.underlying35 rfl (by kernel_rfl)) rfl ?_
      exact ⟨s, N0, p, z, by rw [HOF.out]; rfl, (((HBZ.out.setCell (by simp) _).setCell (by simp) _).setCell (by simp) _).setCell (by simp) _, fun _ => ⟨rfl, by rw [HK.out], rfl, rfl⟩⟩
theorem of_any (s v : Nat) (l z p : Int) (A : Option Addr) (n c : Nat) (w : World) :
    Calls Tryz.prog 25 #[.agg #[.int .u32 (s : Int), .int .u32 (v : Int), .int .i64 l, .int .i64 z, .int .i64 p, .slice A n c]] w (OfOk l z p w) :=
  (of_all s v l z p A n c w).mono (by
    rintro e w' ⟨q, K, P, Z, h1, h2, _⟩
    exact ⟨q, K, P, Z, h1, h2⟩)
end Go.Proofs.YtidcnoejihjgjaaGreatDoor
namespace Go.Proofs.YtidcnoejihjgjaaGreatDoor
open Go.RowKit
def manB (l z p : Int) (n : Nat) : Bool := ofB l z p && decide (n = 32)
set_option maxRecDepth 100000 in
set_option maxHeartbeats 400000 in
theorem manMay_any (s v : Nat) (l z p : Int) (A : Option Addr) (n c : Nat) (w : World) :
    Calls Tryz.prog 24 #[.agg #[.int .u32 (s : Int), .int .u32 (v : Int), .int .i64 l, .int .i64 z, .int .i64 p, .slice A n c]] w fun e w' => e = .returned (.bool (manB l z p n)) ∧ Below w.heap.size w w' := by
  have hx := heap_alloc_new w (.cells #[.int .u32 (s : Int), .int .u32 (v : Int), .int .i64 l, .int .i64 z, .int .i64 p, .slice A n c] 32)
  have HX := Lib.hid hx
  clear hx
  have HB : Hid (manB l z p n = (ofB l z p && decide (n = 32))) := rfl
  go_enter Tryz.func24, Tryz.ntmps24
  go_wp2_with fail
  refine (of_any s v l z p A n c _).mono ?_
  rintro e w1 ⟨s', K', P', Z', rfl, hb1⟩
  have hb0 : Below w.heap.size w w1 := ((Below.refl _ _).alloc (Nat.le_refl _) _).trans (hb1.mono (by simp))
  obtain ⟨-, -, -, -, -, y5⟩ := bx6 ((hb1.block w.heap.size (by simp)).trans HX.out)
  have hlt : w.heap.size < w1.heap.size := by have := hb1.size; simp at this; omega
  have HB0 := Lib.hid hb0
  clear hb1 hb0
  cases ho : ofB l z p with
  | false =>
    rw [ho] at HB
    clear ho
    go_wp2_with fail
    go_ret
    refine ⟨by rw [HB.out]; rfl, ?_⟩
    have := HB0.out.size
    exact ((((HB0.out.alloc HB0.out.size _)))) 
  | true =>
    rw [ho] at HB
    clear ho
    by_cases h32 : n = 32
    · have hn : ((n : Int) == 32) = true := by simp; omega
      have HB2 : Hid (manB l z p n = true) := by show _ = _; rw [HB.out]; simp [h32]
      clear h32
      go_wp2_with fail
      go_ret
      exact ⟨by rw [HB2.out]; rfl, HB0.out.alloc HB0.out.size _⟩
    · have hn : ((n : Int) == 32) = false := by simp; omega
      have HB2 : Hid (manB l z p n = false) := by show _ = _; rw [HB.out]; simp [h32]
      clear h32
      go_wp2_with fail
      go_ret
      exact ⟨by rw [HB2.out]; rfl, HB0.out.alloc HB0.out.size _⟩
def filledB (l : Int) (n : Nat) : Bool := decide (n = 32) && (decide (1 ≤ l) && decide (l ≤ 512))
end Go.Proofs.YtidcnoejihjgjaaGreatDoor
namespace Go.Proofs.YtidcnoejihjgjaaGreatDoor
open Go.RowKit
def emptyB (v : Nat) (l : Int) (h : List UInt8) : Bool := decide (v = 0 ∧ l = 0 ∧ h = [])
def mayB2 (act trial : Int) (v0 : Nat) (l0 : Int) (h0 : List UInt8) (v1 : Nat) (l1 : Int) (h1 : List UInt8) (on : Bool) (s v : Nat) (l z p : Int) (h : List UInt8) : Bool :=
  decide (act = 0 ∨ act = 1) && (decide (0 ≤ trial) && decide (trial ≤ 3)) && (if on then manB l z p h.length else decide (s = 0 ∧ v = 0 ∧ l = 0 ∧ z = 0 ∧ p = 0 ∧ h = [])) &&
    (if act = 0 then filledB l0 h0.length && (filledB l1 h1.length || (decide (trial = 0) && emptyB v1 l1 h1)) else filledB l1 h1.length && (filledB l0 h0.length || (decide (trial = 0) && emptyB v0 l0 h0)))
end Go.Proofs.YtidcnoejihjgjaaGreatDoor
namespace Go.Proofs.YtidcnoejihjgjaaGreatDoor
open Go.RowKit
def RowX (w : World) (g : Nat) (f : Bool) (A : Option Addr) (n : Nat) (xs : List Value) : Prop :=
  xs.length = n ∧ (0 < n → ∃ b o, A = some ⟨b, o, none⟩ ∧ b < w.heap.size ∧ b ≠ g ∧ b ≠ g + 1 ∧ (f = true → g + 1 < b) ∧ ∀ j v, xs[j]? = some v → w.cell? ⟨b, o + j, none⟩ = some v)
def RowF (w : World) (B : Nat) (A : Option Addr) (n : Nat) (xs : List Value) : Prop :=
  xs.length = n ∧ (0 < n → ∃ b o, A = some ⟨b, o, none⟩ ∧ b < w.heap.size ∧ B ≤ b ∧ ∀ j v, xs[j]? = some v → w.cell? ⟨b, o + j, none⟩ = some v)
section
variable {w w' : World} {g n B : Nat} {f : Bool} {A : Option Addr} {xs : List Value}
theorem RowF.row (h : RowF w B A n xs) : Row w w.heap.size A n xs :=
  ⟨h.1, fun hn => by obtain ⟨b, o, e, hb, _, hc⟩ := h.2 hn; exact ⟨b, o, e, hb, hc⟩⟩
theorem RowF.keep (h : RowF w B A n xs) (hs : w.heap.size ≤ w'.heap.size) (hk : ∀ b, B ≤ b → b < w.heap.size → w'.heap[b]? = w.heap[b]?) : RowF w' B A n xs :=
  ⟨h.1, fun hn => by
    obtain ⟨b, o, e, hlt, h1, hc⟩ := h.2 hn
    exact ⟨b, o, e, Nat.lt_of_lt_of_le hlt hs, h1, fun j v hv => (World.cell?_of_block (a := ⟨b, o + j, none⟩) (hk b h1 hlt)).trans (hc j v hv)⟩⟩
theorem RowX.row (h : RowX w g f A n xs) : Row w w.heap.size A n xs :=
  ⟨h.1, fun hn => by obtain ⟨b, o, e, hb, _, _, _, hc⟩ := h.2 hn; exact ⟨b, o, e, hb, hc⟩⟩
theorem RowX.of_row {B : Nat} (h : Row w B A n xs) (hB : B ≤ g) (hs : B ≤ w.heap.size) : RowX w g false A n xs :=
  ⟨h.1, fun hn => by obtain ⟨b, o, e, hb, hc⟩ := h.2 hn; exact ⟨b, o, e, by omega, by omega, by omega, by simp, hc⟩⟩
theorem RowX.of_own {base c : Nat} {e : TypeId} (h : w.ownsRow base e 1 (.slice A n c) n xs) (hb : g + 1 < base) : RowX w g f A n xs := by
  refine ⟨(Row.of_own h).1, fun hn => ?_⟩
  obtain ⟨b, o, ee, hlt, hc⟩ := (Row.of_own h).2 hn
  have := (h.lt b (by rw [ee]; rfl)).1
  exact ⟨b, o, ee, hlt, by omega, by omega, fun _ => by omega, hc⟩
theorem RowX.below (h : RowX w g f A n xs) (hb : Below w.heap.size w w') : RowX w' g f A n xs :=
  ⟨h.1, fun hn => by
    obtain ⟨b, o, e, hlt, h1, h2, h3, hc⟩ := h.2 hn
    exact ⟨b, o, e, Nat.lt_of_lt_of_le hlt hb.size, h1, h2, h3, fun j v hv => (hb.cell (p := ⟨b, o + j, none⟩) hlt).trans (hc j v hv)⟩⟩
theorem RowX.keep (h : RowX w g f A n xs) (hs : w.heap.size ≤ w'.heap.size) (hk : ∀ b, b ≠ g → b ≠ g + 1 → w'.heap[b]? = w.heap[b]?) : RowX w' g f A n xs :=
  ⟨h.1, fun hn => by
    obtain ⟨b, o, e, hlt, h1, h2, h3, hc⟩ := h.2 hn
    exact ⟨b, o, e, Nat.lt_of_lt_of_le hlt hs, h1, h2, h3, fun j v hv => (World.cell?_of_block (a := ⟨b, o + j, none⟩) (hk b h1 h2)).trans (hc j v hv)⟩⟩
end
end Go.Proofs.YtidcnoejihjgjaaGreatDoor
namespace Go.Proofs.YtidcnoejihjgjaaGreatDoor
open Go.RowKit
def AddOk (base n : Nat) (l : List UInt8) (w : World) (e : Ending) (w' : World) : Prop :=
  ∃ A c, e = .returned (.slice A n c) ∧ Hid (w'.ownsRow base 5 1 (.slice A n c) n (bv l)) ∧ Hid (∀ w0, Below base w0 w → Below base w0 w')
set_option maxRecDepth 100000 in
set_option maxHeartbeats 400000 in
theorem manAdd_any (base n c : Nat) (A : Option Addr) (l : List UInt8) (x : Nat) (hx : x < 4294967296) (w : World) (hown : w.ownsRow base 5 1 (.slice A n c) n (bv l)) (hb : base ≤ w.heap.size) (hn : n ≤ 1000000000) :
    Calls Tryz.prog 92 #[.slice A n c, .int .u32 (x : Int)] w (AddOk base (n + 4) (l ++ CrcM.four x) w) := by
  obtain ⟨i0, hi, hz0, hz1, hz2⟩ := info_parts Tryz.info5
  have HO := Lib.hid hown
  have HB := Lib.hid hb
  clear hown hb
  go_enter Tryz.func92, Tryz.ntmps92
  go_wp2_with (at_builtin; go_loud (refine wpList_app rfl (.tmp 5) (.tmp 17) 22 rfl base 5 i0 (.int .u8 0) 1 Tryz.underlying22 hi hz0 hz1 hz2 rfl _ n (bv l) rfl (HO.out.alloc _) _ _ 4 4 _ rfl (row_new w _ _ _) (by intro u hu; simp at hu; rcases hu with rfl | rfl | rfl | rfl <;> rfl) (by unfold maxLen; omega) (by omega) (by have := HB.out; simp; omega) ?_; intro v3 w3 hown3 hg3 hat3))
  go_ret
  obtain ⟨A3, c3, rfl, _⟩ := own_slice hown3
  have ev := four_cells x (by omega)
  refine ⟨A3, c3, rfl, ?_, fun w0 h0 => below_app (h0.alloc HB.out _) (by simp; have := HB.out; omega) (HO.out.alloc _) (Nat.le_refl _) hg3⟩
  show World.ownsRow _ _ _ _ _ _ _
  rw [bv_append, ← ev]
  exact hown3
end Go.Proofs.YtidcnoejihjgjaaGreatDoor
namespace Go.Proofs.YtidcnoejihjgjaaGreatDoor
open Go.RowKit
theorem man_bounds {l z p : Int} {n : Nat} (h : manB l z p n = true) : ∃ L Z P : Nat, l = L ∧ z = Z ∧ p = P ∧ 1 ≤ L ∧ L ≤ 512 ∧ 1 ≤ Z ∧ Z ≤ 16 ∧ P ≤ 16 ∧ n = 32 := by
  simp only [manB, ofB, mayB, Bool.and_eq_true, decide_eq_true_eq] at h
  obtain ⟨⟨⟨⟨h1, h2⟩, h3, h4⟩, h5, h6⟩, h7⟩ := h
  unfold BlkM.count at h1 h2
  split at h1
  · omega
  · next h9 =>
    split at h1
    · omega
    · exact ⟨l.toNat, z.toNat, p.toNat, by omega, by omega, by omega, by omega, by omega, by omega, by omega, by omega, h7⟩
def plainB (s v L Z P : Nat) (h : List UInt8) : List UInt8 := CrcM.four s ++ CrcM.four v ++ [UInt8.ofNat (L / 256), UInt8.ofNat L, UInt8.ofNat Z, UInt8.ofNat P] ++ h
def PlainOk (l : List UInt8) (w : World) (e : Ending) (w' : World) : Prop :=
  ∃ A c, e = .returned (.tuple #[.slice A 44 c, .int .i64 0]) ∧ Hid (w'.ownsRow w.heap.size 5 1 (.slice A 44 c) 44 (bv l)) ∧ Hid (Below w.heap.size w w')
set_option maxRecDepth 100000 in
set_option maxHeartbeats 800000 in
theorem plain_yes (s v L Z P : Nat) (A : Option Addr) (c B : Nat) (h : List UInt8) (w : World) (hs : s < 4294967296) (hv : v < 4294967296) (hL : L ≤ 512) (hZ : Z ≤ 16) (hP : P ≤ 16) (hm : manB L Z P 32 = true) (hl : Row w B A 32 (bv h)) (hB : B ≤ w.heap.size) :
    Calls Tryz.prog 71 #[.agg #[.int .u32 (s : Int), .int .u32 (v : Int), .int .i64 (L : Int), .int .i64 (Z : Int), .int .i64 (P : Int), .slice A 32 c]] w (PlainOk (plainB s v L Z P h) w) := by
  obtain ⟨i0, hi, hz0, hz1, hz2⟩ := info_parts Tryz.info5
  have HM := Lib.hid hm
  have HL := Lib.hid hl
  have HBB := Lib.hid hB
  have HX := Lib.hid (heap_alloc_new w (.cells #[.int .u32 (s : Int), .int .u32 (v : Int), .int .i64 (L : Int), .int .i64 (Z : Int), .int .i64 (P : Int), .slice A 32 c] 32))
  clear hm hl hB
  go_enter Tryz.func71, Tryz.ntmps71
  go_wp2_with fail
  refine (manMay_any s v L Z P A 32 c _).mono ?_
  rintro e w1 ⟨rfl, hb1⟩
  rw [HM.out]
  have HB : Hid (Below w.heap.size w w1) := ((Below.refl _ _).alloc (Nat.le_refl _) _).trans (hb1.mono (by simp))
  have HX1 := Lib.hid ((hb1.block w.heap.size (by simp)).trans HX.out)
  have hlt : w.heap.size < w1.heap.size := by have := hb1.size; simp at this; omega
  clear hb1 HX
  have HBX : Hid (∀ W, Below w1.heap.size w1 W → W.cell? ⟨w.heap.size, 0, none⟩ = some (.int .u32 (s : Int)) ∧ W.cell? ⟨w.heap.size, 1, none⟩ = some (.int .u32 (v : Int)) ∧ W.cell? ⟨w.heap.size, 2, none⟩ = some (.int .i64 (L : Int)) ∧ W.cell? ⟨w.heap.size, 3, none⟩ = some (.int .i64 (Z : Int)) ∧ W.cell? ⟨w.heap.size, 4, none⟩ = some (.int .i64 (P : Int)) ∧ W.cell? ⟨w.heap.size, 5, none⟩ = some (.slice A 32 c)) := by
    intro W hW
    exact bx6 ((hW.block w.heap.size hlt).trans HX1.out)
  have HLW : Hid (∀ W, Below w1.heap.size w1 W → Row W B A 32 (bv h)) := fun W hW => HL.out.below ((HB.out.trans (hW.mono HB.out.size)).mono HBB.out)
  clear HX1 HL
  go_wp2_with (at_make; refine wpList_make_own _ rfl _ _ 22 rfl w1.heap.size 5 i0 (.int .u8 0) 1 Tryz.underlying22 hi hz0 hz1 .i64 .i64 44 44 rfl rfl rfl (by rw [hz2]; omega) (by unfold maxLen; omega) (Nat.le_refl _) ?_; intro w2 hown2 hg2; have HW2 := Lib.hid ((Below.refl w1.heap.size w1).grown hg2 (Nat.le_refl _) (by intro g h; cases h)); have HO2 := Lib.hid hown2; obtain ⟨a0, a1, a2, a3, a4, a5⟩ := HBX.out _ HW2.out; clear hown2 hg2)
  clear a0 a1 a2 a3 a4 a5
  refine (manAdd_any w1.heap.size 0 44 _ [] s hs w2 HO2.out HW2.out.size (by omega)).mono ?_
  rintro e w3 ⟨A3, c3, rfl, O3, hb3⟩
  have HW3 := Lib.hid (hb3.out _ HW2.out)
  obtain ⟨a0, a1, a2, a3, a4, a5⟩ := HBX.out _ HW3.out
  clear hb3 HO2 HW2
  go_wp2_with fail
  clear a0 a1 a2 a3 a4 a5
  refine (manAdd_any w1.heap.size 4 c3 A3 _ v hv w3 O3.out HW3.out.size (by omega)).mono ?_
  rintro e w4 ⟨A4, c4, rfl, O4, hb4⟩
  have HW4 := Lib.hid (hb4.out _ HW3.out)
  obtain ⟨a0, a1, a2, a3, a4, a5⟩ := HBX.out _ HW4.out
  clear hb4 O3 HW3
  go_wp2_with (first
    | (at_builtin; go_loud (refine wpList_app rfl (.tmp 17) (.tmp 31) 22 rfl w1.heap.size 5 i0 (.int .u8 0) 1 Tryz.underlying22 hi hz0 hz1 hz2 rfl _ 8 (bv _) rfl (O4.out.alloc _) _ _ 4 4 _ rfl (row_new w4 _ _ _) (by intro u hu; simp at hu; rcases hu with rfl | rfl | rfl | rfl <;> rfl) (by unfold maxLen; omega) (by omega) (by have := HW4.out.size; simp; omega) ?_; intro v5 w5 hown5 hg5 hat5; have O5 := Lib.hid hown5; have HW5 := Lib.hid (below_app (HW4.out.alloc HW4.out.size _) (by simp; have := HW4.out.size; omega) (O4.out.alloc _) (Nat.le_refl _) hg5); obtain ⟨A5, c5, rfl, _⟩ := own_slice hown5; clear hown5 hg5 hat5; obtain ⟨b0, b1, b2, b3, b4, b5⟩ := HBX.out _ HW5.out))
    | (at_builtin; refine wpList_app rfl (.tmp 33) (.tmp 35) 22 rfl w1.heap.size 5 i0 (.int .u8 0) 1 Tryz.underlying22 hi hz0 hz1 hz2 rfl _ 12 _ rfl O5.out B A 32 c (bv h) rfl (HLW.out _ HW5.out) (bv_one _) (by unfold maxLen; omega) (by omega) HW5.out.size ?_; intro v6 w6 hown6 hg6 hat6; obtain ⟨A6, c6, rfl, _⟩ := own_slice hown6; have O6 := Lib.hid hown6; have HW6 := Lib.hid (below_app HW5.out HW5.out.size O5.out (Nat.le_refl _) hg6); clear hown6 hg6 hat6))
  go_ret2
  refine ⟨A6, c6, rfl, ?_, HB.out.trans (HW6.out.mono HB.out.size)⟩
  have O7 := own_base O6.out HB.out.size
  have e4 : bv [UInt8.ofNat (L / 256), UInt8.ofNat L, UInt8.ofNat Z, UInt8.ofNat P] = [Value.int IntKind.u8 ((L : Int) / 256), Value.int IntKind.u8 ((L : Int) % 256), Value.int IntKind.u8 (Z : Int), Value.int IntKind.u8 (P : Int)] := by
    simp [bv]
    omega
  show World.ownsRow _ _ _ _ _ _ _
  unfold plainB
  rw [bv_append, bv_append, e4]
  exact O7
end Go.Proofs.YtidcnoejihjgjaaGreatDoor
namespace Go.Proofs.YtidcnoejihjgjaaGreatDoor
open Go.RowKit
structure LMan where
  s : Nat
  v : Nat
  l : Int
  z : Int
  p : Int
  h : List UInt8
structure LSt where
  act : Int
  trial : Int
  flo : Nat
  gen : Nat
  v0 : Nat
  l0 : Int
  h0 : List UInt8
  v1 : Nat
  l1 : Int
  h1 : List UInt8
  on : Bool
  m : LMan
def LMan.cells (M : LMan) (A : Option Addr) (c : Nat) : Array Value := #[.int .u32 (M.s : Int), .int .u32 (M.v : Int), .int .i64 M.l, .int .i64 M.z, .int .i64 M.p, .slice A M.h.length c]
def LSt.cells (L : LSt) (A0 : Option Addr) (c0 : Nat) (A1 : Option Addr) (c1 : Nat) (A : Option Addr) (c : Nat) : Array Value :=
  #[.int .i64 L.act, .int .i64 L.trial, .int .u32 (L.flo : Int), .int .u32 (L.gen : Int), .int .u32 (L.v0 : Int), .int .i64 L.l0, .slice A0 L.h0.length c0, .int .u32 (L.v1 : Int), .int .i64 L.l1, .slice A1 L.h1.length c1, .bool L.on, .int .u32 (L.m.s : Int), .int .u32 (L.m.v : Int), .int .i64 L.m.l, .int .i64 L.m.z, .int .i64 L.m.p, .slice A L.m.h.length c]
def RowP (w : World) (P : Nat → Prop) (A : Option Addr) (n : Nat) (xs : List Value) : Prop :=
  xs.length = n ∧ (0 < n → ∃ b o, A = some ⟨b, o, none⟩ ∧ b < w.heap.size ∧ P b ∧ ∀ j v, xs[j]? = some v → w.cell? ⟨b, o + j, none⟩ = some v)
section
variable {w w' : World} {P P' : Nat → Prop} {n : Nat} {A : Option Addr} {xs : List Value}
theorem RowP.keep (h : RowP w P A n xs) (hs : w.heap.size ≤ w'.heap.size) (hk : ∀ b, P b → b < w.heap.size → w'.heap[b]? = w.heap[b]?) : RowP w' P A n xs :=
  ⟨h.1, fun hn => by
    obtain ⟨b, o, e, hlt, h1, hc⟩ := h.2 hn
    exact ⟨b, o, e, Nat.lt_of_lt_of_le hlt hs, h1, fun j v hv => (World.cell?_of_block (a := ⟨b, o + j, none⟩) (hk b h1 hlt)).trans (hc j v hv)⟩⟩
theorem RowP.below (h : RowP w P A n xs) (hb : Below w.heap.size w w') : RowP w' P A n xs := h.keep hb.size fun b _ hb2 => hb.block b hb2
theorem RowP.imp (h : RowP w P A n xs) (hp : ∀ b, b < w.heap.size → P b → P' b) : RowP w P' A n xs :=
  ⟨h.1, fun hn => by obtain ⟨b, o, e, hb, h1, hc⟩ := h.2 hn; exact ⟨b, o, e, hb, hp b hb h1, hc⟩⟩
theorem RowP.row (h : RowP w P A n xs) : Row w w.heap.size A n xs :=
  ⟨h.1, fun hn => by obtain ⟨b, o, e, hb, _, hc⟩ := h.2 hn; exact ⟨b, o, e, hb, hc⟩⟩
theorem RowP.of_row (h : Row w w.heap.size A n xs) : RowP w (fun _ => True) A n xs :=
  ⟨h.1, fun hn => by obtain ⟨b, o, e, hb, hc⟩ := h.2 hn; exact ⟨b, o, e, hb, trivial, hc⟩⟩
theorem RowP.nil (w : World) (P : Nat → Prop) (A : Option Addr) : RowP w P A 0 (bv []) := ⟨rfl, fun h => absurd h (Nat.lt_irrefl _)⟩
end
def IsMan (w : World) (P : Nat → Prop) (cs : Array Value) (M : LMan) : Prop := ∃ A c, cs = M.cells A c ∧ RowP w P A M.h.length (bv M.h)
def IsSt (w : World) (P : Nat → Prop) (cs : Array Value) (L : LSt) : Prop :=
  ∃ A0 c0 A1 c1 A c, cs = L.cells A0 c0 A1 c1 A c ∧ RowP w P A0 L.h0.length (bv L.h0) ∧ RowP w P A1 L.h1.length (bv L.h1) ∧ RowP w P A L.m.h.length (bv L.m.h)
section
variable {w w' : World} {P P' : Nat → Prop} {cs : Array Value} {L : LSt} {M : LMan}
theorem IsMan.below (h : IsMan w P cs M) (hb : Below w.heap.size w w') : IsMan w' P cs M := by
  obtain ⟨A, c, e, r⟩ := h; exact ⟨A, c, e, r.below hb⟩
theorem IsMan.imp (h : IsMan w P cs M) (hp : ∀ b, b < w.heap.size → P b → P' b) : IsMan w P' cs M := by
  obtain ⟨A, c, e, r⟩ := h; exact ⟨A, c, e, r.imp hp⟩
theorem IsMan.keep (h : IsMan w P cs M) (hs : w.heap.size ≤ w'.heap.size) (hk : ∀ b, P b → b < w.heap.size → w'.heap[b]? = w.heap[b]?) : IsMan w' P cs M := by
  obtain ⟨A, c, e, r⟩ := h; exact ⟨A, c, e, r.keep hs hk⟩
theorem IsSt.below (h : IsSt w P cs L) (hb : Below w.heap.size w w') : IsSt w' P cs L := by
  obtain ⟨A0, c0, A1, c1, A, c, e, r0, r1, r2⟩ := h; exact ⟨A0, c0, A1, c1, A, c, e, r0.below hb, r1.below hb, r2.below hb⟩
theorem IsSt.imp (h : IsSt w P cs L) (hp : ∀ b, b < w.heap.size → P b → P' b) : IsSt w P' cs L := by
  obtain ⟨A0, c0, A1, c1, A, c, e, r0, r1, r2⟩ := h; exact ⟨A0, c0, A1, c1, A, c, e, r0.imp hp, r1.imp hp, r2.imp hp⟩
theorem IsSt.keep (h : IsSt w P cs L) (hs : w.heap.size ≤ w'.heap.size) (hk : ∀ b, P b → b < w.heap.size → w'.heap[b]? = w.heap[b]?) : IsSt w' P cs L := by
  obtain ⟨A0, c0, A1, c1, A, c, e, r0, r1, r2⟩ := h; exact ⟨A0, c0, A1, c1, A, c, e, r0.keep hs hk, r1.keep hs hk, r2.keep hs hk⟩
theorem IsSt.size (h : IsSt w P cs L) : cs.size = 17 := by obtain ⟨A0, c0, A1, c1, A, c, rfl, _⟩ := h; rfl
theorem IsMan.size (h : IsMan w P cs M) : cs.size = 6 := by obtain ⟨A, c, rfl, _⟩ := h; rfl
theorem IsSt.one (h : IsSt w P cs L) : cs.all (·.oneCell') = true := by obtain ⟨A0, c0, A1, c1, A, c, rfl, _⟩ := h; simp [LSt.cells, Value.oneCell']
theorem IsMan.one (h : IsMan w P cs M) : cs.all (·.oneCell') = true := by obtain ⟨A, c, rfl, _⟩ := h; simp [LMan.cells, Value.oneCell']
theorem IsMan.inf (h : IsMan w P cs M) : (Tryz.prog.info? 32).map (·.size) = some cs.size := by rw [h.size]; kernel_rfl
theorem IsSt.c0 (h : IsSt w P cs L) : cs[0]? = some (.int .i64 L.act) := by obtain ⟨A0, c0, A1, c1, A, c, rfl, _⟩ := h; rfl
theorem IsSt.c1 (h : IsSt w P cs L) : cs[1]? = some (.int .i64 L.trial) := by obtain ⟨A0, c0, A1, c1, A, c, rfl, _⟩ := h; rfl
theorem IsSt.c2 (h : IsSt w P cs L) : cs[2]? = some (.int .u32 (L.flo : Int)) := by obtain ⟨A0, c0, A1, c1, A, c, rfl, _⟩ := h; rfl
theorem IsSt.c3 (h : IsSt w P cs L) : cs[3]? = some (.int .u32 (L.gen : Int)) := by obtain ⟨A0, c0, A1, c1, A, c, rfl, _⟩ := h; rfl
theorem IsSt.c4 (h : IsSt w P cs L) : cs[4]? = some (.int .u32 (L.v0 : Int)) := by obtain ⟨A0, c0, A1, c1, A, c, rfl, _⟩ := h; rfl
theorem IsSt.c5 (h : IsSt w P cs L) : cs[5]? = some (.int .i64 L.l0) := by obtain ⟨A0, c0, A1, c1, A, c, rfl, _⟩ := h; rfl
theorem IsSt.c7 (h : IsSt w P cs L) : cs[7]? = some (.int .u32 (L.v1 : Int)) := by obtain ⟨A0, c0, A1, c1, A, c, rfl, _⟩ := h; rfl
theorem IsSt.c8 (h : IsSt w P cs L) : cs[8]? = some (.int .i64 L.l1) := by obtain ⟨A0, c0, A1, c1, A, c, rfl, _⟩ := h; rfl
theorem IsSt.c10 (h : IsSt w P cs L) : cs[10]? = some (.bool L.on) := by obtain ⟨A0, c0, A1, c1, A, c, rfl, _⟩ := h; rfl
end
def LMan.zero : LMan := ⟨0, 0, 0, 0, 0, []⟩
def LSt.zero : LSt := ⟨0, 0, 0, 0, 0, 0, [], 0, 0, [], false, LMan.zero⟩
def LMan.may (M : LMan) : Bool := manB M.l M.z M.p M.h.length
def LSt.may (L : LSt) : Bool := mayB2 L.act L.trial L.v0 L.l0 L.h0 L.v1 L.l1 L.h1 L.on L.m.s L.m.v L.m.l L.m.z L.m.p L.m.h
def LSt.drop (L : LSt) : LSt := if L.may then { L with on := false, m := LMan.zero } else LSt.zero
section
variable {w : World} {P : Nat → Prop} {cs : Array Value} {L : LSt}
end
structure Env (w W : World) (bx : List (Nat × Array Value × TypeId)) (sts : List (Array Value × LSt)) (mans : List (Array Value × LMan)) : Prop where
  b : Below w.heap.size w W
  bx : ∀ g cs t, (g, cs, t) ∈ bx → W.heap[g]? = some (.cells cs t (0, 0))
  st : ∀ cs L, (cs, L) ∈ sts → IsSt W (fun _ => True) cs L
  mn : ∀ cs M, (cs, M) ∈ mans → IsMan W (fun _ => True) cs M
section
variable {w W W' : World} {bx : List (Nat × Array Value × TypeId)} {sts : List (Array Value × LSt)} {mans : List (Array Value × LMan)}
theorem Env.below (h : Env w W bx sts mans) (hb : Below W.heap.size W W') : Env w W' bx sts mans :=
  ⟨h.b.trans (hb.mono h.b.size), fun g cs t hm => (hb.block g (Array.getElem?_eq_some_iff.1 (h.bx g cs t hm)).1).trans (h.bx g cs t hm), fun cs L hm => (h.st cs L hm).below hb, fun cs M hm => (h.mn cs M hm).below hb⟩
theorem Env.addBx (h : Env w W bx sts mans) {g : Nat} {cs : Array Value} {t : TypeId} (hs : W.heap[g]? = some (.cells cs t (0, 0))) : Env w W ((g, cs, t) :: bx) sts mans :=
  ⟨h.b, fun g' cs' t' hm => by
    rcases List.mem_cons.1 hm with e | e
    · injection e with e1 e2; injection e2 with e2 e3; subst e1 e2 e3; exact hs
    · exact h.bx _ _ _ e, h.st, h.mn⟩
theorem Env.alloc (h : Env w W bx sts mans) (cs : Array Value) (t : TypeId) : Env w (W.alloc (.cells cs t)) ((W.heap.size, cs, t) :: bx) sts mans :=
  (h.below ((Below.refl _ _).alloc (Nat.le_refl _) _)).addBx (heap_alloc_new W (.cells cs t))
theorem Env.start (w : World) : Env w w [] [] [] :=
  ⟨Below.refl _ _, fun _ _ _ h => (by cases h), fun _ _ h => (by cases h), fun _ _ h => (by cases h)⟩
theorem Env.cell (h : Env w W bx sts mans) {g : Nat} {cs : Array Value} {t : TypeId} (hm : (g, cs, t) ∈ bx) (k : Nat) : W.cell? ⟨g, k, none⟩ = cs[k]? :=
  cell_of_row W g k cs t (0, 0) (h.bx g cs t hm)
end
end Go.Proofs.YtidcnoejihjgjaaGreatDoor
