/- spread.May, code.Of, manifest.May, Same: by contracts. -/
import Derived.Laws.ResultCell
import Derived.Laws.Rows
import Derived.Deep.RegionWith
import Derived.BigQuiet
import Derived.Deep.QuietTactic
import Derived.StillTailTactics
import Derived.Deep.WholeRow
import Derived.Test.YtmncpgfdpcckpaaGreatDoorZAQN
set_option maxRecDepth 100000
namespace Go.Proofs.YtmncpgfdpcckpaaGreatDoor
open Go.RowKit
theorem within_any (x a b : Int) (w : World) : Calls Tryz.prog 99 #[.int .i64 x, .int .i64 a, .int .i64 b] w fun e w' => e = .returned (.bool (decide (a ≤ x) && decide (x ≤ b))) ∧ w = w' := by
 go_enter Tryz.func99, Tryz.ntmps99
 go_wp2
 all_goals (go_ret; exact ⟨by simp; intros; omega, rfl⟩)
def mayB (K P Z : Int) : Bool := (decide (1 ≤ K) && decide (K ≤ 64)) && (decide (0 ≤ P) && decide (P ≤ 16)) && (decide (1 ≤ Z) && decide (Z ≤ 16))
set_option maxHeartbeats 400000 in
theorem spMay_any (s K P Z : Int) (w : World) : Calls Tryz.prog 67 #[.agg #[.int .u32 s, .int .i64 K, .int .i64 P, .int .i64 Z]] w fun e w' => e = .returned (.bool (mayB K P Z)) ∧ Below w.heap.size w w' := by
 go_enter Tryz.func67, Tryz.ntmps67
 go_wp2_with (go_at_call 99; refine (within_any _ _ _ _).mono ?_; rintro e w' ⟨rfl, rfl⟩)
 all_goals (go_ret; exact ⟨by simp [mayB, *], (Below.refl _ _).alloc (Nat.le_refl _) _⟩)
theorem results_cell_tmp_row {P : Program} {fn : Func} {p u : Tmp} {ty : TypeId} (h : fn.results = #[.cell p ty, .tmp u]) (tmps : Array Value) (w : World) (g : Nat) (t : TypeId) (cs : Array Value) (fr : Nat × Nat) (d : TypeDesc)
  (hp : tmps.getD p undef = .pointer (some ⟨g, 0, none⟩)) (hg : w.heap[g]? = some (.cells cs t fr))
  (hu : P.underlying ty = some d) (hd : (match d with | .struct _ | .array _ _ => true | _ => false) = true) (hi : (P.info? ty).map (·.size) = some cs.size) :
  (results fn tmps).run P w = .ok (.tuple #[.agg cs, tmps.getD u undef]) w := by
 rw [results_cell_tmp h, hp]
 simp [asAddr, run_loadVar_row w g t ty cs fr d hg hu hd hi]
theorem set4 {w : World} {g : Nat} {t : TypeId} {z0 z1 z2 z3 : Value} (h : w.heap[g]? = some (.cells #[z0, z1, z2, z3] t (0, 0))) (v0 v1 v2 v3 : Value) :
  ((((w.setCell ⟨g, 0, none⟩ v0).setCell ⟨g, 1, none⟩ v1).setCell ⟨g, 2, none⟩ v2).setCell ⟨g, 3, none⟩ v3).heap[g]? = some (.cells #[v0, v1, v2, v3] t (0, 0)) := by
 have h0 : (w.setCell ⟨g, 0, none⟩ v0).heap[g]? = some (.cells #[v0, z1, z2, z3] t (0, 0)) := heap_setCell_same _ g 0 _ t v0 h
 have h1 : ((w.setCell ⟨g, 0, none⟩ v0).setCell ⟨g, 1, none⟩ v1).heap[g]? = some (.cells #[v0, v1, z2, z3] t (0, 0)) := heap_setCell_same _ g 1 _ t v1 h0
 have h2 : (((w.setCell ⟨g, 0, none⟩ v0).setCell ⟨g, 1, none⟩ v1).setCell ⟨g, 2, none⟩ v2).heap[g]? = some (.cells #[v0, v1, v2, z3] t (0, 0)) := heap_setCell_same _ g 2 _ t v2 h1
 exact heap_setCell_same _ g 3 _ t v3 h2
def ofB (l z p : Int) : Bool := mayB (BlkM.count l z : Nat) p z
theorem bx6 {w : World} {g : Nat} {a b c d e f : Value} {t : TypeId} (h : w.heap[g]? = some (.cells #[a, b, c, d, e, f] t (0, 0))) : w.cell? ⟨g, 0, none⟩ = some a ∧ w.cell? ⟨g, 1, none⟩ = some b ∧ w.cell? ⟨g, 2, none⟩ = some c ∧ w.cell? ⟨g, 3, none⟩ = some d ∧ w.cell? ⟨g, 4, none⟩ = some e ∧ w.cell? ⟨g, 5, none⟩ = some f := by
 refine ⟨?_, ?_, ?_, ?_, ?_, ?_⟩ <;> rw [cell_of_row w g _ _ t (0, 0) h] <;> rfl
theorem bx4 {w : World} {g : Nat} {x y z u : Value} {t : TypeId} (h : w.heap[g]? = some (.cells #[x, y, z, u] t (0, 0))) : (w.cell? ⟨g, 0, none⟩ = some x ∧ w.cell? ⟨g, 1, none⟩ = some y ∧ w.cell? ⟨g, 2, none⟩ = some z ∧ w.cell? ⟨g, 3, none⟩ = some u) ∧ (w.frozen? ⟨g, 0, none⟩ = false ∧ w.frozen? ⟨g, 1, none⟩ = false ∧ w.frozen? ⟨g, 2, none⟩ = false ∧ w.frozen? ⟨g, 3, none⟩ = false) := by
 refine ⟨⟨?_, ?_, ?_, ?_⟩, frozen_of_row w g 0 _ _ h, frozen_of_row w g 1 _ _ h, frozen_of_row w g 2 _ _ h, frozen_of_row w g 3 _ _ h⟩ <;> rw [cell_of_row w g _ _ t (0, 0) h] <;> rfl
theorem count_eq (a b : Int) (K : Nat) (w : World) (h : Hid (BlkM.count a b = K)) : Calls Tryz.prog 66 #[.int .i64 a, .int .i64 b] w fun e w' => e = .returned (.int .i64 (K : Int)) ∧ w = w' := by
 rw [← h.out]; exact count_any a b w
def OfOk (l z p : Int) (w : World) (e : Ending) (w' : World) : Prop := ∃ s K P Z : Int, e = .returned (.tuple #[.agg #[.int .u32 s, .int .i64 K, .int .i64 P, .int .i64 Z], .bool (ofB l z p)]) ∧ Below w.heap.size w w'
def OfAll (sv : Nat) (l z p : Int) (w : World) (e : Ending) (w' : World) : Prop := ∃ s K P Z : Int, e = .returned (.tuple #[.agg #[.int .u32 s, .int .i64 K, .int .i64 P, .int .i64 Z], .bool (ofB l z p)]) ∧ Below w.heap.size w w' ∧ (ofB l z p = true → s = (sv : Int) ∧ K = ((BlkM.count l z : Nat) : Int) ∧ P = p ∧ Z = z)
set_option maxHeartbeats 200000 in
theorem of_all (s v : Nat) (l z p : Int) (A : Option Addr) (n c : Nat) (w : World) :
  Calls Tryz.prog 42 #[.agg #[.int .u32 (s : Int), .int .u32 (v : Int), .int .i64 l, .int .i64 z, .int .i64 p, .slice A n c]] w (OfAll s l z p w) := by
 have hx1 := heap_alloc2_old w (.cells #[.int .u32 (s : Int), .int .u32 (v : Int), .int .i64 l, .int .i64 z, .int .i64 p, .slice A n c] 37) (.cells #[.int .u32 0, .int .i64 0, .int .i64 0, .int .i64 0] 76)
 have hx2 := heap_alloc2_new w (.cells #[.int .u32 (s : Int), .int .u32 (v : Int), .int .i64 l, .int .i64 z, .int .i64 p, .slice A n c] 37) (.cells #[.int .u32 0, .int .i64 0, .int .i64 0, .int .i64 0] 76)
 obtain ⟨N0, hK⟩ : ∃ N0, BlkM.count l z = N0 := ⟨_, rfl⟩
 have HK := Lib.hid hK
 have HX1 := Lib.hid hx1
 have HX2 := Lib.hid hx2
 clear hK hx1 hx2
 go_enter Tryz.func42, Tryz.ntmps42
 go_wp2_with fail
 have hx1 := HX1.out
 have hx2 := HX2.out
 have hb0 : Below w.heap.size w ((w.alloc (.cells #[.int .u32 (s : Int), .int .u32 (v : Int), .int .i64 l, .int .i64 z, .int .i64 p, .slice A n c] 37)).alloc (.cells #[.int .u32 0, .int .i64 0, .int .i64 0, .int .i64 0] 76)) := ((Below.refl _ _).alloc (Nat.le_refl _) _).alloc (by simp) _
 have hsz : ((w.alloc (.cells #[.int .u32 (s : Int), .int .u32 (v : Int), .int .i64 l, .int .i64 z, .int .i64 p, .slice A n c] 37)).alloc (.cells #[.int .u32 0, .int .i64 0, .int .i64 0, .int .i64 0] 76)).heap.size = w.heap.size + 2 := by simp
 have HSZ := Lib.hid hsz
 clear HX1 HX2 hsz
 generalize ((w.alloc (.cells #[.int .u32 (s : Int), .int .u32 (v : Int), .int .i64 l, .int .i64 z, .int .i64 p, .slice A n c] 37)).alloc (.cells #[.int .u32 0, .int .i64 0, .int .i64 0, .int .i64 0] 76)) = W0 at *
 obtain ⟨c0, c1, c2, c3, c4, c5⟩ := bx6 hx1
 have HX2 := Lib.hid hx2
 have HB0 := Lib.hid hb0
 clear hx1 hx2 hb0
 clear c1 c5
 have HC : Hid (∀ W, Below W0.heap.size W0 W → W.cell? ⟨w.heap.size, 0, none⟩ = some (.int .u32 (s : Int)) ∧ W.cell? ⟨w.heap.size, 2, none⟩ = some (.int .i64 l) ∧ W.cell? ⟨w.heap.size, 3, none⟩ = some (.int .i64 z) ∧ W.cell? ⟨w.heap.size, 4, none⟩ = some (.int .i64 p)) := by
  intro W hW
  have hl : w.heap.size < W0.heap.size := by have := HSZ.out; omega
  exact ⟨(hW.cell (p := ⟨_, _, none⟩) hl).trans c0, (hW.cell (p := ⟨_, _, none⟩) hl).trans c2, (hW.cell (p := ⟨_, _, none⟩) hl).trans c3, (hW.cell (p := ⟨_, _, none⟩) hl).trans c4⟩
 clear c0 c2 c3 c4
 -- REGION
 refine wp_region_noPanic ?_
 refine wp_region_held_drew (S := (fun W => Below W0.heap.size W0 W)) (by kernel_rfl) (Below.refl _ _).drew (fun hH0 => ?_)
 have hH0 : (fun W => Below W0.heap.size W0 W) W0.drew := hH0
 generalize W0.drew = wd at *
 have hWD : Below W0.heap.size W0 wd := hH0
 refine wpAnyH_take (i := 0) (oi := _) (v := ?tkv901) rfl (by kernel_rfl) (by kernel_rfl) (by kernel_rfl) (fun _ _ _ h => h) (Or.inl ⟨by rfl, ?tky901⟩) hH0 ?tkr901
 case tky901 => (intro w' hSw; clear hSw; go_simp; try with_reducible rfl)
 try simp only [Act.put, zqa, zqb, zqc]
 refine wpAnyH_take (i := 1) (oi := _) (v := ?tkv902) rfl (by kernel_rfl) (by kernel_rfl) (by kernel_rfl) (fun _ _ _ h => h) (Or.inl ⟨by rfl, ?tky902⟩) hH0 ?tkr902
 case tky902 => (intro w' hSw; have z0 := HC.out _ hSw; clear hSw; go_simp; try with_reducible rfl)
 try simp only [Act.put, zqa, zqb, zqc]
 refine wpAnyH_take (i := 2) (oi := _) (v := ?tkv903) rfl (by kernel_rfl) (by kernel_rfl) (by kernel_rfl) (fun _ _ _ h => h) (Or.inl ⟨by rfl, ?tky903⟩) hH0 ?tkr903
 case tky903 => (intro w' hSw; clear hSw; go_simp; try with_reducible rfl)
 try simp only [Act.put, zqa, zqb, zqc]
 refine wpAnyH_take (i := 3) (oi := _) (v := ?tkv904) rfl (by kernel_rfl) (by kernel_rfl) (by kernel_rfl) (fun _ _ _ h => h) (Or.inl ⟨by rfl, ?tky904⟩) hH0 ?tkr904
 case tky904 => (intro w' hSw; have z0 := HC.out _ hSw; clear hSw; go_simp; try with_reducible rfl)
 try simp only [Act.put, zqa, zqb, zqc]
 refine wpAnyH_take (i := 4) (oi := _) (v := ?tkv905) rfl (by kernel_rfl) (by kernel_rfl) (by kernel_rfl) (fun _ _ _ h => h) (Or.inl ⟨by rfl, ?tky905⟩) hH0 ?tkr905
 case tky905 => (intro w' hSw; clear hSw; go_simp; try with_reducible rfl)
 try simp only [Act.put, zqa, zqb, zqc]
 refine wpAnyH_take (i := 5) (oi := _) (v := ?tkv906) rfl (by kernel_rfl) (by kernel_rfl) (by kernel_rfl) (fun _ _ _ h => h) (Or.inl ⟨by rfl, ?tky906⟩) hH0 ?tkr906
 case tky906 => (intro w' hSw; have z0 := HC.out _ hSw; clear hSw; go_simp; try with_reducible rfl)
 try simp only [Act.put, zqa, zqb, zqc]
 refine wpAnyH_take (i := 7) (oi := _) (v := ?tkv907) rfl (by kernel_rfl) (by kernel_rfl) (by kernel_rfl) (fun _ _ _ h => h) (Or.inl ⟨by rfl, ?tky907⟩) hH0 ?tkr907
 case tky907 => (intro w' hSw; clear hSw; go_simp; try with_reducible rfl)
 try simp only [Act.put, zqa, zqb, zqc]
 refine wpAnyH_take (i := 8) (oi := _) (v := ?tkv908) rfl (by kernel_rfl) (by kernel_rfl) (by kernel_rfl) (fun _ _ _ h => h) (Or.inl ⟨by rfl, ?tky908⟩) hH0 ?tkr908
 case tky908 => (intro w' hSw; have z0 := HC.out _ hSw; clear hSw; go_simp; try with_reducible rfl)
 try simp only [Act.put, zqa, zqb, zqc]
 refine wpAnyH_take (i := 9) (oi := _) (v := ?tkv909) rfl (by kernel_rfl) (by kernel_rfl) (by kernel_rfl) (fun _ _ _ h => h) (Or.inl ⟨by rfl, ?tky909⟩) hH0 ?tkr909
 case tky909 => (intro w' hSw; clear hSw; go_simp; try with_reducible rfl)
 try simp only [Act.put, zqa, zqb, zqc]
 refine wpAnyH_take (i := 10) (oi := _) (v := ?tkv910) rfl (by kernel_rfl) (by kernel_rfl) (by kernel_rfl) (fun _ _ _ h => h) (Or.inl ⟨by rfl, ?tky910⟩) hH0 ?tkr910
 case tky910 => (intro w' hSw; have z0 := HC.out _ hSw; clear hSw; go_simp; try with_reducible rfl)
 try simp only [Act.put, zqa, zqb, zqc]
 refine wpAnyH_ready (rs := [6, 12]) (by kernel_rfl) (by simp) ?_
 refine AllReadyH.cons (o := _) rfl (fun K hK => ?_) (AllReadyH.cons (o := _) rfl (fun K hK => ?_) AllReadyH.nil)
 ·go_simp
  (with_reducible refine (count_eq l z N0 _ HK).mono ?_)
  rintro e' w' ⟨rfl, rfl⟩
  go_simp
  have hS911 : (fun W => Below W0.heap.size W0 W) wd := hH0
  refine hK.out _ _ hS911 (fun hH911 => ?_)
  clear hK K
  try simp only [Act.put, zqa, zqb, zqc]
  refine wpAnyH_take (i := 11) (oi := _) (v := ?tkv912) rfl (by kernel_rfl) (by kernel_rfl) (by kernel_rfl) (fun _ _ _ h => h) (Or.inl ⟨by rfl, ?tky912⟩) hH911 ?tkr912
  case tky912 => (intro w' hSw; clear hSw; go_simp; try with_reducible rfl)
  try simp only [Act.put, zqa, zqb, zqc]
  refine wpAnyH_ready (rs := [12]) (by kernel_rfl) (by simp) ?_
  refine AllReadyH.cons (o := _) rfl (fun K hK => ?_) AllReadyH.nil
  go_simp
  have hS913 : (fun W => Below W0.heap.size W0 W) (wd.alloc (.cells #[.int .u32 0, .int .i64 0, .int .i64 0, .int .i64 0] 76)) := (hWD.alloc hWD.size _)
  refine hK.out _ _ hS913 (fun hH913 => ?_)
  clear hK K
  try simp only [Act.put, zqa, zqb, zqc]
  refine wpAnyH_ready (rs := [13]) (by kernel_rfl) (by simp) ?_
  refine AllReadyH.cons (o := _) rfl (fun K hK => ?_) AllReadyH.nil
  go_simp
  have hS914 : (fun W => Below W0.heap.size W0 W) (wd.alloc (.cells #[.int .u32 (s : Int), .int .i64 (N0 : Int), .int .i64 p, .int .i64 z] 76)) := (hWD.alloc hWD.size _)
  refine hK.out _ _ hS914 (fun hH914 => ?_)
  clear hK K
  try simp only [Act.put, zqa, zqb, zqc]
  refine wpAnyH_done (by kernel_rfl) ?_ _
  refine NoPanic.normal ?_
  go_wp2_with fail
  refine (spMay_any s N0 p z _).mono ?_
  rintro e w2 ⟨rfl, hb2⟩
  have hq1 : w.heap.size + 1 < wd.heap.size := by have h1 := HSZ.out; have h2 := hWD.size; omega
  have hbd : Below w.heap.size w wd := HB0.out.trans (hWD.mono HB0.out.size)
  have hx2 : w2.heap[w.heap.size + 1]? = some (.cells #[.int .u32 0, .int .i64 0, .int .i64 0, .int .i64 0] 76 (0, 0)) := (hb2.block (w.heap.size + 1) (by simp; omega)).trans ((heap_alloc_old wd _ (by omega)).trans ((hWD.block (w.heap.size + 1) (by have := HSZ.out; omega)).trans HX2.out))
  have hx3 : w2.heap[wd.heap.size]? = some (.cells #[.int .u32 (s : Int), .int .i64 (N0 : Int), .int .i64 p, .int .i64 z] 76 (0, 0)) := (hb2.block wd.heap.size (by simp)).trans (heap_alloc_new wd _)
  have HBZ : Hid (Below w.heap.size w w2) := (hbd.alloc hbd.size _).trans (hb2.mono (by simp; have := hbd.size; omega))
  have HOF : Hid (ofB l z p = mayB (N0 : Int) p z) := by show _ = _; unfold ofB; rw [HK.out]
  obtain ⟨⟨y0, y1, y2, y3⟩, ⟨f0, f1, f2, f3⟩⟩ := bx4 hx2
  obtain ⟨⟨u0, u1, u2, u3⟩, -⟩ := bx4 hx3
  have HX3 := Lib.hid hx2
  clear hx2 hx3 hb2 hq1 hbd
  cases hm : mayB (N0 : Int) p z with
  | false =>
   rw [hm] at HOF
   clear hm
   go_wp2_with fail
   have hrow := set4 HX3.out (.int .u32 0) (.int .i64 0) (.int .i64 0) (.int .i64 0)
   refine bodyPost_ret (results_cell_tmp_row rfl _ _ (w.heap.size + 1) _ _ (0, 0) _ rfl hrow Tryz.underlying76 rfl (by kernel_rfl)) rfl ?_
   exact ⟨0, 0, 0, 0, by rw [HOF.out]; rfl, (((HBZ.out.setCell (by simp) _).setCell (by simp) _).setCell (by simp) _).setCell (by simp) _, fun h => by rw [HOF.out] at h; cases h⟩
  | true =>
   rw [hm] at HOF
   clear hm
   go_wp2_with fail
   have hrow := set4 HX3.out (.int .u32 (s : Int)) (.int .i64 (N0 : Int)) (.int .i64 p) (.int .i64 z)
   refine bodyPost_ret (results_cell_tmp_row rfl _ _ (w.heap.size + 1) _ _ (0, 0) _ rfl hrow Tryz.underlying76 rfl (by kernel_rfl)) rfl ?_
   exact ⟨s, N0, p, z, by rw [HOF.out]; rfl, (((HBZ.out.setCell (by simp) _).setCell (by simp) _).setCell (by simp) _).setCell (by simp) _, fun _ => ⟨rfl, by rw [HK.out], rfl, rfl⟩⟩
 ·go_simp
  have hS915 : (fun W => Below W0.heap.size W0 W) (wd.alloc (.cells #[.int .u32 0, .int .i64 0, .int .i64 0, .int .i64 0] 76)) := (hWD.alloc hWD.size _)
  refine hK.out _ _ hS915 (fun hH915 => ?_)
  clear hK K
  try simp only [Act.put, zqa, zqb, zqc]
  refine wpAnyH_ready (rs := [6]) (by kernel_rfl) (by simp) ?_
  refine AllReadyH.cons (o := _) rfl (fun K hK => ?_) AllReadyH.nil
  go_simp
  (with_reducible refine (count_eq l z N0 _ HK).mono ?_)
  rintro e' w' ⟨rfl, rfl⟩
  go_simp
  have hS916 : (fun W => Below W0.heap.size W0 W) (wd.alloc (.cells #[.int .u32 0, .int .i64 0, .int .i64 0, .int .i64 0] 76)) := hH915
  refine hK.out _ _ hS916 (fun hH916 => ?_)
  clear hK K
  try simp only [Act.put, zqa, zqb, zqc]
  refine wpAnyH_take (i := 11) (oi := _) (v := ?tkv917) rfl (by kernel_rfl) (by kernel_rfl) (by kernel_rfl) (fun _ _ _ h => h) (Or.inl ⟨by rfl, ?tky917⟩) hH916 ?tkr917
  case tky917 => (intro w' hSw; clear hSw; go_simp; try with_reducible rfl)
  try simp only [Act.put, zqa, zqb, zqc]
  refine wpAnyH_ready (rs := [13]) (by kernel_rfl) (by simp) ?_
  refine AllReadyH.cons (o := _) rfl (fun K hK => ?_) AllReadyH.nil
  go_simp
  have hS918 : (fun W => Below W0.heap.size W0 W) (wd.alloc (.cells #[.int .u32 (s : Int), .int .i64 (N0 : Int), .int .i64 p, .int .i64 z] 76)) := (hWD.alloc hWD.size _)
  refine hK.out _ _ hS918 (fun hH918 => ?_)
  clear hK K
  try simp only [Act.put, zqa, zqb, zqc]
  refine wpAnyH_done (by kernel_rfl) ?_ _
  refine NoPanic.normal ?_
  go_wp2_with fail
  refine (spMay_any s N0 p z _).mono ?_
  rintro e w2 ⟨rfl, hb2⟩
  have hq1 : w.heap.size + 1 < wd.heap.size := by have h1 := HSZ.out; have h2 := hWD.size; omega
  have hbd : Below w.heap.size w wd := HB0.out.trans (hWD.mono HB0.out.size)
  have hx2 : w2.heap[w.heap.size + 1]? = some (.cells #[.int .u32 0, .int .i64 0, .int .i64 0, .int .i64 0] 76 (0, 0)) := (hb2.block (w.heap.size + 1) (by simp; omega)).trans ((heap_alloc_old wd _ (by omega)).trans ((hWD.block (w.heap.size + 1) (by have := HSZ.out; omega)).trans HX2.out))
  have hx3 : w2.heap[wd.heap.size]? = some (.cells #[.int .u32 (s : Int), .int .i64 (N0 : Int), .int .i64 p, .int .i64 z] 76 (0, 0)) := (hb2.block wd.heap.size (by simp)).trans (heap_alloc_new wd _)
  have HBZ : Hid (Below w.heap.size w w2) := (hbd.alloc hbd.size _).trans (hb2.mono (by simp; have := hbd.size; omega))
  have HOF : Hid (ofB l z p = mayB (N0 : Int) p z) := by show _ = _; unfold ofB; rw [HK.out]
  obtain ⟨⟨y0, y1, y2, y3⟩, ⟨f0, f1, f2, f3⟩⟩ := bx4 hx2
  obtain ⟨⟨u0, u1, u2, u3⟩, -⟩ := bx4 hx3
  have HX3 := Lib.hid hx2
  clear hx2 hx3 hb2 hq1 hbd
  cases hm : mayB (N0 : Int) p z with
  | false =>
   rw [hm] at HOF
   clear hm
   go_wp2_with fail
   have hrow := set4 HX3.out (.int .u32 0) (.int .i64 0) (.int .i64 0) (.int .i64 0)
   refine bodyPost_ret (results_cell_tmp_row rfl _ _ (w.heap.size + 1) _ _ (0, 0) _ rfl hrow Tryz.underlying76 rfl (by kernel_rfl)) rfl ?_
   exact ⟨0, 0, 0, 0, by rw [HOF.out]; rfl, (((HBZ.out.setCell (by simp) _).setCell (by simp) _).setCell (by simp) _).setCell (by simp) _, fun h => by rw [HOF.out] at h; cases h⟩
  | true =>
   rw [hm] at HOF
   clear hm
   go_wp2_with fail
   have hrow := set4 HX3.out (.int .u32 (s : Int)) (.int .i64 (N0 : Int)) (.int .i64 p) (.int .i64 z)
   refine bodyPost_ret (results_cell_tmp_row rfl _ _ (w.heap.size + 1) _ _ (0, 0) _ rfl hrow Tryz.underlying76 rfl (by kernel_rfl)) rfl ?_
   exact ⟨s, N0, p, z, by rw [HOF.out]; rfl, (((HBZ.out.setCell (by simp) _).setCell (by simp) _).setCell (by simp) _).setCell (by simp) _, fun _ => ⟨rfl, by rw [HK.out], rfl, rfl⟩⟩
theorem of_any (s v : Nat) (l z p : Int) (A : Option Addr) (n c : Nat) (w : World) :
  Calls Tryz.prog 42 #[.agg #[.int .u32 (s : Int), .int .u32 (v : Int), .int .i64 l, .int .i64 z, .int .i64 p, .slice A n c]] w (OfOk l z p w) :=
 (of_all s v l z p A n c w).mono (by
  rintro e w' ⟨q, K, P, Z, h1, h2, _⟩
  exact ⟨q, K, P, Z, h1, h2⟩)
end Go.Proofs.YtmncpgfdpcckpaaGreatDoor
namespace Go.Proofs.YtmncpgfdpcckpaaGreatDoor
open Go.RowKit
theorem equal_any (B n cap n' cap' : Nat) (A A' : Option Addr) (l l' : List UInt8) (w : World) (hl : Row w B A n (bv l)) (hl' : Row w B A' n' (bv l')) :
  Calls Tryz.prog 59 #[.slice A n cap, .slice A' n' cap'] w (fun e w' => e = .returned (.bool (l == l')) ∧ w' = w) := by
 have k1 : ∀ W, Below B w W → (convert 22 9 (.slice A n cap)).run Tryz.prog W = .ok (.string ⟨l.toArray⟩) W := fun W hW => run_string_row (hl.below hW) _ _ _ 5 Tryz.underlying22 Tryz.underlying5 Tryz.underlying9
 have k2 : ∀ W, Below B w W → (convert 22 9 (.slice A' n' cap')).run Tryz.prog W = .ok (.string ⟨l'.toArray⟩) W := fun W hW => run_string_row (hl'.below hW) _ _ _ 5 Tryz.underlying22 Tryz.underlying5 Tryz.underlying9
 have k1' := k1 w (Below.refl _ _)
 have k2' := k2 w (Below.refl _ _)
 go_enter Tryz.func59, Tryz.ntmps59
 go_wp2_with fail
 go_ret
 exact ⟨rfl, rfl⟩
set_option maxHeartbeats 800000 in
theorem manSame_any (s v s' v' : Nat) (l z p l' z' p' : Int) (B n c n' c' : Nat) (A A' : Option Addr) (h h' : List UInt8) (w : World) (hl : Row w B A n (bv h)) (hl' : Row w B A' n' (bv h')) (hB : B ≤ w.heap.size) :
  Calls Tryz.prog 34 #[.agg #[.int .u32 (s : Int), .int .u32 (v : Int), .int .i64 l, .int .i64 z, .int .i64 p, .slice A n c], .agg #[.int .u32 (s' : Int), .int .u32 (v' : Int), .int .i64 l', .int .i64 z', .int .i64 p', .slice A' n' c']] w (fun e w' => ∃ b : Bool, e = .returned (.bool b) ∧ Hid (b = decide (s = s' ∧ v = v' ∧ l = l' ∧ z = z' ∧ p = p' ∧ h = h')) ∧ Below w.heap.size w w') := by
 by_cases h0 : s = s'
 ·subst h0
  by_cases h1 : v = v'
  ·subst h1
   by_cases h2 : l = l'
   ·subst h2
    by_cases h3 : z = z'
    ·subst h3
     by_cases h4 : p = p'
     ·subst h4
      go_enter Tryz.func34, Tryz.ntmps34
      go_wp2_with fail
      refine (equal_any B n c n' c' A A' h h' _ ((hl.alloc hB _).alloc (by simp; omega) _) ((hl'.alloc hB _).alloc (by simp; omega) _)).mono ?_
      rintro e w1 ⟨rfl, rfl⟩
      go_wp2_with fail
      go_ret
      exact ⟨_, rfl, (by show _ = _; by_cases e : h = h' <;> simp [e]), ((Below.refl _ _).alloc (Nat.le_refl _) _).alloc (by simp) _⟩
     ·have hne : ((p : Int) == (p' : Int)) = false := by simp; omega
      have HN := Lib.hid h4
      clear h4
      go_enter Tryz.func34, Tryz.ntmps34
      go_wp2_with fail
      go_ret
      exact ⟨_, rfl, (by show _ = _; simp [HN.out]), ((Below.refl _ _).alloc (Nat.le_refl _) _).alloc (by simp) _⟩
    ·have hne : ((z : Int) == (z' : Int)) = false := by simp; omega
     have HN := Lib.hid h3
     clear h3
     go_enter Tryz.func34, Tryz.ntmps34
     go_wp2_with fail
     go_ret
     exact ⟨_, rfl, (by show _ = _; simp [HN.out]), ((Below.refl _ _).alloc (Nat.le_refl _) _).alloc (by simp) _⟩
   ·have hne : ((l : Int) == (l' : Int)) = false := by simp; omega
    have HN := Lib.hid h2
    clear h2
    go_enter Tryz.func34, Tryz.ntmps34
    go_wp2_with fail
    go_ret
    exact ⟨_, rfl, (by show _ = _; simp [HN.out]), ((Below.refl _ _).alloc (Nat.le_refl _) _).alloc (by simp) _⟩
  ·have hne : ((v : Int) == (v' : Int)) = false := by simp; omega
   have HN := Lib.hid h1
   clear h1
   go_enter Tryz.func34, Tryz.ntmps34
   go_wp2_with fail
   go_ret
   exact ⟨_, rfl, (by show _ = _; simp [HN.out]), ((Below.refl _ _).alloc (Nat.le_refl _) _).alloc (by simp) _⟩
 ·have hne : ((s : Int) == (s' : Int)) = false := by simp; omega
  have HN := Lib.hid h0
  clear h0
  go_enter Tryz.func34, Tryz.ntmps34
  go_wp2_with fail
  go_ret
  exact ⟨_, rfl, (by show _ = _; simp [HN.out]), ((Below.refl _ _).alloc (Nat.le_refl _) _).alloc (by simp) _⟩
set_option maxHeartbeats 800000 in
theorem slotSame_any (v v' : Nat) (l l' : Int) (B n c n' c' : Nat) (A A' : Option Addr) (h h' : List UInt8) (w : World) (hl : Row w B A n (bv h)) (hl' : Row w B A' n' (bv h')) (hB : B ≤ w.heap.size) :
  Calls Tryz.prog 33 #[.agg #[.int .u32 (v : Int), .int .i64 l, .slice A n c], .agg #[.int .u32 (v' : Int), .int .i64 l', .slice A' n' c']] w (fun e w' => ∃ b : Bool, e = .returned (.bool b) ∧ Hid (b = decide (v = v' ∧ l = l' ∧ h = h')) ∧ Below w.heap.size w w') := by
 by_cases h0 : v = v'
 ·subst h0
  by_cases h1 : l = l'
  ·subst h1
   go_enter Tryz.func33, Tryz.ntmps33
   go_wp2_with fail
   refine (equal_any B n c n' c' A A' h h' _ ((hl.alloc hB _).alloc (by simp; omega) _) ((hl'.alloc hB _).alloc (by simp; omega) _)).mono ?_
   rintro e w1 ⟨rfl, rfl⟩
   go_wp2_with fail
   go_ret
   exact ⟨_, rfl, (by show _ = _; by_cases e : h = h' <;> simp [e]), ((Below.refl _ _).alloc (Nat.le_refl _) _).alloc (by simp) _⟩
  ·have hne : ((l : Int) == (l' : Int)) = false := by simp; omega
   have HN := Lib.hid h1
   clear h1
   go_enter Tryz.func33, Tryz.ntmps33
   go_wp2_with fail
   go_ret
   exact ⟨_, rfl, (by show _ = _; simp [HN.out]), ((Below.refl _ _).alloc (Nat.le_refl _) _).alloc (by simp) _⟩
 ·have hne : ((v : Int) == (v' : Int)) = false := by simp; omega
  have HN := Lib.hid h0
  clear h0
  go_enter Tryz.func33, Tryz.ntmps33
  go_wp2_with fail
  go_ret
  exact ⟨_, rfl, (by show _ = _; simp [HN.out]), ((Below.refl _ _).alloc (Nat.le_refl _) _).alloc (by simp) _⟩
def manB (l z p : Int) (n : Nat) : Bool := ofB l z p && decide (n = 32)
set_option maxHeartbeats 400000 in
theorem manMay_any (s v : Nat) (l z p : Int) (A : Option Addr) (n c : Nat) (w : World) :
  Calls Tryz.prog 35 #[.agg #[.int .u32 (s : Int), .int .u32 (v : Int), .int .i64 l, .int .i64 z, .int .i64 p, .slice A n c]] w fun e w' => e = .returned (.bool (manB l z p n)) ∧ Below w.heap.size w w' := by
 have hx := heap_alloc_new w (.cells #[.int .u32 (s : Int), .int .u32 (v : Int), .int .i64 l, .int .i64 z, .int .i64 p, .slice A n c] 37)
 have HX := Lib.hid hx
 clear hx
 have HB : Hid (manB l z p n = (ofB l z p && decide (n = 32))) := rfl
 go_enter Tryz.func35, Tryz.ntmps35
 go_wp2_with fail
 refine (of_any s v l z p A n c _).mono ?_
 rintro e w1 ⟨s', K', P', Z', rfl, hb1⟩
 have hb0 : Below w.heap.size w w1 := ((Below.refl _ _).alloc (Nat.le_refl _) _).trans (hb1.mono (by simp))
 obtain ⟨-, -, -, -, -, y5⟩ := bx6 ((hb1.block w.heap.size (by simp)).trans HX.out)
 have hlt : w.heap.size < w1.heap.size := by have := hb1.size; simp at this; omega
 have HB0 := Lib.hid hb0
 clear hb1 hb0
 cases ho : ofB l z p with
 | false =>
  rw [ho] at HB
  clear ho
  go_wp2_with fail
  go_ret
  refine ⟨by rw [HB.out]; rfl, ?_⟩
  have := HB0.out.size
  exact ((((HB0.out.alloc HB0.out.size _))))
 | true =>
  rw [ho] at HB
  clear ho
  by_cases h32 : n = 32
  ·have hn : ((n : Int) == 32) = true := by simp; omega
   have HB2 : Hid (manB l z p n = true) := by show _ = _; rw [HB.out]; simp [h32]
   clear h32
   go_wp2_with fail
   go_ret
   exact ⟨by rw [HB2.out]; rfl, HB0.out.alloc HB0.out.size _⟩
  ·have hn : ((n : Int) == 32) = false := by simp; omega
   have HB2 : Hid (manB l z p n = false) := by show _ = _; rw [HB.out]; simp [h32]
   clear h32
   go_wp2_with fail
   go_ret
   exact ⟨by rw [HB2.out]; rfl, HB0.out.alloc HB0.out.size _⟩
def filledB (l : Int) (n : Nat) : Bool := decide (n = 32) && (decide (1 ≤ l) && decide (l ≤ 512))
set_option maxHeartbeats 400000 in
theorem filled_any (v : Nat) (l : Int) (A : Option Addr) (n c : Nat) (w : World) :
  Calls Tryz.prog 36 #[.agg #[.int .u32 (v : Int), .int .i64 l, .slice A n c]] w fun e w' => e = .returned (.bool (filledB l n)) ∧ Below w.heap.size w w' := by
 by_cases h1 : n = 32
 ·by_cases h2 : 1 ≤ l
  ·by_cases h3 : l ≤ 512
   ·have HF : Hid (filledB l n = true) := by show _ = _; simp [filledB, h1, h2, h3]
    have h1' : ((n : Int) == 32) = true := by simp; omega
    clear h1
    go_enter Tryz.func36, Tryz.ntmps36
    go_wp2_with fail
    go_ret
    exact ⟨by rw [HF.out]; rfl, (Below.refl _ _).alloc (Nat.le_refl _) _⟩
   ·have HF : Hid (filledB l n = false) := by show _ = _; simp [filledB, h1, h2, h3]
    have h1' : ((n : Int) == 32) = true := by simp; omega
    have h3' : decide (l ≤ 512) = false := by simpa using h3
    clear h1 h3
    go_enter Tryz.func36, Tryz.ntmps36
    go_wp2_with fail
    go_ret
    exact ⟨by rw [HF.out]; rfl, (Below.refl _ _).alloc (Nat.le_refl _) _⟩
  ·have HF : Hid (filledB l n = false) := by show _ = _; simp [filledB, h2]
   have h1' : ((n : Int) == 32) = true := by simp; omega
   have h2' : decide (1 ≤ l) = false := by simpa using h2
   clear h1 h2
   go_enter Tryz.func36, Tryz.ntmps36
   go_wp2_with fail
   go_ret
   exact ⟨by rw [HF.out]; rfl, (Below.refl _ _).alloc (Nat.le_refl _) _⟩
 ·have HF : Hid (filledB l n = false) := by show _ = _; simp [filledB, h1]
  have h1' : ((n : Int) == 32) = false := by simp; omega
  clear h1
  go_enter Tryz.func36, Tryz.ntmps36
  go_wp2_with fail
  go_ret
  exact ⟨by rw [HF.out]; rfl, (Below.refl _ _).alloc (Nat.le_refl _) _⟩
end Go.Proofs.YtmncpgfdpcckpaaGreatDoor
namespace Go.Proofs.YtmncpgfdpcckpaaGreatDoor
open Go.RowKit
def emptyB (v : Nat) (l : Int) (h : List UInt8) : Bool := decide (v = 0 ∧ l = 0 ∧ h = [])
set_option maxHeartbeats 400000 in
theorem empty_any (v : Nat) (l : Int) (B n c : Nat) (A : Option Addr) (h : List UInt8) (w : World) (hl : Row w B A n (bv h)) (hB : B ≤ w.heap.size) :
  Calls Tryz.prog 37 #[.agg #[.int .u32 (v : Int), .int .i64 l, .slice A n c]] w fun e w' => e = .returned (.bool (emptyB v l h)) ∧ Below w.heap.size w w' := by
 have HL := Lib.hid hl
 have HB := Lib.hid hB
 have HX := Lib.hid (heap_alloc_new w (.cells #[.int .u32 (v : Int), .int .i64 l, .slice A n c] 34))
 clear hl hB
 go_enter Tryz.func37, Tryz.ntmps37
 go_wp2_with fail
 refine (slotSame_any v 0 l 0 B n c 0 0 A none h [] _ (HL.out.alloc HB.out _) (Row.nil _ _ _) (by simp; have := HB.out; omega)).mono ?_
 rintro e w1 ⟨b, rfl, hb, hb1⟩
 have HE : Hid (b = emptyB v l h) := hb.out
 have HB1 : Hid (Below w.heap.size w w1) := ((Below.refl _ _).alloc (Nat.le_refl _) _).trans (hb1.mono (by simp))
 clear hb hb1
 go_wp2_with fail
 go_ret
 exact ⟨by rw [HE.out]; rfl, HB1.out⟩
def mayB2 (act trial : Int) (v0 : Nat) (l0 : Int) (h0 : List UInt8) (v1 : Nat) (l1 : Int) (h1 : List UInt8) (on : Bool) (s v : Nat) (l z p : Int) (h : List UInt8) : Bool :=
 decide (act = 0 ∨ act = 1) && (decide (0 ≤ trial) && decide (trial ≤ 3)) && (if on then manB l z p h.length else decide (s = 0 ∧ v = 0 ∧ l = 0 ∧ z = 0 ∧ p = 0 ∧ h = [])) &&
  (if act = 0 then filledB l0 h0.length && (filledB l1 h1.length || (decide (trial = 0) && emptyB v1 l1 h1)) else filledB l1 h1.length && (filledB l0 h0.length || (decide (trial = 0) && emptyB v0 l0 h0)))
def Two3 (X Y : Array Value) (g3 g4 : Nat) (w wx : World) : Prop :=
 wx.heap[g3]? = some (.cells X 34 (0, 0)) ∧ wx.heap[g4]? = some (.cells Y 34 (0, 0)) ∧ Below w.heap.size w wx
theorem two3_new (X Y : Array Value) (w : World) : Hid (Two3 X Y w.heap.size (w.heap.size + 1) w ((w.alloc (.cells X 34)).alloc (.cells Y 34)).drew) :=
 ⟨heap_alloc2_old w _ _, heap_alloc2_new w _ _, (((Below.refl _ _).alloc (Nat.le_refl _) _).alloc (by simp) _).drew⟩
theorem two3_swap (X Y : Array Value) (w : World) : Hid (Two3 X Y (w.heap.size + 1) w.heap.size w ((w.alloc (.cells Y 34)).alloc (.cells X 34)).drew) :=
 ⟨heap_alloc2_new w _ _, heap_alloc2_old w _ _, (((Below.refl _ _).alloc (Nat.le_refl _) _).alloc (by simp) _).drew⟩
theorem bx3 {w : World} {g : Nat} {t : TypeId} {x y z : Value} (h : w.heap[g]? = some (.cells #[x, y, z] t (0, 0))) : w.cell? ⟨g, 0, none⟩ = some x ∧ w.cell? ⟨g, 1, none⟩ = some y ∧ w.cell? ⟨g, 2, none⟩ = some z := by
 refine ⟨?_, ?_, ?_⟩ <;> rw [cell_of_row w g _ _ t (0, 0) h] <;> rfl
theorem bx17 {w : World} {g : Nat} {t : TypeId} {a0 a1 a2 a3 a4 a5 a6 a7 a8 a9 a10 a11 a12 a13 a14 a15 a16 : Value} (h : w.heap[g]? = some (.cells #[a0, a1, a2, a3, a4, a5, a6, a7, a8, a9, a10, a11, a12, a13, a14, a15, a16] t (0, 0))) :
  w.cell? ⟨g, 0, none⟩ = some a0 ∧ w.cell? ⟨g, 1, none⟩ = some a1 ∧ w.cell? ⟨g, 4, none⟩ = some a4 ∧ w.cell? ⟨g, 5, none⟩ = some a5 ∧ w.cell? ⟨g, 6, none⟩ = some a6 ∧ w.cell? ⟨g, 7, none⟩ = some a7 ∧ w.cell? ⟨g, 8, none⟩ = some a8 ∧ w.cell? ⟨g, 9, none⟩ = some a9 ∧ w.cell? ⟨g, 10, none⟩ = some a10 := by
 refine ⟨?_, ?_, ?_, ?_, ?_, ?_, ?_, ?_, ?_⟩ <;> rw [cell_of_row w g _ _ t (0, 0) h] <;> rfl
set_option maxHeartbeats 1600000 in
theorem may_0t (trial : Int) (flo gen v0 : Nat) (l0 : Int) (A0 : Option Addr) (n0 c0 : Nat) (v1 : Nat) (l1 : Int) (A1 : Option Addr) (n1 c1 : Nat) (s v : Nat) (l z p : Int) (A : Option Addr) (n c B : Nat) (h0 h1 h : List UInt8) (w : World)
  (hl0 : Row w B A0 n0 (bv h0)) (hl1 : Row w B A1 n1 (bv h1)) (hl : Row w B A n (bv h)) (hB : B ≤ w.heap.size) (ht0 : 0 ≤ trial) (ht3 : trial ≤ 3) :
  Calls Tryz.prog 19 #[.agg #[.int .i64 0, .int .i64 trial, .int .u32 (flo : Int), .int .u32 (gen : Int), .int .u32 (v0 : Int), .int .i64 l0, .slice A0 n0 c0, .int .u32 (v1 : Int), .int .i64 l1, .slice A1 n1 c1, .bool true, .int .u32 (s : Int), .int .u32 (v : Int), .int .i64 l, .int .i64 z, .int .i64 p, .slice A n c]] w fun e w' => e = .returned (.bool (mayB2 0 trial v0 l0 h0 v1 l1 h1 true s v l z p h)) ∧ Below w.heap.size w w' := by
 have HL0 := Lib.hid hl0
 have HL1 := Lib.hid hl1
 have HL := Lib.hid hl
 have HB := Lib.hid hB
 have HX := Lib.hid (heap_alloc_new w (.cells #[.int .i64 0, .int .i64 trial, .int .u32 (flo : Int), .int .u32 (gen : Int), .int .u32 (v0 : Int), .int .i64 l0, .slice A0 n0 c0, .int .u32 (v1 : Int), .int .i64 l1, .slice A1 n1 c1, .bool true, .int .u32 (s : Int), .int .u32 (v : Int), .int .i64 l, .int .i64 z, .int .i64 p, .slice A n c] 39))
 have HT0 := Lib.hid ht0
 have HT3 := Lib.hid ht3
 have HR : Hid (mayB2 0 trial v0 l0 h0 v1 l1 h1 true s v l z p h = (manB l z p n && (filledB l0 n0 && (filledB l1 n1 || (decide (trial = 0) && emptyB v1 l1 h1))))) := by
  show _ = _
  simp [mayB2, ht0, ht3, hl0.blen, hl1.blen, hl.blen]
 clear hl0 hl1 hl hB
 go_enter Tryz.func19, Tryz.ntmps19
 go_wp2_with fail
 refine (manMay_any s v l z p A n c _).mono ?_
 rintro e w1 ⟨rfl, hb1⟩
 have HM : Hid (manB l z p n = manB l z p n) := rfl
 obtain ⟨q, hq⟩ : ∃ q, manB l z p n = q := ⟨_, rfl⟩
 rw [hq] at HR ⊢
 clear hq HM
 have HB1 : Hid (Below w.heap.size w w1) := ((Below.refl _ _).alloc (Nat.le_refl _) _).trans (hb1.mono (by simp))
 have HX1 := Lib.hid ((hb1.block w.heap.size (by simp)).trans HX.out)
 have hlt : w.heap.size < w1.heap.size := by have := hb1.size; simp at this; omega
 clear hb1 HX
 cases q with
 | false =>
  obtain ⟨a0, a1, a4, a5, a6, a7, a8, a9, a10⟩ := bx17 HX1.out
  clear hlt a0 a1 a4 a5 a6 a7 a8 a9
  go_wp2_with fail
  go_ret
  exact ⟨by rw [HR.out]; rfl, HB1.out⟩
 | true =>
  obtain ⟨a0, a1, a4, a5, a6, a7, a8, a9, a10⟩ := bx17 HX1.out
  go_upto_region 5 with fail
  go_cut [3, 4] (fun s3 s4 wx => ∃ g3 g4 : Nat, s3 = .pointer (some ⟨g3, 0, none⟩) ∧ s4 = .pointer (some ⟨g4, 0, none⟩) ∧ Hid (Two3 #[.int .u32 (v0 : Int), .int .i64 l0, .slice A0 n0 c0] #[.int .u32 (v1 : Int), .int .i64 l1, .slice A1 n1 c1] g3 g4 w1 wx))
  case first =>
   go_region
   all_goals
    go_wp2_with fail
    go_meet
    first
     | exact ⟨_, _, rfl, rfl, two3_new _ _ w1⟩
     | exact ⟨_, _, rfl, rfl, two3_swap _ _ w1⟩
  case rest =>
   clear a0 a1 a4 a5 a6 a7 a8 a9 a10
   obtain ⟨g3, g4, rfl, rfl, hz⟩ := hcut
   obtain ⟨z1, z2, hbx⟩ := hz.out
   have Z2 := Lib.hid z2
   have HBX := Lib.hid hbx
   have HXC := Lib.hid ((hbx.block w.heap.size hlt).trans HX1.out)
   have L4 : Hid (g4 < wc.heap.size) := (Array.getElem?_eq_some_iff.1 z2).1
   have LW : Hid (w.heap.size < wc.heap.size) := Nat.lt_of_lt_of_le hlt hbx.size
   have HBW : Hid (Below w.heap.size w wc) := HB1.out.trans (hbx.mono HB1.out.size)
   obtain ⟨x0, x1, x2⟩ := bx3 z1
   clear z1 z2 hbx hz HX1 hlt HB1
   go_wp2_with fail
   refine (filled_any v0 l0 A0 n0 c0 _).mono ?_
   rintro e w2 ⟨rfl, hb2⟩
   clear x0 x1 x2
   obtain ⟨y0, y1, y2⟩ := bx3 ((hb2.block g4 L4.out).trans Z2.out)
   have HB2 : Hid (Below w.heap.size w w2) := HBW.out.trans (hb2.mono HBW.out.size)
   obtain ⟨f1, hf1⟩ : ∃ f1, filledB l0 n0 = f1 := ⟨_, rfl⟩
   rw [hf1] at HR ⊢
   clear hf1
   cases f1 with
   | false =>
    clear y0 y1 y2
    go_wp2_with fail
    go_ret
    exact ⟨by rw [HR.out]; rfl, HB2.out⟩
   | true =>
    go_wp2_with fail
    refine (filled_any v1 l1 A1 n1 c1 _).mono ?_
    rintro e w3 ⟨rfl, hb3⟩
    clear y0 y1 y2
    have hb23 : Below wc.heap.size wc w3 := hb2.trans (hb3.mono hb2.size)
    obtain ⟨y0, y1, y2⟩ := bx3 ((hb23.block g4 L4.out).trans Z2.out)
    obtain ⟨-, a1, -⟩ := bx17 ((hb23.block w.heap.size LW.out).trans HXC.out)
    have HB3 : Hid (Below w.heap.size w w3) := HBW.out.trans (hb23.mono HBW.out.size)
    obtain ⟨f2, hf2⟩ : ∃ f2, filledB l1 n1 = f2 := ⟨_, rfl⟩
    rw [hf2] at HR ⊢
    clear hf2 hb2 hb3 hb23
    cases f2 with
    | true =>
     clear y0 y1 y2 a1
     go_wp2_with fail
     go_ret
     exact ⟨by rw [HR.out]; rfl, HB3.out⟩
    | false =>
     by_cases ht : trial = 0
     ·subst ht
      go_wp2_with fail
      refine (empty_any v1 l1 B n1 c1 A1 h1 _ (HL1.out.below (HB3.out.mono HB.out)) (Nat.le_trans HB.out HB3.out.size)).mono ?_
      rintro e w4 ⟨rfl, hb4⟩
      have HB4 : Hid (Below w.heap.size w w4) := HB3.out.trans (hb4.mono HB3.out.size)
      clear hb4 y0 y1 y2 a1
      go_wp2_with fail
      go_ret
      exact ⟨by rw [HR.out]; rfl, HB4.out⟩
     ·have hne : (trial == 0) = false := by simpa using ht
      have HTT : Hid (decide (trial = 0) = false) := by show _ = _; simpa using ht
      clear ht
      go_wp2_with fail
      go_ret
      exact ⟨by rw [HR.out, HTT.out]; rfl, HB3.out⟩
set_option maxHeartbeats 1600000 in
theorem may_0f (trial : Int) (flo gen v0 : Nat) (l0 : Int) (A0 : Option Addr) (n0 c0 : Nat) (v1 : Nat) (l1 : Int) (A1 : Option Addr) (n1 c1 : Nat) (s v : Nat) (l z p : Int) (A : Option Addr) (n c B : Nat) (h0 h1 h : List UInt8) (w : World)
  (hl0 : Row w B A0 n0 (bv h0)) (hl1 : Row w B A1 n1 (bv h1)) (hl : Row w B A n (bv h)) (hB : B ≤ w.heap.size) (ht0 : 0 ≤ trial) (ht3 : trial ≤ 3) :
  Calls Tryz.prog 19 #[.agg #[.int .i64 0, .int .i64 trial, .int .u32 (flo : Int), .int .u32 (gen : Int), .int .u32 (v0 : Int), .int .i64 l0, .slice A0 n0 c0, .int .u32 (v1 : Int), .int .i64 l1, .slice A1 n1 c1, .bool false, .int .u32 (s : Int), .int .u32 (v : Int), .int .i64 l, .int .i64 z, .int .i64 p, .slice A n c]] w fun e w' => e = .returned (.bool (mayB2 0 trial v0 l0 h0 v1 l1 h1 false s v l z p h)) ∧ Below w.heap.size w w' := by
 have HL0 := Lib.hid hl0
 have HL1 := Lib.hid hl1
 have HL := Lib.hid hl
 have HB := Lib.hid hB
 have HX := Lib.hid (heap_alloc_new w (.cells #[.int .i64 0, .int .i64 trial, .int .u32 (flo : Int), .int .u32 (gen : Int), .int .u32 (v0 : Int), .int .i64 l0, .slice A0 n0 c0, .int .u32 (v1 : Int), .int .i64 l1, .slice A1 n1 c1, .bool false, .int .u32 (s : Int), .int .u32 (v : Int), .int .i64 l, .int .i64 z, .int .i64 p, .slice A n c] 39))
 have HT0 := Lib.hid ht0
 have HT3 := Lib.hid ht3
 have HR : Hid (mayB2 0 trial v0 l0 h0 v1 l1 h1 false s v l z p h = (decide (s = 0 ∧ v = 0 ∧ l = 0 ∧ z = 0 ∧ p = 0 ∧ h = []) && (filledB l0 n0 && (filledB l1 n1 || (decide (trial = 0) && emptyB v1 l1 h1))))) := by
  show _ = _
  simp [mayB2, ht0, ht3, hl0.blen, hl1.blen]
 clear hl0 hl1 hl hB
 go_enter Tryz.func19, Tryz.ntmps19
 go_wp2_with fail
 refine (manSame_any s v 0 0 l z p 0 0 0 B n c 0 0 A none h [] _ (HL.out.alloc HB.out _) (Row.nil _ _ _) (by simp; have := HB.out; omega)).mono ?_
 rintro e w1 ⟨q, rfl, hq, hb1⟩
 rw [← hq.out] at HR
 clear hq
 have HB1 : Hid (Below w.heap.size w w1) := ((Below.refl _ _).alloc (Nat.le_refl _) _).trans (hb1.mono (by simp))
 have HX1 := Lib.hid ((hb1.block w.heap.size (by simp)).trans HX.out)
 have hlt : w.heap.size < w1.heap.size := by have := hb1.size; simp at this; omega
 clear hb1 HX
 cases q with
 | false =>
  obtain ⟨a0, a1, a4, a5, a6, a7, a8, a9, a10⟩ := bx17 HX1.out
  clear hlt a0 a1 a4 a5 a6 a7 a8 a9
  go_wp2_with fail
  go_ret
  exact ⟨by rw [HR.out]; rfl, HB1.out⟩
 | true =>
  obtain ⟨a0, a1, a4, a5, a6, a7, a8, a9, a10⟩ := bx17 HX1.out
  go_upto_region 5 with fail
  go_cut [3, 4] (fun s3 s4 wx => ∃ g3 g4 : Nat, s3 = .pointer (some ⟨g3, 0, none⟩) ∧ s4 = .pointer (some ⟨g4, 0, none⟩) ∧ Hid (Two3 #[.int .u32 (v0 : Int), .int .i64 l0, .slice A0 n0 c0] #[.int .u32 (v1 : Int), .int .i64 l1, .slice A1 n1 c1] g3 g4 w1 wx))
  case first =>
   go_region
   all_goals
    go_wp2_with fail
    go_meet
    first
     | exact ⟨_, _, rfl, rfl, two3_new _ _ w1⟩
     | exact ⟨_, _, rfl, rfl, two3_swap _ _ w1⟩
  case rest =>
   clear a0 a1 a4 a5 a6 a7 a8 a9 a10
   obtain ⟨g3, g4, rfl, rfl, hz⟩ := hcut
   obtain ⟨z1, z2, hbx⟩ := hz.out
   have Z2 := Lib.hid z2
   have HBX := Lib.hid hbx
   have HXC := Lib.hid ((hbx.block w.heap.size hlt).trans HX1.out)
   have L4 : Hid (g4 < wc.heap.size) := (Array.getElem?_eq_some_iff.1 z2).1
   have LW : Hid (w.heap.size < wc.heap.size) := Nat.lt_of_lt_of_le hlt hbx.size
   have HBW : Hid (Below w.heap.size w wc) := HB1.out.trans (hbx.mono HB1.out.size)
   obtain ⟨x0, x1, x2⟩ := bx3 z1
   clear z1 z2 hbx hz HX1 hlt HB1
   go_wp2_with fail
   refine (filled_any v0 l0 A0 n0 c0 _).mono ?_
   rintro e w2 ⟨rfl, hb2⟩
   clear x0 x1 x2
   obtain ⟨y0, y1, y2⟩ := bx3 ((hb2.block g4 L4.out).trans Z2.out)
   have HB2 : Hid (Below w.heap.size w w2) := HBW.out.trans (hb2.mono HBW.out.size)
   obtain ⟨f1, hf1⟩ : ∃ f1, filledB l0 n0 = f1 := ⟨_, rfl⟩
   rw [hf1] at HR ⊢
   clear hf1
   cases f1 with
   | false =>
    clear y0 y1 y2
    go_wp2_with fail
    go_ret
    exact ⟨by rw [HR.out]; rfl, HB2.out⟩
   | true =>
    go_wp2_with fail
    refine (filled_any v1 l1 A1 n1 c1 _).mono ?_
    rintro e w3 ⟨rfl, hb3⟩
    clear y0 y1 y2
    have hb23 : Below wc.heap.size wc w3 := hb2.trans (hb3.mono hb2.size)
    obtain ⟨y0, y1, y2⟩ := bx3 ((hb23.block g4 L4.out).trans Z2.out)
    obtain ⟨-, a1, -⟩ := bx17 ((hb23.block w.heap.size LW.out).trans HXC.out)
    have HB3 : Hid (Below w.heap.size w w3) := HBW.out.trans (hb23.mono HBW.out.size)
    obtain ⟨f2, hf2⟩ : ∃ f2, filledB l1 n1 = f2 := ⟨_, rfl⟩
    rw [hf2] at HR ⊢
    clear hf2 hb2 hb3 hb23
    cases f2 with
    | true =>
     clear y0 y1 y2 a1
     go_wp2_with fail
     go_ret
     exact ⟨by rw [HR.out]; rfl, HB3.out⟩
    | false =>
     by_cases ht : trial = 0
     ·subst ht
      go_wp2_with fail
      refine (empty_any v1 l1 B n1 c1 A1 h1 _ (HL1.out.below (HB3.out.mono HB.out)) (Nat.le_trans HB.out HB3.out.size)).mono ?_
      rintro e w4 ⟨rfl, hb4⟩
      have HB4 : Hid (Below w.heap.size w w4) := HB3.out.trans (hb4.mono HB3.out.size)
      clear hb4 y0 y1 y2 a1
      go_wp2_with fail
      go_ret
      exact ⟨by rw [HR.out]; rfl, HB4.out⟩
     ·have hne : (trial == 0) = false := by simpa using ht
      have HTT : Hid (decide (trial = 0) = false) := by show _ = _; simpa using ht
      clear ht
      go_wp2_with fail
      go_ret
      exact ⟨by rw [HR.out, HTT.out]; rfl, HB3.out⟩
set_option maxHeartbeats 1600000 in
theorem may_1t (trial : Int) (flo gen v0 : Nat) (l0 : Int) (A0 : Option Addr) (n0 c0 : Nat) (v1 : Nat) (l1 : Int) (A1 : Option Addr) (n1 c1 : Nat) (s v : Nat) (l z p : Int) (A : Option Addr) (n c B : Nat) (h0 h1 h : List UInt8) (w : World)
  (hl0 : Row w B A0 n0 (bv h0)) (hl1 : Row w B A1 n1 (bv h1)) (hl : Row w B A n (bv h)) (hB : B ≤ w.heap.size) (ht0 : 0 ≤ trial) (ht3 : trial ≤ 3) :
  Calls Tryz.prog 19 #[.agg #[.int .i64 1, .int .i64 trial, .int .u32 (flo : Int), .int .u32 (gen : Int), .int .u32 (v0 : Int), .int .i64 l0, .slice A0 n0 c0, .int .u32 (v1 : Int), .int .i64 l1, .slice A1 n1 c1, .bool true, .int .u32 (s : Int), .int .u32 (v : Int), .int .i64 l, .int .i64 z, .int .i64 p, .slice A n c]] w fun e w' => e = .returned (.bool (mayB2 1 trial v0 l0 h0 v1 l1 h1 true s v l z p h)) ∧ Below w.heap.size w w' := by
 have HL0 := Lib.hid hl0
 have HL1 := Lib.hid hl1
 have HL := Lib.hid hl
 have HB := Lib.hid hB
 have HX := Lib.hid (heap_alloc_new w (.cells #[.int .i64 1, .int .i64 trial, .int .u32 (flo : Int), .int .u32 (gen : Int), .int .u32 (v0 : Int), .int .i64 l0, .slice A0 n0 c0, .int .u32 (v1 : Int), .int .i64 l1, .slice A1 n1 c1, .bool true, .int .u32 (s : Int), .int .u32 (v : Int), .int .i64 l, .int .i64 z, .int .i64 p, .slice A n c] 39))
 have HT0 := Lib.hid ht0
 have HT3 := Lib.hid ht3
 have HR : Hid (mayB2 1 trial v0 l0 h0 v1 l1 h1 true s v l z p h = (manB l z p n && (filledB l1 n1 && (filledB l0 n0 || (decide (trial = 0) && emptyB v0 l0 h0))))) := by
  show _ = _
  simp [mayB2, ht0, ht3, hl0.blen, hl1.blen, hl.blen]
 clear hl0 hl1 hl hB
 go_enter Tryz.func19, Tryz.ntmps19
 go_wp2_with fail
 refine (manMay_any s v l z p A n c _).mono ?_
 rintro e w1 ⟨rfl, hb1⟩
 have HM : Hid (manB l z p n = manB l z p n) := rfl
 obtain ⟨q, hq⟩ : ∃ q, manB l z p n = q := ⟨_, rfl⟩
 rw [hq] at HR ⊢
 clear hq HM
 have HB1 : Hid (Below w.heap.size w w1) := ((Below.refl _ _).alloc (Nat.le_refl _) _).trans (hb1.mono (by simp))
 have HX1 := Lib.hid ((hb1.block w.heap.size (by simp)).trans HX.out)
 have hlt : w.heap.size < w1.heap.size := by have := hb1.size; simp at this; omega
 clear hb1 HX
 cases q with
 | false =>
  obtain ⟨a0, a1, a4, a5, a6, a7, a8, a9, a10⟩ := bx17 HX1.out
  clear hlt a0 a1 a4 a5 a6 a7 a8 a9
  go_wp2_with fail
  go_ret
  exact ⟨by rw [HR.out]; rfl, HB1.out⟩
 | true =>
  obtain ⟨a0, a1, a4, a5, a6, a7, a8, a9, a10⟩ := bx17 HX1.out
  go_upto_region 5 with fail
  go_cut [3, 4] (fun s3 s4 wx => ∃ g3 g4 : Nat, s3 = .pointer (some ⟨g3, 0, none⟩) ∧ s4 = .pointer (some ⟨g4, 0, none⟩) ∧ Hid (Two3 #[.int .u32 (v1 : Int), .int .i64 l1, .slice A1 n1 c1] #[.int .u32 (v0 : Int), .int .i64 l0, .slice A0 n0 c0] g3 g4 w1 wx))
  case first =>
   go_region
   all_goals
    go_wp2_with fail
    go_meet
    first
     | exact ⟨_, _, rfl, rfl, two3_new _ _ w1⟩
     | exact ⟨_, _, rfl, rfl, two3_swap _ _ w1⟩
  case rest =>
   clear a0 a1 a4 a5 a6 a7 a8 a9 a10
   obtain ⟨g3, g4, rfl, rfl, hz⟩ := hcut
   obtain ⟨z1, z2, hbx⟩ := hz.out
   have Z2 := Lib.hid z2
   have HBX := Lib.hid hbx
   have HXC := Lib.hid ((hbx.block w.heap.size hlt).trans HX1.out)
   have L4 : Hid (g4 < wc.heap.size) := (Array.getElem?_eq_some_iff.1 z2).1
   have LW : Hid (w.heap.size < wc.heap.size) := Nat.lt_of_lt_of_le hlt hbx.size
   have HBW : Hid (Below w.heap.size w wc) := HB1.out.trans (hbx.mono HB1.out.size)
   obtain ⟨x0, x1, x2⟩ := bx3 z1
   clear z1 z2 hbx hz HX1 hlt HB1
   go_wp2_with fail
   refine (filled_any v1 l1 A1 n1 c1 _).mono ?_
   rintro e w2 ⟨rfl, hb2⟩
   clear x0 x1 x2
   obtain ⟨y0, y1, y2⟩ := bx3 ((hb2.block g4 L4.out).trans Z2.out)
   have HB2 : Hid (Below w.heap.size w w2) := HBW.out.trans (hb2.mono HBW.out.size)
   obtain ⟨f1, hf1⟩ : ∃ f1, filledB l1 n1 = f1 := ⟨_, rfl⟩
   rw [hf1] at HR ⊢
   clear hf1
   cases f1 with
   | false =>
    clear y0 y1 y2
    go_wp2_with fail
    go_ret
    exact ⟨by rw [HR.out]; rfl, HB2.out⟩
   | true =>
    go_wp2_with fail
    refine (filled_any v0 l0 A0 n0 c0 _).mono ?_
    rintro e w3 ⟨rfl, hb3⟩
    clear y0 y1 y2
    have hb23 : Below wc.heap.size wc w3 := hb2.trans (hb3.mono hb2.size)
    obtain ⟨y0, y1, y2⟩ := bx3 ((hb23.block g4 L4.out).trans Z2.out)
    obtain ⟨-, a1, -⟩ := bx17 ((hb23.block w.heap.size LW.out).trans HXC.out)
    have HB3 : Hid (Below w.heap.size w w3) := HBW.out.trans (hb23.mono HBW.out.size)
    obtain ⟨f2, hf2⟩ : ∃ f2, filledB l0 n0 = f2 := ⟨_, rfl⟩
    rw [hf2] at HR ⊢
    clear hf2 hb2 hb3 hb23
    cases f2 with
    | true =>
     clear y0 y1 y2 a1
     go_wp2_with fail
     go_ret
     exact ⟨by rw [HR.out]; rfl, HB3.out⟩
    | false =>
     by_cases ht : trial = 0
     ·subst ht
      go_wp2_with fail
      refine (empty_any v0 l0 B n0 c0 A0 h0 _ (HL0.out.below (HB3.out.mono HB.out)) (Nat.le_trans HB.out HB3.out.size)).mono ?_
      rintro e w4 ⟨rfl, hb4⟩
      have HB4 : Hid (Below w.heap.size w w4) := HB3.out.trans (hb4.mono HB3.out.size)
      clear hb4 y0 y1 y2 a1
      go_wp2_with fail
      go_ret
      exact ⟨by rw [HR.out]; rfl, HB4.out⟩
     ·have hne : (trial == 0) = false := by simpa using ht
      have HTT : Hid (decide (trial = 0) = false) := by show _ = _; simpa using ht
      clear ht
      go_wp2_with fail
      go_ret
      exact ⟨by rw [HR.out, HTT.out]; rfl, HB3.out⟩
set_option maxHeartbeats 1600000 in
theorem may_1f (trial : Int) (flo gen v0 : Nat) (l0 : Int) (A0 : Option Addr) (n0 c0 : Nat) (v1 : Nat) (l1 : Int) (A1 : Option Addr) (n1 c1 : Nat) (s v : Nat) (l z p : Int) (A : Option Addr) (n c B : Nat) (h0 h1 h : List UInt8) (w : World)
  (hl0 : Row w B A0 n0 (bv h0)) (hl1 : Row w B A1 n1 (bv h1)) (hl : Row w B A n (bv h)) (hB : B ≤ w.heap.size) (ht0 : 0 ≤ trial) (ht3 : trial ≤ 3) :
  Calls Tryz.prog 19 #[.agg #[.int .i64 1, .int .i64 trial, .int .u32 (flo : Int), .int .u32 (gen : Int), .int .u32 (v0 : Int), .int .i64 l0, .slice A0 n0 c0, .int .u32 (v1 : Int), .int .i64 l1, .slice A1 n1 c1, .bool false, .int .u32 (s : Int), .int .u32 (v : Int), .int .i64 l, .int .i64 z, .int .i64 p, .slice A n c]] w fun e w' => e = .returned (.bool (mayB2 1 trial v0 l0 h0 v1 l1 h1 false s v l z p h)) ∧ Below w.heap.size w w' := by
 have HL0 := Lib.hid hl0
 have HL1 := Lib.hid hl1
 have HL := Lib.hid hl
 have HB := Lib.hid hB
 have HX := Lib.hid (heap_alloc_new w (.cells #[.int .i64 1, .int .i64 trial, .int .u32 (flo : Int), .int .u32 (gen : Int), .int .u32 (v0 : Int), .int .i64 l0, .slice A0 n0 c0, .int .u32 (v1 : Int), .int .i64 l1, .slice A1 n1 c1, .bool false, .int .u32 (s : Int), .int .u32 (v : Int), .int .i64 l, .int .i64 z, .int .i64 p, .slice A n c] 39))
 have HT0 := Lib.hid ht0
 have HT3 := Lib.hid ht3
 have HR : Hid (mayB2 1 trial v0 l0 h0 v1 l1 h1 false s v l z p h = (decide (s = 0 ∧ v = 0 ∧ l = 0 ∧ z = 0 ∧ p = 0 ∧ h = []) && (filledB l1 n1 && (filledB l0 n0 || (decide (trial = 0) && emptyB v0 l0 h0))))) := by
  show _ = _
  simp [mayB2, ht0, ht3, hl0.blen, hl1.blen]
 clear hl0 hl1 hl hB
 go_enter Tryz.func19, Tryz.ntmps19
 go_wp2_with fail
 refine (manSame_any s v 0 0 l z p 0 0 0 B n c 0 0 A none h [] _ (HL.out.alloc HB.out _) (Row.nil _ _ _) (by simp; have := HB.out; omega)).mono ?_
 rintro e w1 ⟨q, rfl, hq, hb1⟩
 rw [← hq.out] at HR
 clear hq
 have HB1 : Hid (Below w.heap.size w w1) := ((Below.refl _ _).alloc (Nat.le_refl _) _).trans (hb1.mono (by simp))
 have HX1 := Lib.hid ((hb1.block w.heap.size (by simp)).trans HX.out)
 have hlt : w.heap.size < w1.heap.size := by have := hb1.size; simp at this; omega
 clear hb1 HX
 cases q with
 | false =>
  obtain ⟨a0, a1, a4, a5, a6, a7, a8, a9, a10⟩ := bx17 HX1.out
  clear hlt a0 a1 a4 a5 a6 a7 a8 a9
  go_wp2_with fail
  go_ret
  exact ⟨by rw [HR.out]; rfl, HB1.out⟩
 | true =>
  obtain ⟨a0, a1, a4, a5, a6, a7, a8, a9, a10⟩ := bx17 HX1.out
  go_upto_region 5 with fail
  go_cut [3, 4] (fun s3 s4 wx => ∃ g3 g4 : Nat, s3 = .pointer (some ⟨g3, 0, none⟩) ∧ s4 = .pointer (some ⟨g4, 0, none⟩) ∧ Hid (Two3 #[.int .u32 (v1 : Int), .int .i64 l1, .slice A1 n1 c1] #[.int .u32 (v0 : Int), .int .i64 l0, .slice A0 n0 c0] g3 g4 w1 wx))
  case first =>
   go_region
   all_goals
    go_wp2_with fail
    go_meet
    first
     | exact ⟨_, _, rfl, rfl, two3_new _ _ w1⟩
     | exact ⟨_, _, rfl, rfl, two3_swap _ _ w1⟩
  case rest =>
   clear a0 a1 a4 a5 a6 a7 a8 a9 a10
   obtain ⟨g3, g4, rfl, rfl, hz⟩ := hcut
   obtain ⟨z1, z2, hbx⟩ := hz.out
   have Z2 := Lib.hid z2
   have HBX := Lib.hid hbx
   have HXC := Lib.hid ((hbx.block w.heap.size hlt).trans HX1.out)
   have L4 : Hid (g4 < wc.heap.size) := (Array.getElem?_eq_some_iff.1 z2).1
   have LW : Hid (w.heap.size < wc.heap.size) := Nat.lt_of_lt_of_le hlt hbx.size
   have HBW : Hid (Below w.heap.size w wc) := HB1.out.trans (hbx.mono HB1.out.size)
   obtain ⟨x0, x1, x2⟩ := bx3 z1
   clear z1 z2 hbx hz HX1 hlt HB1
   go_wp2_with fail
   refine (filled_any v1 l1 A1 n1 c1 _).mono ?_
   rintro e w2 ⟨rfl, hb2⟩
   clear x0 x1 x2
   obtain ⟨y0, y1, y2⟩ := bx3 ((hb2.block g4 L4.out).trans Z2.out)
   have HB2 : Hid (Below w.heap.size w w2) := HBW.out.trans (hb2.mono HBW.out.size)
   obtain ⟨f1, hf1⟩ : ∃ f1, filledB l1 n1 = f1 := ⟨_, rfl⟩
   rw [hf1] at HR ⊢
   clear hf1
   cases f1 with
   | false =>
    clear y0 y1 y2
    go_wp2_with fail
    go_ret
    exact ⟨by rw [HR.out]; rfl, HB2.out⟩
   | true =>
    go_wp2_with fail
    refine (filled_any v0 l0 A0 n0 c0 _).mono ?_
    rintro e w3 ⟨rfl, hb3⟩
    clear y0 y1 y2
    have hb23 : Below wc.heap.size wc w3 := hb2.trans (hb3.mono hb2.size)
    obtain ⟨y0, y1, y2⟩ := bx3 ((hb23.block g4 L4.out).trans Z2.out)
    obtain ⟨-, a1, -⟩ := bx17 ((hb23.block w.heap.size LW.out).trans HXC.out)
    have HB3 : Hid (Below w.heap.size w w3) := HBW.out.trans (hb23.mono HBW.out.size)
    obtain ⟨f2, hf2⟩ : ∃ f2, filledB l0 n0 = f2 := ⟨_, rfl⟩
    rw [hf2] at HR ⊢
    clear hf2 hb2 hb3 hb23
    cases f2 with
    | true =>
     clear y0 y1 y2 a1
     go_wp2_with fail
     go_ret
     exact ⟨by rw [HR.out]; rfl, HB3.out⟩
    | false =>
     by_cases ht : trial = 0
     ·subst ht
      go_wp2_with fail
      refine (empty_any v0 l0 B n0 c0 A0 h0 _ (HL0.out.below (HB3.out.mono HB.out)) (Nat.le_trans HB.out HB3.out.size)).mono ?_
      rintro e w4 ⟨rfl, hb4⟩
      have HB4 : Hid (Below w.heap.size w w4) := HB3.out.trans (hb4.mono HB3.out.size)
      clear hb4 y0 y1 y2 a1
      go_wp2_with fail
      go_ret
      exact ⟨by rw [HR.out]; rfl, HB4.out⟩
     ·have hne : (trial == 0) = false := by simpa using ht
      have HTT : Hid (decide (trial = 0) = false) := by show _ = _; simpa using ht
      clear ht
      go_wp2_with fail
      go_ret
      exact ⟨by rw [HR.out, HTT.out]; rfl, HB3.out⟩
set_option maxHeartbeats 400000 in
theorem may_act (act trial : Int) (flo gen v0 : Nat) (l0 : Int) (A0 : Option Addr) (n0 c0 : Nat) (v1 : Nat) (l1 : Int) (A1 : Option Addr) (n1 c1 : Nat) (on : Bool) (s v : Nat) (l z p : Int) (A : Option Addr) (n c : Nat) (h0 h1 h : List UInt8) (w : World) (hbad : act ≠ 0 ∧ act ≠ 1) :
  Calls Tryz.prog 19 #[.agg #[.int .i64 act, .int .i64 trial, .int .u32 (flo : Int), .int .u32 (gen : Int), .int .u32 (v0 : Int), .int .i64 l0, .slice A0 n0 c0, .int .u32 (v1 : Int), .int .i64 l1, .slice A1 n1 c1, .bool on, .int .u32 (s : Int), .int .u32 (v : Int), .int .i64 l, .int .i64 z, .int .i64 p, .slice A n c]] w fun e w' => e = .returned (.bool (mayB2 act trial v0 l0 h0 v1 l1 h1 on s v l z p h)) ∧ Below w.heap.size w w' := by
 have HR : Hid (mayB2 act trial v0 l0 h0 v1 l1 h1 on s v l z p h = false) := by
  show _ = _
  have : ¬ (act = 0 ∨ act = 1) := by omega
  simp [mayB2, this]
 have b0 : (act != 0) = true := by simp; omega
 have b1 : (act != 1) = true := by simp; omega
 have b2 : (act == 0) = false := by simp; omega
 have b3 : (act == 1) = false := by simp; omega
 go_enter Tryz.func19, Tryz.ntmps19
 go_wp2_with fail
 all_goals (go_ret; exact ⟨by rw [HR.out]; rfl, (Below.refl _ _).alloc (Nat.le_refl _) _⟩)
set_option maxHeartbeats 400000 in
theorem may_low (act trial : Int) (flo gen v0 : Nat) (l0 : Int) (A0 : Option Addr) (n0 c0 : Nat) (v1 : Nat) (l1 : Int) (A1 : Option Addr) (n1 c1 : Nat) (on : Bool) (s v : Nat) (l z p : Int) (A : Option Addr) (n c : Nat) (h0 h1 h : List UInt8) (w : World) (hbad : trial < 0) :
  Calls Tryz.prog 19 #[.agg #[.int .i64 act, .int .i64 trial, .int .u32 (flo : Int), .int .u32 (gen : Int), .int .u32 (v0 : Int), .int .i64 l0, .slice A0 n0 c0, .int .u32 (v1 : Int), .int .i64 l1, .slice A1 n1 c1, .bool on, .int .u32 (s : Int), .int .u32 (v : Int), .int .i64 l, .int .i64 z, .int .i64 p, .slice A n c]] w fun e w' => e = .returned (.bool (mayB2 act trial v0 l0 h0 v1 l1 h1 on s v l z p h)) ∧ Below w.heap.size w w' := by
 have HR : Hid (mayB2 act trial v0 l0 h0 v1 l1 h1 on s v l z p h = false) := by
  show _ = _
  have : ¬ (0 ≤ trial) := by omega
  simp [mayB2, this]
 go_enter Tryz.func19, Tryz.ntmps19
 go_wp2_with fail
 all_goals (go_ret; exact ⟨by rw [HR.out]; rfl, (Below.refl _ _).alloc (Nat.le_refl _) _⟩)
set_option maxHeartbeats 400000 in
theorem may_high (act trial : Int) (flo gen v0 : Nat) (l0 : Int) (A0 : Option Addr) (n0 c0 : Nat) (v1 : Nat) (l1 : Int) (A1 : Option Addr) (n1 c1 : Nat) (on : Bool) (s v : Nat) (l z p : Int) (A : Option Addr) (n c : Nat) (h0 h1 h : List UInt8) (w : World) (hbad : 3 < trial) :
  Calls Tryz.prog 19 #[.agg #[.int .i64 act, .int .i64 trial, .int .u32 (flo : Int), .int .u32 (gen : Int), .int .u32 (v0 : Int), .int .i64 l0, .slice A0 n0 c0, .int .u32 (v1 : Int), .int .i64 l1, .slice A1 n1 c1, .bool on, .int .u32 (s : Int), .int .u32 (v : Int), .int .i64 l, .int .i64 z, .int .i64 p, .slice A n c]] w fun e w' => e = .returned (.bool (mayB2 act trial v0 l0 h0 v1 l1 h1 on s v l z p h)) ∧ Below w.heap.size w w' := by
 have HR : Hid (mayB2 act trial v0 l0 h0 v1 l1 h1 on s v l z p h = false) := by
  show _ = _
  have : ¬ (trial ≤ 3) := by omega
  simp [mayB2, this]
 go_enter Tryz.func19, Tryz.ntmps19
 go_wp2_with fail
 all_goals (go_ret; exact ⟨by rw [HR.out]; rfl, (Below.refl _ _).alloc (Nat.le_refl _) _⟩)
theorem may_any (act trial : Int) (flo gen v0 : Nat) (l0 : Int) (A0 : Option Addr) (n0 c0 : Nat) (v1 : Nat) (l1 : Int) (A1 : Option Addr) (n1 c1 : Nat) (on : Bool) (s v : Nat) (l z p : Int) (A : Option Addr) (n c B : Nat) (h0 h1 h : List UInt8) (w : World) (hl0 : Row w B A0 n0 (bv h0)) (hl1 : Row w B A1 n1 (bv h1)) (hl : Row w B A n (bv h)) (hB : B ≤ w.heap.size) :
  Calls Tryz.prog 19 #[.agg #[.int .i64 act, .int .i64 trial, .int .u32 (flo : Int), .int .u32 (gen : Int), .int .u32 (v0 : Int), .int .i64 l0, .slice A0 n0 c0, .int .u32 (v1 : Int), .int .i64 l1, .slice A1 n1 c1, .bool on, .int .u32 (s : Int), .int .u32 (v : Int), .int .i64 l, .int .i64 z, .int .i64 p, .slice A n c]] w fun e w' => e = .returned (.bool (mayB2 act trial v0 l0 h0 v1 l1 h1 on s v l z p h)) ∧ Below w.heap.size w w' := by
 by_cases ha : act ≠ 0 ∧ act ≠ 1
 ·exact may_act act trial flo gen v0 l0 A0 n0 c0 v1 l1 A1 n1 c1 on s v l z p A n c h0 h1 h w ha
 by_cases h3 : 3 < trial
 ·exact may_high act trial flo gen v0 l0 A0 n0 c0 v1 l1 A1 n1 c1 on s v l z p A n c h0 h1 h w h3
 by_cases h4 : trial < 0
 ·exact may_low act trial flo gen v0 l0 A0 n0 c0 v1 l1 A1 n1 c1 on s v l z p A n c h0 h1 h w h4
 rcases (by omega : act = 0 ∨ act = 1) with rfl | rfl <;> cases on
 ·exact may_0f trial flo gen v0 l0 A0 n0 c0 v1 l1 A1 n1 c1 s v l z p A n c B h0 h1 h w hl0 hl1 hl hB (by omega) (by omega)
 ·exact may_0t trial flo gen v0 l0 A0 n0 c0 v1 l1 A1 n1 c1 s v l z p A n c B h0 h1 h w hl0 hl1 hl hB (by omega) (by omega)
 ·exact may_1f trial flo gen v0 l0 A0 n0 c0 v1 l1 A1 n1 c1 s v l z p A n c B h0 h1 h w hl0 hl1 hl hB (by omega) (by omega)
 ·exact may_1t trial flo gen v0 l0 A0 n0 c0 v1 l1 A1 n1 c1 s v l z p A n c B h0 h1 h w hl0 hl1 hl hB (by omega) (by omega)
end Go.Proofs.YtmncpgfdpcckpaaGreatDoor
namespace Go.Proofs.YtmncpgfdpcckpaaGreatDoor
open Go.RowKit
def newB (may : Bool) (act : Int) (flo v0 v1 : Nat) (on : Bool) (v ver : Nat) : Bool :=
 may && decide (flo < ver) && decide ((if act = 0 then v0 else v1) < ver) && (!on || decide (v < ver))
theorem bx17n {w : World} {g : Nat} {t : TypeId} {a0 a1 a2 a3 a4 a5 a6 a7 a8 a9 a10 a11 a12 a13 a14 a15 a16 : Value} (h : w.heap[g]? = some (.cells #[a0, a1, a2, a3, a4, a5, a6, a7, a8, a9, a10, a11, a12, a13, a14, a15, a16] t (0, 0))) :
  w.cell? ⟨g, 0, none⟩ = some a0 ∧ w.cell? ⟨g, 2, none⟩ = some a2 ∧ w.cell? ⟨g, 4, none⟩ = some a4 ∧ w.cell? ⟨g, 7, none⟩ = some a7 ∧ w.cell? ⟨g, 10, none⟩ = some a10 ∧ w.cell? ⟨g, 12, none⟩ = some a12 := by
 refine ⟨?_, ?_, ?_, ?_, ?_, ?_⟩ <;> rw [cell_of_row w g _ _ t (0, 0) h] <;> rfl
theorem may_act_of (act trial : Int) (_flo _gen v0 : Nat) (l0 : Int) (_A0 : Option Addr) (_n0 _c0 : Nat) (v1 : Nat) (l1 : Int) (_A1 : Option Addr) (_n1 _c1 : Nat) (on : Bool) (s v : Nat) (l z p : Int) (_A : Option Addr) (_n _c _B : Nat) (h0 h1 h : List UInt8) (h' : mayB2 act trial v0 l0 h0 v1 l1 h1 on s v l z p h = true) : act = 0 ∨ act = 1 := by
 simp only [mayB2, Bool.and_eq_true, decide_eq_true_eq] at h'
 exact h'.1.1.1
set_option maxHeartbeats 1600000 in
theorem newer_any (act trial : Int) (flo gen v0 : Nat) (l0 : Int) (A0 : Option Addr) (n0 c0 : Nat) (v1 : Nat) (l1 : Int) (A1 : Option Addr) (n1 c1 : Nat) (on : Bool) (s v : Nat) (l z p : Int) (A : Option Addr) (n c B : Nat) (h0 h1 h : List UInt8) (ver : Nat) (w : World) (hl0 : Row w B A0 n0 (bv h0)) (hl1 : Row w B A1 n1 (bv h1)) (hl : Row w B A n (bv h)) (hB : B ≤ w.heap.size) :
  Calls Tryz.prog 64 #[.agg #[.int .i64 act, .int .i64 trial, .int .u32 (flo : Int), .int .u32 (gen : Int), .int .u32 (v0 : Int), .int .i64 l0, .slice A0 n0 c0, .int .u32 (v1 : Int), .int .i64 l1, .slice A1 n1 c1, .bool on, .int .u32 (s : Int), .int .u32 (v : Int), .int .i64 l, .int .i64 z, .int .i64 p, .slice A n c], .int .u32 (ver : Int)] w fun e w' => e = .returned (.bool (newB (mayB2 act trial v0 l0 h0 v1 l1 h1 on s v l z p h) act flo v0 v1 on v ver)) ∧ Below w.heap.size w w' := by
 have HX := Lib.hid (heap_alloc_new w (.cells #[.int .i64 act, .int .i64 trial, .int .u32 (flo : Int), .int .u32 (gen : Int), .int .u32 (v0 : Int), .int .i64 l0, .slice A0 n0 c0, .int .u32 (v1 : Int), .int .i64 l1, .slice A1 n1 c1, .bool on, .int .u32 (s : Int), .int .u32 (v : Int), .int .i64 l, .int .i64 z, .int .i64 p, .slice A n c] 39))
 have CM := Lib.hid (may_any act trial flo gen v0 l0 A0 n0 c0 v1 l1 A1 n1 c1 on s v l z p A n c B h0 h1 h (w.alloc (.cells #[.int .i64 act, .int .i64 trial, .int .u32 (flo : Int), .int .u32 (gen : Int), .int .u32 (v0 : Int), .int .i64 l0, .slice A0 n0 c0, .int .u32 (v1 : Int), .int .i64 l1, .slice A1 n1 c1, .bool on, .int .u32 (s : Int), .int .u32 (v : Int), .int .i64 l, .int .i64 z, .int .i64 p, .slice A n c] 39)) (hl0.alloc hB _) (hl1.alloc hB _) (hl.alloc hB _) (by simp; omega))
 have HA : Hid (mayB2 act trial v0 l0 h0 v1 l1 h1 on s v l z p h = true → act = 0 ∨ act = 1) := may_act_of act trial flo gen v0 l0 A0 n0 c0 v1 l1 A1 n1 c1 on s v l z p A n c B h0 h1 h
 clear hl0 hl1 hl hB
 generalize mayB2 act trial v0 l0 h0 v1 l1 h1 on s v l z p h = m at *
 go_enter Tryz.func64, Tryz.ntmps64
 go_wp2_with fail
 refine CM.out.mono ?_
 rintro e w1 ⟨rfl, hb1⟩
 have HB1 : Hid (Below w.heap.size w w1) := ((Below.refl _ _).alloc (Nat.le_refl _) _).trans (hb1.mono (by simp))
 have HX1 := Lib.hid ((hb1.block w.heap.size (by simp)).trans HX.out)
 clear hb1 HX CM
 cases m with
 | false =>
  clear HX1 HA
  go_wp2_with fail
  go_ret
  exact ⟨by simp [newB], HB1.out⟩
 | true =>
  obtain ⟨a0, a2, a4, a7, a10, a12⟩ := bx17n HX1.out
  clear HX1
  rcases HA.out rfl with rfl | rfl <;> cases on
  all_goals
   go_wp2_with fail
   all_goals (go_ret; exact ⟨by simp [newB, *] <;> omega, HB1.out⟩)
end Go.Proofs.YtmncpgfdpcckpaaGreatDoor
namespace Go.Proofs.YtmncpgfdpcckpaaGreatDoor
open Go.RowKit
def RowX (w : World) (g : Nat) (f : Bool) (A : Option Addr) (n : Nat) (xs : List Value) : Prop :=
 xs.length = n ∧ (0 < n → ∃ b o, A = some ⟨b, o, none⟩ ∧ b < w.heap.size ∧ b ≠ g ∧ b ≠ g + 1 ∧ (f = true → g + 1 < b) ∧ ∀ j v, xs[j]? = some v → w.cell? ⟨b, o + j, none⟩ = some v)
def RowF (w : World) (B : Nat) (A : Option Addr) (n : Nat) (xs : List Value) : Prop :=
 xs.length = n ∧ (0 < n → ∃ b o, A = some ⟨b, o, none⟩ ∧ b < w.heap.size ∧ B ≤ b ∧ ∀ j v, xs[j]? = some v → w.cell? ⟨b, o + j, none⟩ = some v)
section
variable {w w' : World} {g n B : Nat} {f : Bool} {A : Option Addr} {xs : List Value}
theorem RowF.keep (h : RowF w B A n xs) (hs : w.heap.size ≤ w'.heap.size) (hk : ∀ b, B ≤ b → b < w.heap.size → w'.heap[b]? = w.heap[b]?) : RowF w' B A n xs :=
 ⟨h.1, fun hn => by
  obtain ⟨b, o, e, hlt, h1, hc⟩ := h.2 hn
  exact ⟨b, o, e, Nat.lt_of_lt_of_le hlt hs, h1, fun j v hv => (World.cell?_of_block (a := ⟨b, o + j, none⟩) (hk b h1 hlt)).trans (hc j v hv)⟩⟩
theorem RowF.less {B' : Nat} (h : RowF w B A n xs) (hB : B' ≤ B) : RowF w B' A n xs :=
 ⟨h.1, fun hn => by obtain ⟨b, o, e, hb, h1, hc⟩ := h.2 hn; exact ⟨b, o, e, hb, Nat.le_trans hB h1, hc⟩⟩
theorem RowX.row (h : RowX w g f A n xs) : Row w w.heap.size A n xs :=
 ⟨h.1, fun hn => by obtain ⟨b, o, e, hb, _, _, _, hc⟩ := h.2 hn; exact ⟨b, o, e, hb, hc⟩⟩
theorem RowX.rowF (h : RowX w g true A n xs) : RowF w g A n xs :=
 ⟨h.1, fun hn => by obtain ⟨b, o, e, hb, _, _, hf, hc⟩ := h.2 hn; exact ⟨b, o, e, hb, by have := hf rfl; omega, hc⟩⟩
theorem RowX.of_row {B : Nat} (h : Row w B A n xs) (hB : B ≤ g) (hs : B ≤ w.heap.size) : RowX w g false A n xs :=
 ⟨h.1, fun hn => by obtain ⟨b, o, e, hb, hc⟩ := h.2 hn; exact ⟨b, o, e, by omega, by omega, by omega, by simp, hc⟩⟩
theorem RowX.of_own {base c : Nat} {e : TypeId} (h : w.ownsRow base e 1 (.slice A n c) n xs) (hb : g + 1 < base) : RowX w g f A n xs := by
 refine ⟨(Row.of_own h).1, fun hn => ?_⟩
 obtain ⟨b, o, ee, hlt, hc⟩ := (Row.of_own h).2 hn
 have := (h.lt b (by rw [ee]; rfl)).1
 exact ⟨b, o, ee, hlt, by omega, by omega, fun _ => by omega, hc⟩
theorem RowX.below (h : RowX w g f A n xs) (hb : Below w.heap.size w w') : RowX w' g f A n xs :=
 ⟨h.1, fun hn => by
  obtain ⟨b, o, e, hlt, h1, h2, h3, hc⟩ := h.2 hn
  exact ⟨b, o, e, Nat.lt_of_lt_of_le hlt hb.size, h1, h2, h3, fun j v hv => (hb.cell (p := ⟨b, o + j, none⟩) hlt).trans (hc j v hv)⟩⟩
theorem RowX.keep (h : RowX w g f A n xs) (hs : w.heap.size ≤ w'.heap.size) (hk : ∀ b, b ≠ g → b ≠ g + 1 → w'.heap[b]? = w.heap[b]?) : RowX w' g f A n xs :=
 ⟨h.1, fun hn => by
  obtain ⟨b, o, e, hlt, h1, h2, h3, hc⟩ := h.2 hn
  exact ⟨b, o, e, Nat.lt_of_lt_of_le hlt hs, h1, h2, h3, fun j v hv => (World.cell?_of_block (a := ⟨b, o + j, none⟩) (hk b h1 h2)).trans (hc j v hv)⟩⟩
theorem RowX.setG (h : RowX w g f A n xs) (i : Nat) (u : Value) : RowX (w.setCell ⟨g, i, none⟩ u) g f A n xs :=
 h.keep (by simp) fun b h1 _ => heap_setCell_other w ⟨g, i, none⟩ b u h1
theorem RowX.set2 (h : RowX w g f A n xs) (cs : Array Value) : RowX (w.setRow (g + 1) cs) g f A n xs :=
 h.keep (by simp) fun b _ h2 => setRow_other w (g + 1) b cs h2
end
def StBox (g k : Nat) (act trial : Int) (flo gen v0 : Nat) (l0 : Int) (n0 : Nat) (v1 : Nat) (l1 : Int) (n1 : Nat) (on : Bool) (s v : Nat) (l z p : Int) (n : Nat) (h0 h1 h : List UInt8) (w : World) : Prop :=
 ∃ A0' c0' A1' c1' A' c', w.heap[g]? = some (.cells #[.int .i64 act, .int .i64 trial, .int .u32 (flo : Int), .int .u32 (gen : Int), .int .u32 (v0 : Int), .int .i64 l0, .slice A0' n0 c0', .int .u32 (v1 : Int), .int .i64 l1, .slice A1' n1 c1', .bool on, .int .u32 (s : Int), .int .u32 (v : Int), .int .i64 l, .int .i64 z, .int .i64 p, .slice A' n c'] 39 (0, 0)) ∧ RowX w g (decide (0 < k)) A0' n0 (bv h0) ∧ RowX w g (decide (1 < k)) A1' n1 (bv h1) ∧ RowX w g false A' n (bv h)
def StRet (act trial : Int) (flo gen v0 : Nat) (l0 : Int) (n0 : Nat) (v1 : Nat) (l1 : Int) (n1 : Nat) (on : Bool) (s v : Nat) (l z p : Int) (n : Nat) (h0 h1 h : List UInt8) (w : World) (e : Ending) (w' : World) : Prop :=
 ∃ A0' c0' A1' c1' A' c', e = .returned (.agg #[.int .i64 act, .int .i64 trial, .int .u32 (flo : Int), .int .u32 (gen : Int), .int .u32 (v0 : Int), .int .i64 l0, .slice A0' n0 c0', .int .u32 (v1 : Int), .int .i64 l1, .slice A1' n1 c1', .bool on, .int .u32 (s : Int), .int .u32 (v : Int), .int .i64 l, .int .i64 z, .int .i64 p, .slice A' n c']) ∧ Hid (RowF w' w.heap.size A0' n0 (bv h0)) ∧ Hid (RowF w' w.heap.size A1' n1 (bv h1)) ∧ Hid (RowF w' w.heap.size A' n (bv h)) ∧ Hid (Below w.heap.size w w')
def zState : Array Value := #[.int .i64 0, .int .i64 0, .int .u32 0, .int .u32 0, .int .u32 0, .int .i64 0, .slice none 0 0, .int .u32 0, .int .i64 0, .slice none 0 0, .bool false, .int .u32 0, .int .u32 0, .int .i64 0, .int .i64 0, .int .i64 0, .slice none 0 0]
theorem below_setRow2 {B g : Nat} {w w' : World} (h : Below B w w') (hg : B ≤ g) (cs : Array Value) : Below B w (w'.setRow g cs) :=
 ⟨h.os, h.tape, h.output, by simpa using h.size, fun k hk => (setRow_other w' g k cs (by omega)).trans (h.block k hk)⟩
def OwnA (k : Nat) (act trial : Int) (flo gen v0 : Nat) (l0 : Int) (n0 : Nat) (v1 : Nat) (l1 : Int) (n1 : Nat) (on : Bool) (s v : Nat) (l z p : Int) (n : Nat) (h0 h1 h : List UInt8) (w wr : World) : Prop := StBox w.heap.size k act trial flo gen v0 l0 n0 v1 l1 n1 on s v l z p n h0 h1 h wr ∧ wr.heap[w.heap.size + 1]? = some (.cells zState 39 (0, 0)) ∧ Below w.heap.size w wr
set_option maxHeartbeats 1600000 in
theorem own_any (act trial : Int) (flo gen v0 : Nat) (l0 : Int) (A0 : Option Addr) (n0 c0 : Nat) (v1 : Nat) (l1 : Int) (A1 : Option Addr) (n1 c1 : Nat) (on : Bool) (s v : Nat) (l z p : Int) (A : Option Addr) (n c B : Nat) (h0 h1 h : List UInt8) (w : World) (hl0 : Row w B A0 n0 (bv h0)) (hl1 : Row w B A1 n1 (bv h1)) (hl : Row w B A n (bv h)) (hB : B ≤ w.heap.size) (hn0 : n0 ≤ 1000000000) (hn1 : n1 ≤ 1000000000) (hn : n ≤ 1000000000) :
  Calls Tryz.prog 49 #[.agg #[.int .i64 act, .int .i64 trial, .int .u32 (flo : Int), .int .u32 (gen : Int), .int .u32 (v0 : Int), .int .i64 l0, .slice A0 n0 c0, .int .u32 (v1 : Int), .int .i64 l1, .slice A1 n1 c1, .bool on, .int .u32 (s : Int), .int .u32 (v : Int), .int .i64 l, .int .i64 z, .int .i64 p, .slice A n c]] w (StRet act trial flo gen v0 l0 n0 v1 l1 n1 on s v l z p n h0 h1 h w) := by
 have HX := Lib.hid (heap_alloc2_old w (.cells #[.int .i64 act, .int .i64 trial, .int .u32 (flo : Int), .int .u32 (gen : Int), .int .u32 (v0 : Int), .int .i64 l0, .slice A0 n0 c0, .int .u32 (v1 : Int), .int .i64 l1, .slice A1 n1 c1, .bool on, .int .u32 (s : Int), .int .u32 (v : Int), .int .i64 l, .int .i64 z, .int .i64 p, .slice A n c] 39) (.cells zState 39))
 have HY := Lib.hid (heap_alloc2_new w (.cells #[.int .i64 act, .int .i64 trial, .int .u32 (flo : Int), .int .u32 (gen : Int), .int .u32 (v0 : Int), .int .i64 l0, .slice A0 n0 c0, .int .u32 (v1 : Int), .int .i64 l1, .slice A1 n1 c1, .bool on, .int .u32 (s : Int), .int .u32 (v : Int), .int .i64 l, .int .i64 z, .int .i64 p, .slice A n c] 39) (.cells zState 39))
 have hA0 : Hid (OwnA 0 act trial flo gen v0 l0 n0 v1 l1 n1 on s v l z p n h0 h1 h w ((w.alloc (.cells #[.int .i64 act, .int .i64 trial, .int .u32 (flo : Int), .int .u32 (gen : Int), .int .u32 (v0 : Int), .int .i64 l0, .slice A0 n0 c0, .int .u32 (v1 : Int), .int .i64 l1, .slice A1 n1 c1, .bool on, .int .u32 (s : Int), .int .u32 (v : Int), .int .i64 l, .int .i64 z, .int .i64 p, .slice A n c] 39)).alloc (.cells zState 39))) := by
  have hb : Below w.heap.size w ((w.alloc (.cells #[.int .i64 act, .int .i64 trial, .int .u32 (flo : Int), .int .u32 (gen : Int), .int .u32 (v0 : Int), .int .i64 l0, .slice A0 n0 c0, .int .u32 (v1 : Int), .int .i64 l1, .slice A1 n1 c1, .bool on, .int .u32 (s : Int), .int .u32 (v : Int), .int .i64 l, .int .i64 z, .int .i64 p, .slice A n c] 39)).alloc (.cells zState 39)) := ((Below.refl _ _).alloc (Nat.le_refl _) _).alloc (by simp) _
  have hz : B ≤ ((w.alloc (.cells #[.int .i64 act, .int .i64 trial, .int .u32 (flo : Int), .int .u32 (gen : Int), .int .u32 (v0 : Int), .int .i64 l0, .slice A0 n0 c0, .int .u32 (v1 : Int), .int .i64 l1, .slice A1 n1 c1, .bool on, .int .u32 (s : Int), .int .u32 (v : Int), .int .i64 l, .int .i64 z, .int .i64 p, .slice A n c] 39)).alloc (.cells zState 39)).heap.size := Nat.le_trans hB hb.size
  exact ⟨⟨A0, c0, A1, c1, A, c, HX.out, .of_row (hl0.below (hb.mono hB)) hB hz, .of_row (hl1.below (hb.mono hB)) hB hz, .of_row (hl.below (hb.mono hB)) hB hz⟩, HY.out, hb⟩
 clear hl0 hl1 hl hB HX HY
 go_enter Tryz.func49, Tryz.ntmps49
 go_wp2_with fail
 go_loopw [4] (fun i wr => ∃ k : Nat, k ≤ 2 ∧ i = .int .i64 k ∧ Hid (OwnA k act trial flo gen v0 l0 n0 v1 l1 n1 on s v l z p n h0 h1 h w wr)) (fun i _ => 2 - (intOf i).toNat)
 case atStart => exact ⟨0, by omega, rfl, hA0⟩
 case round =>
  obtain ⟨k, hk, rfl, hd⟩ := hrel
  clear hA0
  obtain ⟨⟨A0', c0', A1', c1', A', c', hx, r0, r1, r2⟩, hy, hb⟩ := hd.out
  have HX := Lib.hid hx
  have HY := Lib.hid hy
  have HB := Lib.hid hb
  have R0 := Lib.hid r0
  have R1 := Lib.hid r1
  have R2 := Lib.hid r2
  have LG : Hid (w.heap.size + 1 < wr.heap.size) := (Array.getElem?_eq_some_iff.1 hy).1
  clear hx hy hb r0 r1 r2 hd
  rcases (by omega : k = 0 ∨ k = 1 ∨ k = 2) with rfl | rfl | rfl
  ·have c1x := cell_of_row wr w.heap.size 6 _ _ (0, 0) HX.out
   have f1x := frozen_of_row wr w.heap.size 6 _ _ HX.out
   go_wp2_with fail
   refine (clone_any wr.heap.size n0 c0' A0' h0 wr R0.out.row (by omega) (Nat.le_refl _)).mono ?_
   rintro e w2 ⟨AN, nn, cN, rfl, hnn, hown, hb2⟩
   have hn2 : nn = n0 := by rw [hnn]; exact R0.out.row.blen
   subst hn2
   clear c1x f1x
   have c2x := cell_of_row w2 w.heap.size 6 _ _ (0, 0) ((hb2.block w.heap.size (by have := LG.out; omega)).trans HX.out)
   have f2x := frozen_of_row w2 w.heap.size 6 _ _ ((hb2.block w.heap.size (by have := LG.out; omega)).trans HX.out)
   have hD : Hid (OwnA 1 act trial flo gen v0 l0 nn v1 l1 n1 on s v l z p n h0 h1 h w (w2.setCell ⟨w.heap.size, 6, none⟩ (.slice AN nn cN))) := by
    refine ⟨⟨AN, cN, A1', c1', A', c', heap_setCell_same w2 w.heap.size 6 _ _ _ ((hb2.block w.heap.size (by have := LG.out; omega)).trans HX.out), (RowX.of_own hown (by have := LG.out; omega)).setG _ _, (R1.out.below hb2).setG _ _, (R2.out.below hb2).setG _ _⟩, ?_, ?_⟩
    ·exact (heap_setCell_other _ _ _ _ (by show w.heap.size + 1 ≠ w.heap.size; omega)).trans ((hb2.block (w.heap.size + 1) LG.out).trans HY.out)
    ·exact (HB.out.trans (hb2.mono HB.out.size)).setCell (Nat.le_refl _) _
   clear hown hb2 hnn
   go_wp2_with fail
   go_roundw
   case rel => exact ⟨1, by omega, by go_num, hD⟩
   case measure => simp [intOf]
  ·have c1x := cell_of_row wr w.heap.size 9 _ _ (0, 0) HX.out
   have f1x := frozen_of_row wr w.heap.size 9 _ _ HX.out
   go_wp2_with fail
   refine (clone_any wr.heap.size n1 c1' A1' h1 wr R1.out.row (by omega) (Nat.le_refl _)).mono ?_
   rintro e w2 ⟨AN, nn, cN, rfl, hnn, hown, hb2⟩
   have hn2 : nn = n1 := by rw [hnn]; exact R1.out.row.blen
   subst hn2
   clear c1x f1x
   have c2x := cell_of_row w2 w.heap.size 9 _ _ (0, 0) ((hb2.block w.heap.size (by have := LG.out; omega)).trans HX.out)
   have f2x := frozen_of_row w2 w.heap.size 9 _ _ ((hb2.block w.heap.size (by have := LG.out; omega)).trans HX.out)
   have hD : Hid (OwnA 2 act trial flo gen v0 l0 n0 v1 l1 nn on s v l z p n h0 h1 h w (w2.setCell ⟨w.heap.size, 9, none⟩ (.slice AN nn cN))) := by
    refine ⟨⟨A0', c0', AN, cN, A', c', heap_setCell_same w2 w.heap.size 9 _ _ _ ((hb2.block w.heap.size (by have := LG.out; omega)).trans HX.out), (R0.out.below hb2).setG _ _, (RowX.of_own hown (by have := LG.out; omega)).setG _ _, (R2.out.below hb2).setG _ _⟩, ?_, ?_⟩
    ·exact (heap_setCell_other _ _ _ _ (by show w.heap.size + 1 ≠ w.heap.size; omega)).trans ((hb2.block (w.heap.size + 1) LG.out).trans HY.out)
    ·exact (HB.out.trans (hb2.mono HB.out.size)).setCell (Nat.le_refl _) _
   clear hown hb2 hnn
   go_wp2_with fail
   go_roundw
   case rel => exact ⟨2, by omega, by go_num, hD⟩
   case measure => simp [intOf]
  ·have c1x := cell_of_row wr w.heap.size 16 _ _ (0, 0) HX.out
   have f1x := frozen_of_row wr w.heap.size 16 _ _ HX.out
   go_wp2_with fail
   refine (clone_any wr.heap.size n c' A' h wr R2.out.row (by omega) (Nat.le_refl _)).mono ?_
   rintro e w2 ⟨AN, nn, cN, rfl, hnn, hown, hb2⟩
   have hn2 : nn = n := by rw [hnn]; exact R2.out.row.blen
   subst hn2
   clear c1x f1x
   have c2x := cell_of_row w2 w.heap.size 16 _ _ (0, 0) ((hb2.block w.heap.size (by have := LG.out; omega)).trans HX.out)
   have f2x := frozen_of_row w2 w.heap.size 16 _ _ ((hb2.block w.heap.size (by have := LG.out; omega)).trans HX.out)
   have hD : Hid (OwnA 2 act trial flo gen v0 l0 n0 v1 l1 n1 on s v l z p nn h0 h1 h w (w2.setCell ⟨w.heap.size, 16, none⟩ (.slice AN nn cN))) := by
    refine ⟨⟨A0', c0', A1', c1', AN, cN, heap_setCell_same w2 w.heap.size 16 _ _ _ ((hb2.block w.heap.size (by have := LG.out; omega)).trans HX.out), (R0.out.below hb2).setG _ _, (R1.out.below hb2).setG _ _, (RowX.of_own hown (by have := LG.out; omega)).setG _ _⟩, ?_, ?_⟩
    ·exact (heap_setCell_other _ _ _ _ (by show w.heap.size + 1 ≠ w.heap.size; omega)).trans ((hb2.block (w.heap.size + 1) LG.out).trans HY.out)
    ·exact (HB.out.trans (hb2.mono HB.out.size)).setCell (Nat.le_refl _) _
   have hx3 : (w2.setCell ⟨w.heap.size, 16, none⟩ (.slice AN nn cN)).heap[w.heap.size]? = some (.cells #[.int .i64 act, .int .i64 trial, .int .u32 (flo : Int), .int .u32 (gen : Int), .int .u32 (v0 : Int), .int .i64 l0, .slice A0' n0 c0', .int .u32 (v1 : Int), .int .i64 l1, .slice A1' n1 c1', .bool on, .int .u32 (s : Int), .int .u32 (v : Int), .int .i64 l, .int .i64 z, .int .i64 p, .slice AN nn cN] 39 (0, 0)) := heap_setCell_same w2 w.heap.size 16 _ _ _ ((hb2.block w.heap.size (by have := LG.out; omega)).trans HX.out)
   have HX3 := Lib.hid hx3
   have HY3 := Lib.hid hD.out.2.1
   have HB3 := Lib.hid hD.out.2.2
   have Q0 : Hid (RowX _ w.heap.size true A0' n0 (bv h0)) := (R0.out.below hb2).setG 16 (.slice AN nn cN)
   have Q1 : Hid (RowX _ w.heap.size true A1' n1 (bv h1)) := (R1.out.below hb2).setG 16 (.slice AN nn cN)
   have Q2 : Hid (RowX _ w.heap.size true AN nn (bv h)) := (RowX.of_own hown (by have := LG.out; omega)).setG 16 (.slice AN nn cN)
   clear hx3 hD R0 R1 R2 HX HY HB LG
   clear hown hb2 hnn
   go_wp2_with (first
    | ((with_reducible show wpList _ _ _ _ _ _); refine wpList_load_row (o := ⟨some 24, _, _, _, _, _⟩) rfl _ (.tmp 1) rfl w.heap.size rfl _ _ _ _ HX3.out Tryz.underlying39 rfl (by kernel_rfl) ?_)
    | ((with_reducible show wpList _ _ _ _ _ _); refine wpList_store_row rfl _ (.tmp 2) (.tmp 24) rfl (w.heap.size + 1) #[.int .i64 act, .int .i64 trial, .int .u32 (flo : Int), .int .u32 (gen : Int), .int .u32 (v0 : Int), .int .i64 l0, .slice A0' n0 c0', .int .u32 (v1 : Int), .int .i64 l1, .slice A1' n1 c1', .bool on, .int .u32 (s : Int), .int .u32 (v : Int), .int .i64 l, .int .i64 z, .int .i64 p, .slice AN nn cN] rfl rfl _ _ HY3.out (by kernel_rfl) (by rfl) (by simp [Value.oneCell']) ?_))
   have hrow : ((w2.setCell ⟨w.heap.size, 16, none⟩ (.slice AN nn cN)).setRow (w.heap.size + 1) #[.int .i64 act, .int .i64 trial, .int .u32 (flo : Int), .int .u32 (gen : Int), .int .u32 (v0 : Int), .int .i64 l0, .slice A0' n0 c0', .int .u32 (v1 : Int), .int .i64 l1, .slice A1' n1 c1', .bool on, .int .u32 (s : Int), .int .u32 (v : Int), .int .i64 l, .int .i64 z, .int .i64 p, .slice AN nn cN]).heap[w.heap.size + 1]? = some (.cells #[.int .i64 act, .int .i64 trial, .int .u32 (flo : Int), .int .u32 (gen : Int), .int .u32 (v0 : Int), .int .i64 l0, .slice A0' n0 c0', .int .u32 (v1 : Int), .int .i64 l1, .slice A1' n1 c1', .bool on, .int .u32 (s : Int), .int .u32 (v : Int), .int .i64 l, .int .i64 z, .int .i64 p, .slice AN nn cN] 39 (0, 0)) := setRow_heap _ _ _ _ _ _ HY3.out
   refine bodyPost_ret (results_cell_row rfl _ _ (w.heap.size + 1) _ _ (0, 0) _ rfl hrow Tryz.underlying39 rfl (by kernel_rfl)) rfl ?_
   exact ⟨A0', c0', A1', c1', AN, cN, rfl, (Q0.out.set2 _).rowF, (Q1.out.set2 _).rowF, (Q2.out.set2 _).rowF, below_setRow2 HB3.out (Nat.le_succ _) _⟩
end Go.Proofs.YtmncpgfdpcckpaaGreatDoor
namespace Go.Proofs.YtmncpgfdpcckpaaGreatDoor
open Go.RowKit
theorem wpList_load_rowG {P : Program} {ops : Array Oper} {rest : List Oper} {o : Oper} {a : Act} {w : World} {Q : Exit → Act → World → Prop} (hw : Region.wanted o (yielded ops a.tmps) = true) (ty : TypeId) (x : Operand) (ho : o.op = .load ty x)
  (g : Nat) (hx : a.eval x = .pointer (some ⟨g, 0, none⟩)) (t : TypeId) (cs : Array Value) (fr : Nat × Nat) (d : TypeDesc) (hg : w.heap[g]? = some (.cells cs t fr))
  (hu : P.underlying ty = some d) (hd : (match d with | .struct _ | .array _ _ => true | _ => false) = true) (hi : (P.info? ty).map (·.size) = some cs.size)
  (h : wpList P ops Q rest (a.put o.dst (.agg cs)) w) : wpList P ops Q (o :: rest) a w :=
 wpList_step fun K hK => by simp only [hw, if_true]; exact wp_load_row ty x ho g hx t cs fr d hg hu hd hi (hK _ _ h)
theorem heavy_not (act trial : Int) (v0 : Nat) (l0 : Int) (v1 : Nat) (l1 : Int) (on : Bool) (s v : Nat) (l z p : Int) (h0 h1 h : List UInt8) (hh : 100 < h0.length ∨ 100 < h1.length ∨ 100 < h.length) : mayB2 act trial v0 l0 h0 v1 l1 h1 on s v l z p h = false := by
 cases hm : mayB2 act trial v0 l0 h0 v1 l1 h1 on s v l z p h with
 | false => rfl
 | true =>
  exfalso
  have e : ∀ x : List UInt8, x = [] → x.length = 0 := fun x hx => by rw [hx]; rfl
  unfold mayB2 at hm
  rw [Bool.and_eq_true, Bool.and_eq_true] at hm
  obtain ⟨⟨_, h3⟩, h4⟩ := hm
  have k1 : h.length ≤ 32 := by
   cases on with
   | true => simp [manB] at h3; omega
   | false => simp at h3; have := e h h3.2.2.2.2.2; omega
  have k2 : h0.length ≤ 32 ∧ h1.length ≤ 32 := by
   split at h4 <;> simp [filledB, emptyB] at h4 <;> (obtain ⟨⟨_, ha⟩, hb⟩ := h4; rcases hb with ⟨_, hb⟩ | ⟨_, _, _, hb⟩) <;> first | omega | (have := e _ hb; omega)
  omega
theorem yields_row {P : Program} {ops : Array Oper} {S : World → Prop} {op : Oper} {a : Act} (hw : Region.wanted op (yielded ops a.tmps) = true) (ty : TypeId) (x : Operand) (ho : op.op = .load ty x)
  (g : Nat) (hx : a.eval x = .pointer (some ⟨g, 0, none⟩)) (t : TypeId) (cs : Array Value) (fr : Nat × Nat) (d : TypeDesc) (hS : ∀ w, S w → w.heap[g]? = some (.cells cs t fr))
  (hu : P.underlying ty = some d) (hd : (match d with | .struct _ | .array _ _ => true | _ => false) = true) (hi : (P.info? ty).map (·.size) = some cs.size) : YieldsIf P ops S op (.agg cs) a :=
 .inl ⟨hw, fun w hw' => by
  unfold execOp
  simp only [ho, hx, Instr.loadAt, Instr.sureAddr, Sem.run_bind, Sem.run_pure, Result.andThen_ok, run_loadVar_row w g t ty cs fr d (hS w hw') hu hd hi]⟩
theorem wpList_store_new {P : Program} {ops : Array Oper} {rest : List Oper} {o : Oper} {a : Act} {Q : Exit → Act → World → Prop} (hgd : o.guard = none) (hd : o.dst = none) (ty : TypeId) (x y : Operand) (ho : o.op = .store ty x y)
  (w : World) (z cs : Array Value) (t : TypeId) (hx : a.eval x = .pointer (some ⟨w.heap.size, 0, none⟩)) (hy : a.eval y = .agg cs) (hi : (P.info? ty).map (·.size) = some cs.size) (hold : z.size = cs.size) (h1 : cs.all (·.oneCell') = true)
  (h : wpList P ops Q rest a (w.alloc (.cells cs t))) : wpList P ops Q (o :: rest) a (w.alloc (.cells z t)) :=
 wpList_store_row hgd ty x y ho w.heap.size cs hx hy t z (heap_alloc_new _ _) hi hold h1 (by rw [World.setRow_alloc_new, hd]; exact h)
end Go.Proofs.YtmncpgfdpcckpaaGreatDoor
namespace Go.Proofs.YtmncpgfdpcckpaaGreatDoor
open Go.RowKit
def AddOk (base n : Nat) (l : List UInt8) (w : World) (e : Ending) (w' : World) : Prop :=
 ∃ A c, e = .returned (.slice A n c) ∧ Hid (w'.ownsRow base 5 1 (.slice A n c) n (bv l)) ∧ Hid (∀ w0, Below base w0 w → Below base w0 w')
set_option maxHeartbeats 400000 in
theorem manNum_any (B n cap : Nat) (A : Option Addr) (l : List UInt8) (w : World) (hl : Row w B A n (bv l)) (hn4 : n ≤ 4) :
  Calls Tryz.prog 98 #[.slice A n cap] w fun e w' => e = .returned (.int .u32 (CrcM.number l : Nat)) ∧ w = w' := by
 have HS : Hid (isNum 0 0 l) := ⟨rfl, by decide⟩
 have HN := Lib.hid hl.blen
 go_enter Tryz.func98, Tryz.ntmps98
 go_wp2
 go_loop [3, 8] (fun v i => ∃ (k x : Nat), k ≤ n ∧ Hid (isNum k x l) ∧ i = .int .i64 k ∧ v = .int .u32 x) (fun _ i => n - (intOf i).toNat)
 case atStart => exact ⟨0, 0, by omega, HS, rfl, rfl⟩
 case round =>
  obtain ⟨k, x, hk, hx, rfl, rfl⟩ := hrel
  by_cases hlt : k < n
  ·obtain ⟨b, o, rfl, _, hkl, hcell⟩ := hl.byteAt hlt
   obtain ⟨y, hy, hr⟩ := isNum_next hx.out hkl (by omega)
   have HY := Lib.hid hy
   clear hy
   have hb : (l[k].toNat : Int) ≤ 255 := by have := CrcM.b_lt l[k]; omega
   go_wp2
   go_round
   case rel => exact ⟨k + 1, y, by omega, hr, by go_num, HY.out⟩
   case measure => simp [intOf]; omega
  ·have : n = k := by omega
   subst this
   go_wp2
   go_ret
   refine ⟨?_, rfl⟩
   have e := hx.out.1
   rw [List.take_of_length_le (by rw [HN.out]; omega)] at e
   rw [e]; rfl
end Go.Proofs.YtmncpgfdpcckpaaGreatDoor
namespace Go.Proofs.YtmncpgfdpcckpaaGreatDoor
open Go.RowKit
theorem man_bounds {l z p : Int} {n : Nat} (h : manB l z p n = true) : ∃ L Z P : Nat, l = L ∧ z = Z ∧ p = P ∧ 1 ≤ L ∧ L ≤ 512 ∧ 1 ≤ Z ∧ Z ≤ 16 ∧ P ≤ 16 ∧ n = 32 := by
 simp only [manB, ofB, mayB, Bool.and_eq_true, decide_eq_true_eq] at h
 obtain ⟨⟨⟨⟨h1, h2⟩, h3, h4⟩, h5, h6⟩, h7⟩ := h
 unfold BlkM.count at h1 h2
 split at h1
 ·omega
 ·next h9 =>
  split at h1
  ·omega
  ·exact ⟨l.toNat, z.toNat, p.toNat, by omega, by omega, by omega, by omega, by omega, by omega, by omega, by omega, h7⟩
def plainB (s v L Z P : Nat) (h : List UInt8) : List UInt8 := CrcM.four s ++ CrcM.four v ++ [UInt8.ofNat (L / 256), UInt8.ofNat L, UInt8.ofNat Z, UInt8.ofNat P] ++ h
end Go.Proofs.YtmncpgfdpcckpaaGreatDoor
namespace Go.Proofs.YtmncpgfdpcckpaaGreatDoor
open Go.RowKit
structure LMan where
 s : Nat
 v : Nat
 l : Int
 z : Int
 p : Int
 h : List UInt8
structure LSt where
 act : Int
 trial : Int
 flo : Nat
 gen : Nat
 v0 : Nat
 l0 : Int
 h0 : List UInt8
 v1 : Nat
 l1 : Int
 h1 : List UInt8
 on : Bool
 m : LMan
def LMan.cells (M : LMan) (A : Option Addr) (c : Nat) : Array Value := #[.int .u32 (M.s : Int), .int .u32 (M.v : Int), .int .i64 M.l, .int .i64 M.z, .int .i64 M.p, .slice A M.h.length c]
def LSt.cells (L : LSt) (A0 : Option Addr) (c0 : Nat) (A1 : Option Addr) (c1 : Nat) (A : Option Addr) (c : Nat) : Array Value :=
 #[.int .i64 L.act, .int .i64 L.trial, .int .u32 (L.flo : Int), .int .u32 (L.gen : Int), .int .u32 (L.v0 : Int), .int .i64 L.l0, .slice A0 L.h0.length c0, .int .u32 (L.v1 : Int), .int .i64 L.l1, .slice A1 L.h1.length c1, .bool L.on, .int .u32 (L.m.s : Int), .int .u32 (L.m.v : Int), .int .i64 L.m.l, .int .i64 L.m.z, .int .i64 L.m.p, .slice A L.m.h.length c]
def RowP (w : World) (P : Nat → Prop) (A : Option Addr) (n : Nat) (xs : List Value) : Prop :=
 xs.length = n ∧ (0 < n → ∃ b o, A = some ⟨b, o, none⟩ ∧ b < w.heap.size ∧ P b ∧ ∀ j v, xs[j]? = some v → w.cell? ⟨b, o + j, none⟩ = some v)
section
variable {w w' : World} {P P' : Nat → Prop} {n : Nat} {A : Option Addr} {xs : List Value}
theorem RowP.keep (h : RowP w P A n xs) (hs : w.heap.size ≤ w'.heap.size) (hk : ∀ b, P b → b < w.heap.size → w'.heap[b]? = w.heap[b]?) : RowP w' P A n xs :=
 ⟨h.1, fun hn => by
  obtain ⟨b, o, e, hlt, h1, hc⟩ := h.2 hn
  exact ⟨b, o, e, Nat.lt_of_lt_of_le hlt hs, h1, fun j v hv => (World.cell?_of_block (a := ⟨b, o + j, none⟩) (hk b h1 hlt)).trans (hc j v hv)⟩⟩
theorem RowP.below (h : RowP w P A n xs) (hb : Below w.heap.size w w') : RowP w' P A n xs := h.keep hb.size fun b _ hb2 => hb.block b hb2
theorem RowP.imp (h : RowP w P A n xs) (hp : ∀ b, b < w.heap.size → P b → P' b) : RowP w P' A n xs :=
 ⟨h.1, fun hn => by obtain ⟨b, o, e, hb, h1, hc⟩ := h.2 hn; exact ⟨b, o, e, hb, hp b hb h1, hc⟩⟩
theorem RowP.row (h : RowP w P A n xs) : Row w w.heap.size A n xs :=
 ⟨h.1, fun hn => by obtain ⟨b, o, e, hb, _, hc⟩ := h.2 hn; exact ⟨b, o, e, hb, hc⟩⟩
theorem RowP.of_row (h : Row w w.heap.size A n xs) : RowP w (fun _ => True) A n xs :=
 ⟨h.1, fun hn => by obtain ⟨b, o, e, hb, hc⟩ := h.2 hn; exact ⟨b, o, e, hb, trivial, hc⟩⟩
theorem RowP.nil (w : World) (P : Nat → Prop) (A : Option Addr) : RowP w P A 0 (bv []) := ⟨rfl, fun h => absurd h (Nat.lt_irrefl _)⟩
end
def IsMan (w : World) (P : Nat → Prop) (cs : Array Value) (M : LMan) : Prop := ∃ A c, cs = M.cells A c ∧ RowP w P A M.h.length (bv M.h)
def IsSt (w : World) (P : Nat → Prop) (cs : Array Value) (L : LSt) : Prop :=
 ∃ A0 c0 A1 c1 A c, cs = L.cells A0 c0 A1 c1 A c ∧ RowP w P A0 L.h0.length (bv L.h0) ∧ RowP w P A1 L.h1.length (bv L.h1) ∧ RowP w P A L.m.h.length (bv L.m.h)
section
variable {w w' : World} {P P' : Nat → Prop} {cs : Array Value} {L : LSt} {M : LMan}
theorem IsMan.below (h : IsMan w P cs M) (hb : Below w.heap.size w w') : IsMan w' P cs M := by
 obtain ⟨A, c, e, r⟩ := h; exact ⟨A, c, e, r.below hb⟩
theorem IsMan.imp (h : IsMan w P cs M) (hp : ∀ b, b < w.heap.size → P b → P' b) : IsMan w P' cs M := by
 obtain ⟨A, c, e, r⟩ := h; exact ⟨A, c, e, r.imp hp⟩
theorem IsMan.keep (h : IsMan w P cs M) (hs : w.heap.size ≤ w'.heap.size) (hk : ∀ b, P b → b < w.heap.size → w'.heap[b]? = w.heap[b]?) : IsMan w' P cs M := by
 obtain ⟨A, c, e, r⟩ := h; exact ⟨A, c, e, r.keep hs hk⟩
theorem IsSt.below (h : IsSt w P cs L) (hb : Below w.heap.size w w') : IsSt w' P cs L := by
 obtain ⟨A0, c0, A1, c1, A, c, e, r0, r1, r2⟩ := h; exact ⟨A0, c0, A1, c1, A, c, e, r0.below hb, r1.below hb, r2.below hb⟩
theorem IsSt.imp (h : IsSt w P cs L) (hp : ∀ b, b < w.heap.size → P b → P' b) : IsSt w P' cs L := by
 obtain ⟨A0, c0, A1, c1, A, c, e, r0, r1, r2⟩ := h; exact ⟨A0, c0, A1, c1, A, c, e, r0.imp hp, r1.imp hp, r2.imp hp⟩
theorem IsSt.keep (h : IsSt w P cs L) (hs : w.heap.size ≤ w'.heap.size) (hk : ∀ b, P b → b < w.heap.size → w'.heap[b]? = w.heap[b]?) : IsSt w' P cs L := by
 obtain ⟨A0, c0, A1, c1, A, c, e, r0, r1, r2⟩ := h; exact ⟨A0, c0, A1, c1, A, c, e, r0.keep hs hk, r1.keep hs hk, r2.keep hs hk⟩
theorem IsSt.size (h : IsSt w P cs L) : cs.size = 17 := by obtain ⟨A0, c0, A1, c1, A, c, rfl, _⟩ := h; rfl
theorem IsMan.size (h : IsMan w P cs M) : cs.size = 6 := by obtain ⟨A, c, rfl, _⟩ := h; rfl
theorem IsSt.one (h : IsSt w P cs L) : cs.all (·.oneCell') = true := by obtain ⟨A0, c0, A1, c1, A, c, rfl, _⟩ := h; simp [LSt.cells, Value.oneCell']
theorem IsMan.one (h : IsMan w P cs M) : cs.all (·.oneCell') = true := by obtain ⟨A, c, rfl, _⟩ := h; simp [LMan.cells, Value.oneCell']
theorem IsSt.inf (h : IsSt w P cs L) : (Tryz.prog.info? 39).map (·.size) = some cs.size := by rw [h.size]; kernel_rfl
theorem IsMan.inf (h : IsMan w P cs M) : (Tryz.prog.info? 37).map (·.size) = some cs.size := by rw [h.size]; kernel_rfl
theorem IsSt.c0 (h : IsSt w P cs L) : cs[0]? = some (.int .i64 L.act) := by obtain ⟨A0, c0, A1, c1, A, c, rfl, _⟩ := h; rfl
theorem IsSt.c1 (h : IsSt w P cs L) : cs[1]? = some (.int .i64 L.trial) := by obtain ⟨A0, c0, A1, c1, A, c, rfl, _⟩ := h; rfl
theorem IsSt.c10 (h : IsSt w P cs L) : cs[10]? = some (.bool L.on) := by obtain ⟨A0, c0, A1, c1, A, c, rfl, _⟩ := h; rfl
end
def LMan.zero : LMan := ⟨0, 0, 0, 0, 0, []⟩
def LSt.zero : LSt := ⟨0, 0, 0, 0, 0, 0, [], 0, 0, [], false, LMan.zero⟩
theorem zero_is (w : World) (P : Nat → Prop) : IsSt w P zState LSt.zero := ⟨none, 0, none, 0, none, 0, rfl, .nil _ _ _, .nil _ _ _, .nil _ _ _⟩
def LMan.may (M : LMan) : Bool := manB M.l M.z M.p M.h.length
def LMan.eqb (M N : LMan) : Bool := decide (M.s = N.s ∧ M.v = N.v ∧ M.l = N.l ∧ M.z = N.z ∧ M.p = N.p ∧ M.h = N.h)
def LSt.may (L : LSt) : Bool := mayB2 L.act L.trial L.v0 L.l0 L.h0 L.v1 L.l1 L.h1 L.on L.m.s L.m.v L.m.l L.m.z L.m.p L.m.h
def LSt.drop (L : LSt) : LSt := if L.may then { L with on := false, m := LMan.zero } else LSt.zero
def LSt.light (L : LSt) : Prop := L.h0.length ≤ 100 ∧ L.h1.length ≤ 100 ∧ L.m.h.length ≤ 100
theorem light_of_may {L : LSt} (h : L.may = true) : L.light := by
 unfold LSt.light
 by_cases hh : 100 < L.h0.length ∨ 100 < L.h1.length ∨ 100 < L.m.h.length
 ·have := heavy_not L.act L.trial L.v0 L.l0 L.v1 L.l1 L.on L.m.s L.m.v L.m.l L.m.z L.m.p L.h0 L.h1 L.m.h hh
  rw [LSt.may, this] at h; cases h
 ·omega
section
variable {w : World} {P : Nat → Prop} {cs : Array Value} {L : LSt}
theorem mayS (h : IsSt w P cs L) : Calls Tryz.prog 19 #[.agg cs] w fun e w' => e = .returned (.bool L.may) ∧ Below w.heap.size w w' := by
 obtain ⟨A0, c0, A1, c1, A, c, rfl, r0, r1, r2⟩ := h
 exact may_any _ _ _ _ _ _ _ _ _ _ _ _ _ _ _ _ _ _ _ _ _ _ _ w.heap.size _ _ _ w r0.row r1.row r2.row (Nat.le_refl _)
def RetS (L : LSt) (w : World) (e : Ending) (w' : World) : Prop := ∃ cs, e = .returned (.agg cs) ∧ Hid (IsSt w' (fun b => w.heap.size ≤ b) cs L) ∧ Hid (Below w.heap.size w w')
end
structure Env (w W : World) (bx : List (Nat × Array Value × TypeId)) (sts : List (Array Value × LSt)) (mans : List (Array Value × LMan)) : Prop where
 b : Below w.heap.size w W
 bx : ∀ g cs t, (g, cs, t) ∈ bx → W.heap[g]? = some (.cells cs t (0, 0))
 st : ∀ cs L, (cs, L) ∈ sts → IsSt W (fun _ => True) cs L
 mn : ∀ cs M, (cs, M) ∈ mans → IsMan W (fun _ => True) cs M
section
variable {w W W' : World} {bx : List (Nat × Array Value × TypeId)} {sts : List (Array Value × LSt)} {mans : List (Array Value × LMan)}
theorem Env.below (h : Env w W bx sts mans) (hb : Below W.heap.size W W') : Env w W' bx sts mans :=
 ⟨h.b.trans (hb.mono h.b.size), fun g cs t hm => (hb.block g (Array.getElem?_eq_some_iff.1 (h.bx g cs t hm)).1).trans (h.bx g cs t hm), fun cs L hm => (h.st cs L hm).below hb, fun cs M hm => (h.mn cs M hm).below hb⟩
theorem Env.addSt (h : Env w W bx sts mans) {P : Nat → Prop} {cs : Array Value} {L : LSt} (hs : IsSt W P cs L) : Env w W bx ((cs, L) :: sts) mans :=
 ⟨h.b, h.bx, fun cs' L' hm => by
  rcases List.mem_cons.1 hm with e | e
  ·injection e with e1 e2; subst e1 e2; exact hs.imp fun _ _ _ => trivial
  ·exact h.st _ _ e, h.mn⟩
theorem Env.addBx (h : Env w W bx sts mans) {g : Nat} {cs : Array Value} {t : TypeId} (hs : W.heap[g]? = some (.cells cs t (0, 0))) : Env w W ((g, cs, t) :: bx) sts mans :=
 ⟨h.b, fun g' cs' t' hm => by
  rcases List.mem_cons.1 hm with e | e
  ·injection e with e1 e2; injection e2 with e2 e3; subst e1 e2 e3; exact hs
  ·exact h.bx _ _ _ e, h.st, h.mn⟩
theorem Env.alloc (h : Env w W bx sts mans) (cs : Array Value) (t : TypeId) : Env w (W.alloc (.cells cs t)) ((W.heap.size, cs, t) :: bx) sts mans :=
 (h.below ((Below.refl _ _).alloc (Nat.le_refl _) _)).addBx (heap_alloc_new W (.cells cs t))
theorem Env.start (w : World) : Env w w [] [] [] :=
 ⟨Below.refl _ _, fun _ _ _ h => (by cases h), fun _ _ h => (by cases h), fun _ _ h => (by cases h)⟩
theorem Env.cell (h : Env w W bx sts mans) {g : Nat} {cs : Array Value} {t : TypeId} (hm : (g, cs, t) ∈ bx) (k : Nat) : W.cell? ⟨g, k, none⟩ = cs[k]? :=
 cell_of_row W g k cs t (0, 0) (h.bx g cs t hm)
end
end Go.Proofs.YtmncpgfdpcckpaaGreatDoor
