/- The reference's Count, May, MayManifest, SameManifest: by contracts. -/
import Derived.Test.YtidcnoejihjgjaaGreatDoorZSQ
namespace Go.Proofs.YtidcnoejihjgjaaGreatDoor
open Go.RowKit
set_option maxRecDepth 100000 in
theorem rcnt_any (a b : Int) (w : World) : Calls Tryz.prog 32 #[.int .i64 a, .int .i64 b] w fun e w' => e = .returned (.int .i64 (BlkM.count a b : Nat)) ∧ w = w' := by
  by_cases h : a < 1 ∨ 512 < a ∨ b < 1 ∨ 16 < b
  · have hz : BlkM.count a b = 0 := by simp [BlkM.count, h]
    rw [hz]
    by_cases h1 : a < 1
    · go_enter Tryz.func32, Tryz.ntmps32
      go_wp2_with fail
      go_ret
      exact ⟨rfl, rfl⟩
    by_cases h2 : 512 < a
    · go_enter Tryz.func32, Tryz.ntmps32
      go_wp2_with fail
      go_ret
      exact ⟨rfl, rfl⟩
    by_cases h3 : b < 1
    · go_enter Tryz.func32, Tryz.ntmps32
      go_wp2_with fail
      go_ret
      exact ⟨rfl, rfl⟩
    have h4 : 16 < b := by omega
    clear h
    go_enter Tryz.func32, Tryz.ntmps32
    go_wp2_with fail
    go_ret
    exact ⟨rfl, rfl⟩
  · obtain ⟨q1, q2, _, _⟩ := quo_bounds a b (by omega) (by omega) (by omega) (by omega)
    have hc : BlkM.count a b = if 64 < (a + b - 1) / b then 0 else ((a + b - 1) / b).toNat := by unfold BlkM.count; rw [if_neg h]
    have h1 : ¬ a < 1 := by omega
    have h2 : a ≤ 512 := by omega
    have h3 : ¬ b < 1 := by omega
    have h4 : b ≤ 16 := by omega
    have h5 : ¬ b = 0 := by omega
    by_cases hq : 64 < (a + b - 1) / b
    · rw [hc, if_pos hq]
      clear hc h
      go_enter Tryz.func32, Tryz.ntmps32
      go_wp2_with fail
      go_ret
      exact ⟨rfl, rfl⟩
    · rw [hc, if_neg hq, Int.toNat_of_nonneg (by omega)]
      clear hc h
      go_enter Tryz.func32, Tryz.ntmps32
      go_wp2_with fail
      go_ret
      exact ⟨rfl, rfl⟩
set_option maxRecDepth 100000 in
set_option maxHeartbeats 800000 in
theorem rpmay_any (s K P Z : Int) (w : World) : Calls Tryz.prog 33 #[.agg #[.int .u32 s, .int .i64 K, .int .i64 P, .int .i64 Z]] w fun e w' => e = .returned (.bool (mayB K P Z)) ∧ Below w.heap.size w w' := by
  go_enter Tryz.func33, Tryz.ntmps33
  go_wp2
  all_goals (go_ret; exact ⟨by simp [mayB, *]; try omega, (Below.refl _ _).alloc (Nat.le_refl _) _⟩)
theorem rcnt_eq (a b : Int) (K : Nat) (w : World) (h : Hid (BlkM.count a b = K)) : Calls Tryz.prog 32 #[.int .i64 a, .int .i64 b] w fun e w' => e = .returned (.int .i64 (K : Int)) ∧ w = w' := by
  rw [← h.out]; exact rcnt_any a b w
set_option maxRecDepth 100000 in
set_option maxHeartbeats 200000 in
theorem rpar_any (s v : Nat) (l z p : Int) (A : Option Addr) (n c : Nat) (w : World) :
    Calls Tryz.prog 9 #[.agg #[.int .u32 (s : Int), .int .u32 (v : Int), .int .i64 l, .int .i64 z, .int .i64 p, .slice A n c]] w (OfOk l z p w) := by
  have hx1 := heap_alloc2_old w (.cells #[.int .u32 (s : Int), .int .u32 (v : Int), .int .i64 l, .int .i64 z, .int .i64 p, .slice A n c] 32) (.cells #[.int .u32 0, .int .i64 0, .int .i64 0, .int .i64 0] 35)
  have hx2 := heap_alloc2_new w (.cells #[.int .u32 (s : Int), .int .u32 (v : Int), .int .i64 l, .int .i64 z, .int .i64 p, .slice A n c] 32) (.cells #[.int .u32 0, .int .i64 0, .int .i64 0, .int .i64 0] 35)
  obtain ⟨N0, hK⟩ : ∃ N0, BlkM.count l z = N0 := ⟨_, rfl⟩
  have HK := Lib.hid hK
  have HX1 := Lib.hid hx1
  have HX2 := Lib.hid hx2
  clear hK hx1 hx2
  go_enter Tryz.func9, Tryz.ntmps9
  go_wp2_with fail
  have hx1 := HX1.out
  have hx2 := HX2.out
  have hb0 : Below w.heap.size w ((w.alloc (.cells #[.int .u32 (s : Int), .int .u32 (v : Int), .int .i64 l, .int .i64 z, .int .i64 p, .slice A n c] 32)).alloc (.cells #[.int .u32 0, .int .i64 0, .int .i64 0, .int .i64 0] 35)) := ((Below.refl _ _).alloc (Nat.le_refl _) _).alloc (by simp) _
  have hsz : ((w.alloc (.cells #[.int .u32 (s : Int), .int .u32 (v : Int), .int .i64 l, .int .i64 z, .int .i64 p, .slice A n c] 32)).alloc (.cells #[.int .u32 0, .int .i64 0, .int .i64 0, .int .i64 0] 35)).heap.size = w.heap.size + 2 := by simp
  have HSZ := Lib.hid hsz
  clear HX1 HX2 hsz
  generalize ((w.alloc (.cells #[.int .u32 (s : Int), .int .u32 (v : Int), .int .i64 l, .int .i64 z, .int .i64 p, .slice A n c] 32)).alloc (.cells #[.int .u32 0, .int .i64 0, .int .i64 0, .int .i64 0] 35)) = W0 at *
  obtain ⟨c0, c1, c2, c3, c4, c5⟩ := bx6 hx1
  have HX2 := Lib.hid hx2
  have HB0 := Lib.hid hb0
  clear hx1 hx2 hb0
  clear c1 c5
  have HC : Hid (∀ W, Below W0.heap.size W0 W → W.cell? ⟨w.heap.size, 0, none⟩ = some (.int .u32 (s : Int)) ∧ W.cell? ⟨w.heap.size, 2, none⟩ = some (.int .i64 l) ∧ W.cell? ⟨w.heap.size, 3, none⟩ = some (.int .i64 z) ∧ W.cell? ⟨w.heap.size, 4, none⟩ = some (.int .i64 p)) := by
    intro W hW
    have hl : w.heap.size < W0.heap.size := by have := HSZ.out; omega
    exact ⟨(hW.cell (p := ⟨_, _, none⟩) hl).trans c0, (hW.cell (p := ⟨_, _, none⟩) hl).trans c2, (hW.cell (p := ⟨_, _, none⟩) hl).trans c3, (hW.cell (p := ⟨_, _, none⟩) hl).trans c4⟩
  clear c0 c2 c3 c4
  -- REGION
  refine wp_region_noPanic ?_
  refine wp_region_held_drew (S := (fun W => Below W0.heap.size W0 W)) (by kernel_rfl) (Below.refl _ _).drew (fun hH0 => ?_)
  have hH0 : (fun W => Below W0.heap.size W0 W) W0.drew := hH0
  generalize W0.drew = wd at *
  have hWD : Below W0.heap.size W0 wd := hH0
  refine wpAnyH_take (i := 0) (oi := { dst := some 5, op := Op.fieldAddr 32 (Operand.tmp 1) 0, type := 0, pos := "ref.go:161", after := #[], guard := none }) (v := ?tkv901) rfl (by kernel_rfl) (by kernel_rfl) (by kernel_rfl) (fun _ _ _ h => h) (Or.inl ⟨by rfl, ?tky901⟩) hH0 ?tkr901
  case tky901 => (intro w' hSw; clear hSw; go_simp; try with_reducible rfl)
  try simp only [Act.put, List.setIfInBounds_toArray, List.set_cons_zero, List.set_cons_succ]
  refine wpAnyH_take (i := 1) (oi := { dst := some 6, op := Op.load 23 (Operand.tmp 5), type := 23, pos := "ref.go:161", after := #[{ on := 0, ground := Ground.data }], guard := none }) (v := ?tkv902) rfl (by kernel_rfl) (by kernel_rfl) (by kernel_rfl) (fun _ _ _ h => h) (Or.inl ⟨by rfl, ?tky902⟩) hH0 ?tkr902
  case tky902 => (intro w' hSw; have z0 := HC.out _ hSw; clear hSw; go_simp; try with_reducible rfl)
  try simp only [Act.put, List.setIfInBounds_toArray, List.set_cons_zero, List.set_cons_succ]
  refine wpAnyH_take (i := 2) (oi := { dst := some 7, op := Op.fieldAddr 32 (Operand.tmp 1) 2, type := 0, pos := "ref.go:161", after := #[], guard := none }) (v := ?tkv903) rfl (by kernel_rfl) (by kernel_rfl) (by kernel_rfl) (fun _ _ _ h => h) (Or.inl ⟨by rfl, ?tky903⟩) hH0 ?tkr903
  case tky903 => (intro w' hSw; clear hSw; go_simp; try with_reducible rfl)
  try simp only [Act.put, List.setIfInBounds_toArray, List.set_cons_zero, List.set_cons_succ]
  refine wpAnyH_take (i := 3) (oi := { dst := some 8, op := Op.load 3 (Operand.tmp 7), type := 3, pos := "ref.go:161", after := #[{ on := 2, ground := Ground.data }], guard := none }) (v := ?tkv904) rfl (by kernel_rfl) (by kernel_rfl) (by kernel_rfl) (fun _ _ _ h => h) (Or.inl ⟨by rfl, ?tky904⟩) hH0 ?tkr904
  case tky904 => (intro w' hSw; have z0 := HC.out _ hSw; clear hSw; go_simp; try with_reducible rfl)
  try simp only [Act.put, List.setIfInBounds_toArray, List.set_cons_zero, List.set_cons_succ]
  refine wpAnyH_take (i := 4) (oi := { dst := some 9, op := Op.fieldAddr 32 (Operand.tmp 1) 3, type := 0, pos := "ref.go:161", after := #[], guard := none }) (v := ?tkv905) rfl (by kernel_rfl) (by kernel_rfl) (by kernel_rfl) (fun _ _ _ h => h) (Or.inl ⟨by rfl, ?tky905⟩) hH0 ?tkr905
  case tky905 => (intro w' hSw; clear hSw; go_simp; try with_reducible rfl)
  try simp only [Act.put, List.setIfInBounds_toArray, List.set_cons_zero, List.set_cons_succ]
  refine wpAnyH_take (i := 5) (oi := { dst := some 10, op := Op.load 3 (Operand.tmp 9), type := 3, pos := "ref.go:161", after := #[{ on := 4, ground := Ground.data }], guard := none }) (v := ?tkv906) rfl (by kernel_rfl) (by kernel_rfl) (by kernel_rfl) (fun _ _ _ h => h) (Or.inl ⟨by rfl, ?tky906⟩) hH0 ?tkr906
  case tky906 => (intro w' hSw; have z0 := HC.out _ hSw; clear hSw; go_simp; try with_reducible rfl)
  try simp only [Act.put, List.setIfInBounds_toArray, List.set_cons_zero, List.set_cons_succ]
  refine wpAnyH_take (i := 7) (oi := { dst := some 12, op := Op.fieldAddr 32 (Operand.tmp 1) 4, type := 0, pos := "ref.go:161", after := #[], guard := none }) (v := ?tkv907) rfl (by kernel_rfl) (by kernel_rfl) (by kernel_rfl) (fun _ _ _ h => h) (Or.inl ⟨by rfl, ?tky907⟩) hH0 ?tkr907
  case tky907 => (intro w' hSw; clear hSw; go_simp; try with_reducible rfl)
  try simp only [Act.put, List.setIfInBounds_toArray, List.set_cons_zero, List.set_cons_succ]
  refine wpAnyH_take (i := 8) (oi := { dst := some 13, op := Op.load 3 (Operand.tmp 12), type := 3, pos := "ref.go:161", after := #[{ on := 7, ground := Ground.data }], guard := none }) (v := ?tkv908) rfl (by kernel_rfl) (by kernel_rfl) (by kernel_rfl) (fun _ _ _ h => h) (Or.inl ⟨by rfl, ?tky908⟩) hH0 ?tkr908
  case tky908 => (intro w' hSw; have z0 := HC.out _ hSw; clear hSw; go_simp; try with_reducible rfl)
  try simp only [Act.put, List.setIfInBounds_toArray, List.set_cons_zero, List.set_cons_succ]
  refine wpAnyH_take (i := 9) (oi := { dst := some 14, op := Op.fieldAddr 32 (Operand.tmp 1) 3, type := 0, pos := "ref.go:161", after := #[], guard := none }) (v := ?tkv909) rfl (by kernel_rfl) (by kernel_rfl) (by kernel_rfl) (fun _ _ _ h => h) (Or.inl ⟨by rfl, ?tky909⟩) hH0 ?tkr909
  case tky909 => (intro w' hSw; clear hSw; go_simp; try with_reducible rfl)
  try simp only [Act.put, List.setIfInBounds_toArray, List.set_cons_zero, List.set_cons_succ]
  refine wpAnyH_take (i := 10) (oi := { dst := some 15, op := Op.load 3 (Operand.tmp 14), type := 3, pos := "ref.go:161", after := #[{ on := 9, ground := Ground.data }], guard := none }) (v := ?tkv910) rfl (by kernel_rfl) (by kernel_rfl) (by kernel_rfl) (fun _ _ _ h => h) (Or.inl ⟨by rfl, ?tky910⟩) hH0 ?tkr910
  case tky910 => (intro w' hSw; have z0 := HC.out _ hSw; clear hSw; go_simp; try with_reducible rfl)
  try simp only [Act.put, List.setIfInBounds_toArray, List.set_cons_zero, List.set_cons_succ]
  refine wpAnyH_ready (rs := [6, 12]) (by kernel_rfl) (by simp) ?_
  refine AllReadyH.cons (o := { dst := some 11, op := Op.call { callee := Callee.value (Operand.func 32), args := #[Operand.tmp 8, Operand.tmp 10], argTypes := #[3, 3] }, type := 3, pos := "ref.go:161", after := #[{ on := 3, ground := Ground.data }, { on := 5, ground := Ground.data }], guard := none }) rfl (fun K hK => ?_) (AllReadyH.cons (o := { dst := some 4, op := Op.alloc 35, type := 0, pos := "ref.go:161", after := #[], guard := none }) rfl (fun K hK => ?_) AllReadyH.nil)
  · go_simp
    (with_reducible refine (rcnt_eq l z N0 _ HK).mono ?_)
    rintro e' w' ⟨rfl, rfl⟩
    go_simp
    have hS911 : (fun W => Below W0.heap.size W0 W) wd := hH0
    refine hK.out _ _ hS911 (fun hH911 => ?_)
    clear hK K
    try simp only [Act.put, List.setIfInBounds_toArray, List.set_cons_zero, List.set_cons_succ]
    refine wpAnyH_take (i := 11) (oi := { dst := some 16, op := Op.build 35 #[(0, Operand.tmp 6), (1, Operand.tmp 11), (2, Operand.tmp 13), (3, Operand.tmp 15)], type := 35, pos := "ref.go:161", after := #[{ on := 1, ground := Ground.data }, { on := 6, ground := Ground.data }, { on := 8, ground := Ground.data }, { on := 10, ground := Ground.data }], guard := none }) (v := ?tkv912) rfl (by kernel_rfl) (by kernel_rfl) (by kernel_rfl) (fun _ _ _ h => h) (Or.inl ⟨by rfl, ?tky912⟩) hH911 ?tkr912
    case tky912 => (intro w' hSw; clear hSw; go_simp; try with_reducible rfl)
    try simp only [Act.put, List.setIfInBounds_toArray, List.set_cons_zero, List.set_cons_succ]
    refine wpAnyH_ready (rs := [12]) (by kernel_rfl) (by simp) ?_
    refine AllReadyH.cons (o := { dst := some 4, op := Op.alloc 35, type := 0, pos := "ref.go:161", after := #[], guard := none }) rfl (fun K hK => ?_) AllReadyH.nil
    go_simp
    have hS913 : (fun W => Below W0.heap.size W0 W) (wd.alloc (.cells #[.int .u32 0, .int .i64 0, .int .i64 0, .int .i64 0] 35)) := (hWD.alloc hWD.size _)
    refine hK.out _ _ hS913 (fun hH913 => ?_)
    clear hK K
    try simp only [Act.put, List.setIfInBounds_toArray, List.set_cons_zero, List.set_cons_succ]
    refine wpAnyH_ready (rs := [13]) (by kernel_rfl) (by simp) ?_
    refine AllReadyH.cons (o := { dst := none, op := Op.store 35 (Operand.tmp 4) (Operand.tmp 16), type := 0, pos := "ref.go:161", after := #[{ on := 12, ground := Ground.data }, { on := 11, ground := Ground.data }, { on := 6, ground := Ground.chain }, { on := 0, ground := Ground.phase }, { on := 1, ground := Ground.phase }, { on := 2, ground := Ground.phase }, { on := 3, ground := Ground.phase }, { on := 4, ground := Ground.phase }, { on := 5, ground := Ground.phase }, { on := 6, ground := Ground.phase }, { on := 7, ground := Ground.phase }, { on := 8, ground := Ground.phase }, { on := 9, ground := Ground.phase }, { on := 10, ground := Ground.phase }, { on := 11, ground := Ground.phase }, { on := 12, ground := Ground.phase }], guard := none }) rfl (fun K hK => ?_) AllReadyH.nil
    go_simp
    have hS914 : (fun W => Below W0.heap.size W0 W) (wd.alloc (.cells #[.int .u32 (s : Int), .int .i64 (N0 : Int), .int .i64 p, .int .i64 z] 35)) := (hWD.alloc hWD.size _)
    refine hK.out _ _ hS914 (fun hH914 => ?_)
    clear hK K
    try simp only [Act.put, List.setIfInBounds_toArray, List.set_cons_zero, List.set_cons_succ]
    refine wpAnyH_done (by kernel_rfl) ?_ _
    refine NoPanic.normal ?_
    go_wp2_with fail
    refine (rpmay_any s N0 p z _).mono ?_
    rintro e w2 ⟨rfl, hb2⟩
    have hq1 : w.heap.size + 1 < wd.heap.size := by have h1 := HSZ.out; have h2 := hWD.size; omega
    have hbd : Below w.heap.size w wd := HB0.out.trans (hWD.mono HB0.out.size)
    have hx2 : w2.heap[w.heap.size + 1]? = some (.cells #[.int .u32 0, .int .i64 0, .int .i64 0, .int .i64 0] 35 (0, 0)) := (hb2.block (w.heap.size + 1) (by simp; omega)).trans ((heap_alloc_old wd _ (by omega)).trans ((hWD.block (w.heap.size + 1) (by have := HSZ.out; omega)).trans HX2.out))
    have hx3 : w2.heap[wd.heap.size]? = some (.cells #[.int .u32 (s : Int), .int .i64 (N0 : Int), .int .i64 p, .int .i64 z] 35 (0, 0)) := (hb2.block wd.heap.size (by simp)).trans (heap_alloc_new wd _)
    have HBZ : Hid (Below w.heap.size w w2) := (hbd.alloc hbd.size _).trans (hb2.mono (by simp; have := hbd.size; omega))
    have HOF : Hid (ofB l z p = mayB (N0 : Int) p z) := by show _ = _; unfold ofB; rw [HK.out]
    obtain ⟨⟨y0, y1, y2, y3⟩, ⟨f0, f1, f2, f3⟩⟩ := bx4 hx2
    obtain ⟨⟨u0, u1, u2, u3⟩, -⟩ := bx4 hx3
    have HX3 := Lib.hid hx2
    clear hx2 hx3 hb2 hq1 hbd
    cases hm : mayB (N0 : Int) p z with
    | false =>
      rw [hm] at HOF
      clear hm
      go_wp2_with fail
      have hrow := set4 HX3.out (.int .u32 0) (.int .i64 0) (.int .i64 0) (.int .i64 0)
      refine bodyPost_ret (results_cell_tmp_row rfl _ _ (w.heap.size + 1) _ _ (0, 0) _ rfl hrow Tryz.underlying35 rfl (by kernel_rfl)) rfl ?_
      exact ⟨0, 0, 0, 0, by rw [HOF.out]; rfl, (((HBZ.out.setCell (by simp) _).setCell (by simp) _).setCell (by simp) _).setCell (by simp) _⟩
    | true =>
      rw [hm] at HOF
      clear hm
      go_wp2_with fail
      have hrow := set4 HX3.out (.int .u32 (s : Int)) (.int .i64 (N0 : Int)) (.int .i64 p) (.int .i64 z)
      refine bodyPost_ret (results_cell_tmp_row rfl _ _ (w.heap.size + 1) _ _ (0, 0) _ rfl hrow Tryz.underlying35 rfl (by kernel_rfl)) rfl ?_
      exact ⟨s, N0, p, z, by rw [HOF.out]; rfl, (((HBZ.out.setCell (by simp) _).setCell (by simp) _).setCell (by simp) _).setCell (by simp) _⟩
  · go_simp
    have hS915 : (fun W => Below W0.heap.size W0 W) (wd.alloc (.cells #[.int .u32 0, .int .i64 0, .int .i64 0, .int .i64 0] 35)) := (hWD.alloc hWD.size _)
    refine hK.out _ _ hS915 (fun hH915 => ?_)
    clear hK K
    try simp only [Act.put, List.setIfInBounds_toArray, List.set_cons_zero, List.set_cons_succ]
    refine wpAnyH_ready (rs := [6]) (by kernel_rfl) (by simp) ?_
    refine AllReadyH.cons (o := { dst := some 11, op := Op.call { callee := Callee.value (Operand.func 32), args := #[Operand.tmp 8, Operand.tmp 10], argTypes := #[3, 3] }, type := 3, pos := "ref.go:161", after := #[{ on := 3, ground := Ground.data }, { on := 5, ground := Ground.data }], guard := none }) rfl (fun K hK => ?_) AllReadyH.nil
    go_simp
    (with_reducible refine (rcnt_eq l z N0 _ HK).mono ?_)
    rintro e' w' ⟨rfl, rfl⟩
    go_simp
    have hS916 : (fun W => Below W0.heap.size W0 W) (wd.alloc (.cells #[.int .u32 0, .int .i64 0, .int .i64 0, .int .i64 0] 35)) := hH915
    refine hK.out _ _ hS916 (fun hH916 => ?_)
    clear hK K
    try simp only [Act.put, List.setIfInBounds_toArray, List.set_cons_zero, List.set_cons_succ]
    refine wpAnyH_take (i := 11) (oi := { dst := some 16, op := Op.build 35 #[(0, Operand.tmp 6), (1, Operand.tmp 11), (2, Operand.tmp 13), (3, Operand.tmp 15)], type := 35, pos := "ref.go:161", after := #[{ on := 1, ground := Ground.data }, { on := 6, ground := Ground.data }, { on := 8, ground := Ground.data }, { on := 10, ground := Ground.data }], guard := none }) (v := ?tkv917) rfl (by kernel_rfl) (by kernel_rfl) (by kernel_rfl) (fun _ _ _ h => h) (Or.inl ⟨by rfl, ?tky917⟩) hH916 ?tkr917
    case tky917 => (intro w' hSw; clear hSw; go_simp; try with_reducible rfl)
    try simp only [Act.put, List.setIfInBounds_toArray, List.set_cons_zero, List.set_cons_succ]
    refine wpAnyH_ready (rs := [13]) (by kernel_rfl) (by simp) ?_
    refine AllReadyH.cons (o := { dst := none, op := Op.store 35 (Operand.tmp 4) (Operand.tmp 16), type := 0, pos := "ref.go:161", after := #[{ on := 12, ground := Ground.data }, { on := 11, ground := Ground.data }, { on := 6, ground := Ground.chain }, { on := 0, ground := Ground.phase }, { on := 1, ground := Ground.phase }, { on := 2, ground := Ground.phase }, { on := 3, ground := Ground.phase }, { on := 4, ground := Ground.phase }, { on := 5, ground := Ground.phase }, { on := 6, ground := Ground.phase }, { on := 7, ground := Ground.phase }, { on := 8, ground := Ground.phase }, { on := 9, ground := Ground.phase }, { on := 10, ground := Ground.phase }, { on := 11, ground := Ground.phase }, { on := 12, ground := Ground.phase }], guard := none }) rfl (fun K hK => ?_) AllReadyH.nil
    go_simp
    have hS918 : (fun W => Below W0.heap.size W0 W) (wd.alloc (.cells #[.int .u32 (s : Int), .int .i64 (N0 : Int), .int .i64 p, .int .i64 z] 35)) := (hWD.alloc hWD.size _)
    refine hK.out _ _ hS918 (fun hH918 => ?_)
    clear hK K
    try simp only [Act.put, List.setIfInBounds_toArray, List.set_cons_zero, List.set_cons_succ]
    refine wpAnyH_done (by kernel_rfl) ?_ _
    refine NoPanic.normal ?_
    go_wp2_with fail
    refine (rpmay_any s N0 p z _).mono ?_
    rintro e w2 ⟨rfl, hb2⟩
    have hq1 : w.heap.size + 1 < wd.heap.size := by have h1 := HSZ.out; have h2 := hWD.size; omega
    have hbd : Below w.heap.size w wd := HB0.out.trans (hWD.mono HB0.out.size)
    have hx2 : w2.heap[w.heap.size + 1]? = some (.cells #[.int .u32 0, .int .i64 0, .int .i64 0, .int .i64 0] 35 (0, 0)) := (hb2.block (w.heap.size + 1) (by simp; omega)).trans ((heap_alloc_old wd _ (by omega)).trans ((hWD.block (w.heap.size + 1) (by have := HSZ.out; omega)).trans HX2.out))
    have hx3 : w2.heap[wd.heap.size]? = some (.cells #[.int .u32 (s : Int), .int .i64 (N0 : Int), .int .i64 p, .int .i64 z] 35 (0, 0)) := (hb2.block wd.heap.size (by simp)).trans (heap_alloc_new wd _)
    have HBZ : Hid (Below w.heap.size w w2) := (hbd.alloc hbd.size _).trans (hb2.mono (by simp; have := hbd.size; omega))
    have HOF : Hid (ofB l z p = mayB (N0 : Int) p z) := by show _ = _; unfold ofB; rw [HK.out]
    obtain ⟨⟨y0, y1, y2, y3⟩, ⟨f0, f1, f2, f3⟩⟩ := bx4 hx2
    obtain ⟨⟨u0, u1, u2, u3⟩, -⟩ := bx4 hx3
    have HX3 := Lib.hid hx2
    clear hx2 hx3 hb2 hq1 hbd
    cases hm : mayB (N0 : Int) p z with
    | false =>
      rw [hm] at HOF
      clear hm
      go_wp2_with fail
      have hrow := set4 HX3.out (.int .u32 0) (.int .i64 0) (.int .i64 0) (.int .i64 0)
      refine bodyPost_ret (results_cell_tmp_row rfl _ _ (w.heap.size + 1) _ _ (0, 0) _ rfl hrow Tryz.underlying35 rfl (by kernel_rfl)) rfl ?_
      exact ⟨0, 0, 0, 0, by rw [HOF.out]; rfl, (((HBZ.out.setCell (by simp) _).setCell (by simp) _).setCell (by simp) _).setCell (by simp) _⟩
    | true =>
      rw [hm] at HOF
      clear hm
      go_wp2_with fail
      have hrow := set4 HX3.out (.int .u32 (s : Int)) (.int .i64 (N0 : Int)) (.int .i64 p) (.int .i64 z)
      refine bodyPost_ret (results_cell_tmp_row rfl _ _ (w.heap.size + 1) _ _ (0, 0) _ rfl hrow Tryz.underlying35 rfl (by kernel_rfl)) rfl ?_
      exact ⟨s, N0, p, z, by rw [HOF.out]; rfl, (((HBZ.out.setCell (by simp) _).setCell (by simp) _).setCell (by simp) _).setCell (by simp) _⟩
set_option maxRecDepth 100000 in
set_option maxHeartbeats 400000 in
theorem rmanMay_any (s v : Nat) (l z p : Int) (A : Option Addr) (n c : Nat) (w : World) :
    Calls Tryz.prog 8 #[.agg #[.int .u32 (s : Int), .int .u32 (v : Int), .int .i64 l, .int .i64 z, .int .i64 p, .slice A n c]] w fun e w' => e = .returned (.bool (manB l z p n)) ∧ Below w.heap.size w w' := by
  have hx := heap_alloc_new w (.cells #[.int .u32 (s : Int), .int .u32 (v : Int), .int .i64 l, .int .i64 z, .int .i64 p, .slice A n c] 32)
  have HX := Lib.hid hx
  clear hx
  have HB : Hid (manB l z p n = (ofB l z p && decide (n = 32))) := rfl
  go_enter Tryz.func8, Tryz.ntmps8
  go_wp2_with fail
  refine (rpar_any s v l z p A n c _).mono ?_
  rintro e w1 ⟨s', K', P', Z', rfl, hb1⟩
  have hb0 : Below w.heap.size w w1 := ((Below.refl _ _).alloc (Nat.le_refl _) _).trans (hb1.mono (by simp))
  obtain ⟨-, -, -, -, -, y5⟩ := bx6 ((hb1.block w.heap.size (by simp)).trans HX.out)
  have hlt : w.heap.size < w1.heap.size := by have := hb1.size; simp at this; omega
  have HB0 := Lib.hid hb0
  clear hb1 hb0
  cases ho : ofB l z p with
  | false =>
    rw [ho] at HB
    clear ho
    go_wp2_with fail
    go_ret
    refine ⟨by rw [HB.out]; rfl, ?_⟩
    have := HB0.out.size
    exact ((((HB0.out.alloc HB0.out.size _)))) 
  | true =>
    rw [ho] at HB
    clear ho
    by_cases h32 : n = 32
    · have hn : ((n : Int) == 32) = true := by simp; omega
      have HB2 : Hid (manB l z p n = true) := by show _ = _; rw [HB.out]; simp [h32]
      clear h32
      go_wp2_with fail
      go_ret
      exact ⟨by rw [HB2.out]; rfl, HB0.out.alloc HB0.out.size _⟩
    · have hn : ((n : Int) == 32) = false := by simp; omega
      have HB2 : Hid (manB l z p n = false) := by show _ = _; rw [HB.out]; simp [h32]
      clear h32
      go_wp2_with fail
      go_ret
      exact ⟨by rw [HB2.out]; rfl, HB0.out.alloc HB0.out.size _⟩
end Go.Proofs.YtidcnoejihjgjaaGreatDoor
