/- The reference's Count, May, MayManifest, SameManifest: by contracts. -/
import Derived.Test.YtmncpgfdpcckpaaGreatDoorZSQN
import Derived.Test.YtmncpgfdpcckpaaGreatDoorZVQN
import Derived.Test.YtmncpgfdpcckpaaGreatDoorZAQN
set_option maxRecDepth 100000
namespace Go.Proofs.YtmncpgfdpcckpaaGreatDoor
open Go.RowKit
theorem zqt {P : Program} {md : Region.Mode} {ops : Array Oper} {Q : Exit → Act → World → Prop} {S : World → Prop} {i : Nat} {d : Option Nat} {oi : Oper} {v : Value} {fuel : Nat} {listed : Array Bool} {a : Act} {w : World} (hi : ops[i]? = some oi) (hd : oi.dst = d := by rfl) (hs : Region.noSelect ops = true := by kernel_rfl) (hf : Region.free md ops listed i = true := by kernel_rfl) (hr : (Region.ready md ops listed).contains i = true := by kernel_rfl) (hQ : ∀ c a w, Q (.panic c) (a.put oi.dst v) w → Q (.panic c) a w := by exact fun _ _ _ h => h) (y1 : Region.wanted oi (yielded ops a.tmps) = true := by rfl) (y : ∀ w', S w' → ((execOp a.eval oi).run P w') = .ok (.value v) w' := by intro w' hSw; clear hSw; go_simp; try with_reducible rfl) (s : S w)
    (h : wpAnyH P md ops Q S fuel (listed.setIfInBounds i true) (a.put d v) w) : wpAnyH P md ops Q S (fuel + 1) listed a w := wpAnyH_take hi hs hf hr hQ (Or.inl ⟨y1, y⟩) s (hd ▸ h)
theorem rcnt_any (a b : Int) (w : World) : Calls Tryz.prog 89 #[.int .i64 a, .int .i64 b] w fun e w' => e = .returned (.int .i64 (BlkM.count a b : Nat)) ∧ w = w' := by
 by_cases h : a < 1 ∨ 512 < a ∨ b < 1 ∨ 16 < b
 ·have hz : BlkM.count a b = 0 := by simp [BlkM.count, h]
  rw [hz]
  by_cases h1 : a < 1
  ·go_enter Tryz.func89, Tryz.ntmps89
   go_wp2_with fail
   go_ret
   exact ⟨rfl, rfl⟩
  by_cases h2 : 512 < a
  ·go_enter Tryz.func89, Tryz.ntmps89
   go_wp2_with fail
   go_ret
   exact ⟨rfl, rfl⟩
  by_cases h3 : b < 1
  ·go_enter Tryz.func89, Tryz.ntmps89
   go_wp2_with fail
   go_ret
   exact ⟨rfl, rfl⟩
  have h4 : 16 < b := by omega
  clear h
  go_enter Tryz.func89, Tryz.ntmps89
  go_wp2_with fail
  go_ret
  exact ⟨rfl, rfl⟩
 ·obtain ⟨q1, q2, _, _⟩ := quo_bounds a b (by omega) (by omega) (by omega) (by omega)
  have hc : BlkM.count a b = if 64 < (a + b - 1) / b then 0 else ((a + b - 1) / b).toNat := by unfold BlkM.count; rw [if_neg h]
  have h1 : ¬ a < 1 := by omega
  have h2 : a ≤ 512 := by omega
  have h3 : ¬ b < 1 := by omega
  have h4 : b ≤ 16 := by omega
  have h5 : ¬ b = 0 := by omega
  by_cases hq : 64 < (a + b - 1) / b
  ·rw [hc, if_pos hq]
   clear hc h
   go_enter Tryz.func89, Tryz.ntmps89
   go_wp2_with fail
   go_ret
   exact ⟨rfl, rfl⟩
  ·rw [hc, if_neg hq, Int.toNat_of_nonneg (by omega)]
   clear hc h
   go_enter Tryz.func89, Tryz.ntmps89
   go_wp2_with fail
   go_ret
   exact ⟨rfl, rfl⟩
set_option maxHeartbeats 800000 in
theorem rpmay_any (s K P Z : Int) (w : World) : Calls Tryz.prog 90 #[.agg #[.int .u32 s, .int .i64 K, .int .i64 P, .int .i64 Z]] w fun e w' => e = .returned (.bool (mayB K P Z)) ∧ Below w.heap.size w w' := by
 go_enter Tryz.func90, Tryz.ntmps90
 go_wp2
 all_goals (go_ret; exact ⟨by simp [mayB, *]; try omega, (Below.refl _ _).alloc (Nat.le_refl _) _⟩)
theorem rcnt_eq (a b : Int) (K : Nat) (w : World) (h : Hid (BlkM.count a b = K)) : Calls Tryz.prog 89 #[.int .i64 a, .int .i64 b] w fun e w' => e = .returned (.int .i64 (K : Int)) ∧ w = w' := by
 rw [← h.out]; exact rcnt_any a b w
set_option maxHeartbeats 800000 in
theorem rmanSame_any (s v s' v' : Nat) (l z p l' z' p' : Int) (B n c n' c' : Nat) (A A' : Option Addr) (h h' : List UInt8) (w : World) (hl : Row w B A n (bv h)) (hl' : Row w B A' n' (bv h')) (hB : B ≤ w.heap.size) :
  Calls Tryz.prog 29 #[.agg #[.int .u32 (s : Int), .int .u32 (v : Int), .int .i64 l, .int .i64 z, .int .i64 p, .slice A n c], .agg #[.int .u32 (s' : Int), .int .u32 (v' : Int), .int .i64 l', .int .i64 z', .int .i64 p', .slice A' n' c']] w (fun e w' => ∃ b : Bool, e = .returned (.bool b) ∧ Hid (b = decide (s = s' ∧ v = v' ∧ l = l' ∧ z = z' ∧ p = p' ∧ h = h')) ∧ Below w.heap.size w w') := by
 have k1 : ∀ W, Below B w W → (convert 22 9 (.slice A n c)).run Tryz.prog W = .ok (.string ⟨h.toArray⟩) W := fun W hW => run_string_row (hl.below hW) _ _ _ 5 Tryz.underlying22 Tryz.underlying5 Tryz.underlying9
 have k2 : ∀ W, Below B w W → (convert 22 9 (.slice A' n' c')).run Tryz.prog W = .ok (.string ⟨h'.toArray⟩) W := fun W hW => run_string_row (hl'.below hW) _ _ _ 5 Tryz.underlying22 Tryz.underlying5 Tryz.underlying9
 have hb0 : Below w.heap.size w ((w.alloc (.cells #[.int .u32 (s : Int), .int .u32 (v : Int), .int .i64 l, .int .i64 z, .int .i64 p, .slice A n c] 37)).alloc (.cells #[.int .u32 (s' : Int), .int .u32 (v' : Int), .int .i64 l', .int .i64 z', .int .i64 p', .slice A' n' c'] 37)) := ((Below.refl _ _).alloc (Nat.le_refl _) _).alloc (by simp) _
 have q1 := k1 _ (hb0.mono hB)
 have q2 := k2 _ (hb0.mono hB)
 clear k1 k2
 by_cases h0 : s = s'
 case neg =>
  have hne : ((s : Int) == (s' : Int)) = false := by simp; omega
  have HN := Lib.hid h0
  clear h0
  go_enter Tryz.func29, Tryz.ntmps29
  go_wp2_with fail
  go_ret
  exact ⟨_, rfl, (by show _ = _; simp [HN.out]), hb0⟩
 subst h0
 by_cases h1 : v = v'
 case neg =>
  have hne : ((v : Int) == (v' : Int)) = false := by simp; omega
  have HN := Lib.hid h1
  clear h1
  go_enter Tryz.func29, Tryz.ntmps29
  go_wp2_with fail
  go_ret
  exact ⟨_, rfl, (by show _ = _; simp [HN.out]), hb0⟩
 subst h1
 by_cases h2 : l = l'
 case neg =>
  have hne : ((l : Int) == (l' : Int)) = false := by simp; omega
  have HN := Lib.hid h2
  clear h2
  go_enter Tryz.func29, Tryz.ntmps29
  go_wp2_with fail
  go_ret
  exact ⟨_, rfl, (by show _ = _; simp [HN.out]), hb0⟩
 subst h2
 by_cases h3 : z = z'
 case neg =>
  have hne : ((z : Int) == (z' : Int)) = false := by simp; omega
  have HN := Lib.hid h3
  clear h3
  go_enter Tryz.func29, Tryz.ntmps29
  go_wp2_with fail
  go_ret
  exact ⟨_, rfl, (by show _ = _; simp [HN.out]), hb0⟩
 subst h3
 by_cases h4 : p = p'
 case neg =>
  have hne : ((p : Int) == (p' : Int)) = false := by simp; omega
  have HN := Lib.hid h4
  clear h4
  go_enter Tryz.func29, Tryz.ntmps29
  go_wp2_with fail
  go_ret
  exact ⟨_, rfl, (by show _ = _; simp [HN.out]), hb0⟩
 subst h4
 go_enter Tryz.func29, Tryz.ntmps29
 go_wp2_with fail
 go_ret
 exact ⟨_, rfl, (by show _ = _; by_cases e : h = h' <;> simp [e]), hb0⟩
set_option maxHeartbeats 200000 in
theorem rpar_all (s v : Nat) (l z p : Int) (A : Option Addr) (n c : Nat) (w : World) :
  Calls Tryz.prog 55 #[.agg #[.int .u32 (s : Int), .int .u32 (v : Int), .int .i64 l, .int .i64 z, .int .i64 p, .slice A n c]] w (OfAll s l z p w) := by
 have hx1 := heap_alloc2_old w (.cells #[.int .u32 (s : Int), .int .u32 (v : Int), .int .i64 l, .int .i64 z, .int .i64 p, .slice A n c] 37) (.cells #[.int .u32 0, .int .i64 0, .int .i64 0, .int .i64 0] 76)
 have hx2 := heap_alloc2_new w (.cells #[.int .u32 (s : Int), .int .u32 (v : Int), .int .i64 l, .int .i64 z, .int .i64 p, .slice A n c] 37) (.cells #[.int .u32 0, .int .i64 0, .int .i64 0, .int .i64 0] 76)
 obtain ⟨N0, hK⟩ : ∃ N0, BlkM.count l z = N0 := ⟨_, rfl⟩
 have HK := Lib.hid hK
 have HX1 := Lib.hid hx1
 have HX2 := Lib.hid hx2
 clear hK hx1 hx2
 go_enter Tryz.func55, Tryz.ntmps55
 go_wp2_with fail
 have hx1 := HX1.out
 have hx2 := HX2.out
 have hb0 : Below w.heap.size w ((w.alloc (.cells #[.int .u32 (s : Int), .int .u32 (v : Int), .int .i64 l, .int .i64 z, .int .i64 p, .slice A n c] 37)).alloc (.cells #[.int .u32 0, .int .i64 0, .int .i64 0, .int .i64 0] 76)) := ((Below.refl _ _).alloc (Nat.le_refl _) _).alloc (by simp) _
 have hsz : ((w.alloc (.cells #[.int .u32 (s : Int), .int .u32 (v : Int), .int .i64 l, .int .i64 z, .int .i64 p, .slice A n c] 37)).alloc (.cells #[.int .u32 0, .int .i64 0, .int .i64 0, .int .i64 0] 76)).heap.size = w.heap.size + 2 := by simp
 have HSZ := Lib.hid hsz
 clear HX1 HX2 hsz
 generalize ((w.alloc (.cells #[.int .u32 (s : Int), .int .u32 (v : Int), .int .i64 l, .int .i64 z, .int .i64 p, .slice A n c] 37)).alloc (.cells #[.int .u32 0, .int .i64 0, .int .i64 0, .int .i64 0] 76)) = W0 at *
 obtain ⟨c0, c1, c2, c3, c4, c5⟩ := bx6 hx1
 have HX2 := Lib.hid hx2
 have HB0 := Lib.hid hb0
 clear hx1 hx2 hb0
 clear c1 c5
 have HC : Hid (∀ W, Below W0.heap.size W0 W → W.cell? ⟨w.heap.size, 0, none⟩ = some (.int .u32 (s : Int)) ∧ W.cell? ⟨w.heap.size, 2, none⟩ = some (.int .i64 l) ∧ W.cell? ⟨w.heap.size, 3, none⟩ = some (.int .i64 z) ∧ W.cell? ⟨w.heap.size, 4, none⟩ = some (.int .i64 p)) := by
  intro W hW
  have hl : w.heap.size < W0.heap.size := by have := HSZ.out; omega
  exact ⟨(hW.cell (p := ⟨_, _, none⟩) hl).trans c0, (hW.cell (p := ⟨_, _, none⟩) hl).trans c2, (hW.cell (p := ⟨_, _, none⟩) hl).trans c3, (hW.cell (p := ⟨_, _, none⟩) hl).trans c4⟩
 clear c0 c2 c3 c4
 -- REGION
 refine wp_region_noPanic ?_
 refine wp_region_held_drew (S := (fun W => Below W0.heap.size W0 W)) (by kernel_rfl) (Below.refl _ _).drew (fun hH0 => ?_)
 have hH0 : (fun W => Below W0.heap.size W0 W) W0.drew := hH0
 generalize W0.drew = wd at *
 have hWD : Below W0.heap.size W0 wd := hH0
 refine zqt (i := 0) (d := some 5) rfl (s := hH0) (h := ?_)
 try simp only [Act.put, zqa, zqb, zqc]
 refine zqt (i := 1) (d := some 6) rfl (y := by intro w' hSw; have z0 := HC.out _ hSw; clear hSw; go_simp; try with_reducible rfl) (s := hH0) (h := ?_)
 try simp only [Act.put, zqa, zqb, zqc]
 refine zqt (i := 2) (d := some 7) rfl (s := hH0) (h := ?_)
 try simp only [Act.put, zqa, zqb, zqc]
 refine zqt (i := 3) (d := some 8) rfl (y := by intro w' hSw; have z0 := HC.out _ hSw; clear hSw; go_simp; try with_reducible rfl) (s := hH0) (h := ?_)
 try simp only [Act.put, zqa, zqb, zqc]
 refine zqt (i := 4) (d := some 9) rfl (s := hH0) (h := ?_)
 try simp only [Act.put, zqa, zqb, zqc]
 refine zqt (i := 5) (d := some 10) rfl (y := by intro w' hSw; have z0 := HC.out _ hSw; clear hSw; go_simp; try with_reducible rfl) (s := hH0) (h := ?_)
 try simp only [Act.put, zqa, zqb, zqc]
 refine zqt (i := 7) (d := some 12) rfl (s := hH0) (h := ?_)
 try simp only [Act.put, zqa, zqb, zqc]
 refine zqt (i := 8) (d := some 13) rfl (y := by intro w' hSw; have z0 := HC.out _ hSw; clear hSw; go_simp; try with_reducible rfl) (s := hH0) (h := ?_)
 try simp only [Act.put, zqa, zqb, zqc]
 refine zqt (i := 9) (d := some 14) rfl (s := hH0) (h := ?_)
 try simp only [Act.put, zqa, zqb, zqc]
 refine zqt (i := 10) (d := some 15) rfl (y := by intro w' hSw; have z0 := HC.out _ hSw; clear hSw; go_simp; try with_reducible rfl) (s := hH0) (h := ?_)
 try simp only [Act.put, zqa, zqb, zqc]
 refine wpAnyH_ready (rs := [6, 12]) (by kernel_rfl) (by simp) ?_
 refine AllReadyH.cons (o := _) rfl (fun K hK => ?_) (AllReadyH.cons (o := _) rfl (fun K hK => ?_) AllReadyH.nil)
 ·go_simp
  (with_reducible refine (rcnt_eq l z N0 _ HK).mono ?_)
  rintro e' w' ⟨rfl, rfl⟩
  go_simp
  have hS911 : (fun W => Below W0.heap.size W0 W) wd := hH0
  refine hK.out _ _ hS911 (fun hH911 => ?_)
  clear hK K
  try simp only [Act.put, zqa, zqb, zqc]
  refine zqt (i := 11) (d := some 16) rfl (s := hH911) (h := ?_)
  try simp only [Act.put, zqa, zqb, zqc]
  refine wpAnyH_ready (rs := [12]) (by kernel_rfl) (by simp) ?_
  refine AllReadyH.cons (o := _) rfl (fun K hK => ?_) AllReadyH.nil
  go_simp
  have hS913 : (fun W => Below W0.heap.size W0 W) (wd.alloc (.cells #[.int .u32 0, .int .i64 0, .int .i64 0, .int .i64 0] 76)) := (hWD.alloc hWD.size _)
  refine hK.out _ _ hS913 (fun hH913 => ?_)
  clear hK K
  try simp only [Act.put, zqa, zqb, zqc]
  refine wpAnyH_ready (rs := [13]) (by kernel_rfl) (by simp) ?_
  refine AllReadyH.cons (o := _) rfl (fun K hK => ?_) AllReadyH.nil
  go_simp
  have hS914 : (fun W => Below W0.heap.size W0 W) (wd.alloc (.cells #[.int .u32 (s : Int), .int .i64 (N0 : Int), .int .i64 p, .int .i64 z] 76)) := (hWD.alloc hWD.size _)
  refine hK.out _ _ hS914 (fun hH914 => ?_)
  clear hK K
  try simp only [Act.put, zqa, zqb, zqc]
  refine wpAnyH_done (by kernel_rfl) ?_ _
  refine NoPanic.normal ?_
  go_wp2_with fail
  refine (rpmay_any s N0 p z _).mono ?_
  rintro e w2 ⟨rfl, hb2⟩
  have hq1 : w.heap.size + 1 < wd.heap.size := by have h1 := HSZ.out; have h2 := hWD.size; omega
  have hbd : Below w.heap.size w wd := HB0.out.trans (hWD.mono HB0.out.size)
  have hx2 : w2.heap[w.heap.size + 1]? = some (.cells #[.int .u32 0, .int .i64 0, .int .i64 0, .int .i64 0] 76 (0, 0)) := (hb2.block (w.heap.size + 1) (by simp; omega)).trans ((heap_alloc_old wd _ (by omega)).trans ((hWD.block (w.heap.size + 1) (by have := HSZ.out; omega)).trans HX2.out))
  have hx3 : w2.heap[wd.heap.size]? = some (.cells #[.int .u32 (s : Int), .int .i64 (N0 : Int), .int .i64 p, .int .i64 z] 76 (0, 0)) := (hb2.block wd.heap.size (by simp)).trans (heap_alloc_new wd _)
  have HBZ : Hid (Below w.heap.size w w2) := (hbd.alloc hbd.size _).trans (hb2.mono (by simp; have := hbd.size; omega))
  have HOF : Hid (ofB l z p = mayB (N0 : Int) p z) := by show _ = _; unfold ofB; rw [HK.out]
  obtain ⟨⟨y0, y1, y2, y3⟩, ⟨f0, f1, f2, f3⟩⟩ := bx4 hx2
  obtain ⟨⟨u0, u1, u2, u3⟩, -⟩ := bx4 hx3
  have HX3 := Lib.hid hx2
  clear hx2 hx3 hb2 hq1 hbd
  cases hm : mayB (N0 : Int) p z with
  | false =>
   rw [hm] at HOF
   clear hm
   go_wp2_with fail
   have hrow := set4 HX3.out (.int .u32 0) (.int .i64 0) (.int .i64 0) (.int .i64 0)
   refine bodyPost_ret (results_cell_tmp_row rfl _ _ (w.heap.size + 1) _ _ (0, 0) _ rfl hrow Tryz.underlying76 rfl (by kernel_rfl)) rfl ?_
   exact ⟨0, 0, 0, 0, by rw [HOF.out]; rfl, (((HBZ.out.setCell (by simp) _).setCell (by simp) _).setCell (by simp) _).setCell (by simp) _, fun h => by rw [HOF.out] at h; cases h⟩
  | true =>
   rw [hm] at HOF
   clear hm
   go_wp2_with fail
   have hrow := set4 HX3.out (.int .u32 (s : Int)) (.int .i64 (N0 : Int)) (.int .i64 p) (.int .i64 z)
   refine bodyPost_ret (results_cell_tmp_row rfl _ _ (w.heap.size + 1) _ _ (0, 0) _ rfl hrow Tryz.underlying76 rfl (by kernel_rfl)) rfl ?_
   exact ⟨s, N0, p, z, by rw [HOF.out]; rfl, (((HBZ.out.setCell (by simp) _).setCell (by simp) _).setCell (by simp) _).setCell (by simp) _, fun _ => ⟨rfl, by rw [HK.out], rfl, rfl⟩⟩
 ·go_simp
  have hS915 : (fun W => Below W0.heap.size W0 W) (wd.alloc (.cells #[.int .u32 0, .int .i64 0, .int .i64 0, .int .i64 0] 76)) := (hWD.alloc hWD.size _)
  refine hK.out _ _ hS915 (fun hH915 => ?_)
  clear hK K
  try simp only [Act.put, zqa, zqb, zqc]
  refine wpAnyH_ready (rs := [6]) (by kernel_rfl) (by simp) ?_
  refine AllReadyH.cons (o := _) rfl (fun K hK => ?_) AllReadyH.nil
  go_simp
  (with_reducible refine (rcnt_eq l z N0 _ HK).mono ?_)
  rintro e' w' ⟨rfl, rfl⟩
  go_simp
  have hS916 : (fun W => Below W0.heap.size W0 W) (wd.alloc (.cells #[.int .u32 0, .int .i64 0, .int .i64 0, .int .i64 0] 76)) := hH915
  refine hK.out _ _ hS916 (fun hH916 => ?_)
  clear hK K
  try simp only [Act.put, zqa, zqb, zqc]
  refine zqt (i := 11) (d := some 16) rfl (s := hH916) (h := ?_)
  try simp only [Act.put, zqa, zqb, zqc]
  refine wpAnyH_ready (rs := [13]) (by kernel_rfl) (by simp) ?_
  refine AllReadyH.cons (o := _) rfl (fun K hK => ?_) AllReadyH.nil
  go_simp
  have hS918 : (fun W => Below W0.heap.size W0 W) (wd.alloc (.cells #[.int .u32 (s : Int), .int .i64 (N0 : Int), .int .i64 p, .int .i64 z] 76)) := (hWD.alloc hWD.size _)
  refine hK.out _ _ hS918 (fun hH918 => ?_)
  clear hK K
  try simp only [Act.put, zqa, zqb, zqc]
  refine wpAnyH_done (by kernel_rfl) ?_ _
  refine NoPanic.normal ?_
  go_wp2_with fail
  refine (rpmay_any s N0 p z _).mono ?_
  rintro e w2 ⟨rfl, hb2⟩
  have hq1 : w.heap.size + 1 < wd.heap.size := by have h1 := HSZ.out; have h2 := hWD.size; omega
  have hbd : Below w.heap.size w wd := HB0.out.trans (hWD.mono HB0.out.size)
  have hx2 : w2.heap[w.heap.size + 1]? = some (.cells #[.int .u32 0, .int .i64 0, .int .i64 0, .int .i64 0] 76 (0, 0)) := (hb2.block (w.heap.size + 1) (by simp; omega)).trans ((heap_alloc_old wd _ (by omega)).trans ((hWD.block (w.heap.size + 1) (by have := HSZ.out; omega)).trans HX2.out))
  have hx3 : w2.heap[wd.heap.size]? = some (.cells #[.int .u32 (s : Int), .int .i64 (N0 : Int), .int .i64 p, .int .i64 z] 76 (0, 0)) := (hb2.block wd.heap.size (by simp)).trans (heap_alloc_new wd _)
  have HBZ : Hid (Below w.heap.size w w2) := (hbd.alloc hbd.size _).trans (hb2.mono (by simp; have := hbd.size; omega))
  have HOF : Hid (ofB l z p = mayB (N0 : Int) p z) := by show _ = _; unfold ofB; rw [HK.out]
  obtain ⟨⟨y0, y1, y2, y3⟩, ⟨f0, f1, f2, f3⟩⟩ := bx4 hx2
  obtain ⟨⟨u0, u1, u2, u3⟩, -⟩ := bx4 hx3
  have HX3 := Lib.hid hx2
  clear hx2 hx3 hb2 hq1 hbd
  cases hm : mayB (N0 : Int) p z with
  | false =>
   rw [hm] at HOF
   clear hm
   go_wp2_with fail
   have hrow := set4 HX3.out (.int .u32 0) (.int .i64 0) (.int .i64 0) (.int .i64 0)
   refine bodyPost_ret (results_cell_tmp_row rfl _ _ (w.heap.size + 1) _ _ (0, 0) _ rfl hrow Tryz.underlying76 rfl (by kernel_rfl)) rfl ?_
   exact ⟨0, 0, 0, 0, by rw [HOF.out]; rfl, (((HBZ.out.setCell (by simp) _).setCell (by simp) _).setCell (by simp) _).setCell (by simp) _, fun h => by rw [HOF.out] at h; cases h⟩
  | true =>
   rw [hm] at HOF
   clear hm
   go_wp2_with fail
   have hrow := set4 HX3.out (.int .u32 (s : Int)) (.int .i64 (N0 : Int)) (.int .i64 p) (.int .i64 z)
   refine bodyPost_ret (results_cell_tmp_row rfl _ _ (w.heap.size + 1) _ _ (0, 0) _ rfl hrow Tryz.underlying76 rfl (by kernel_rfl)) rfl ?_
   exact ⟨s, N0, p, z, by rw [HOF.out]; rfl, (((HBZ.out.setCell (by simp) _).setCell (by simp) _).setCell (by simp) _).setCell (by simp) _, fun _ => ⟨rfl, by rw [HK.out], rfl, rfl⟩⟩
theorem rpar_any (s v : Nat) (l z p : Int) (A : Option Addr) (n c : Nat) (w : World) :
  Calls Tryz.prog 55 #[.agg #[.int .u32 (s : Int), .int .u32 (v : Int), .int .i64 l, .int .i64 z, .int .i64 p, .slice A n c]] w (OfOk l z p w) :=
 (rpar_all s v l z p A n c w).mono fun _ _ ⟨q, K, P, Z, h1, h2, _⟩ => ⟨q, K, P, Z, h1, h2⟩
set_option maxHeartbeats 400000 in
theorem rmanMay_any (s v : Nat) (l z p : Int) (A : Option Addr) (n c : Nat) (w : World) :
  Calls Tryz.prog 121 #[.agg #[.int .u32 (s : Int), .int .u32 (v : Int), .int .i64 l, .int .i64 z, .int .i64 p, .slice A n c]] w fun e w' => e = .returned (.bool (manB l z p n)) ∧ Below w.heap.size w w' := by
 have hx := heap_alloc_new w (.cells #[.int .u32 (s : Int), .int .u32 (v : Int), .int .i64 l, .int .i64 z, .int .i64 p, .slice A n c] 37)
 have HX := Lib.hid hx
 clear hx
 have HB : Hid (manB l z p n = (ofB l z p && decide (n = 32))) := rfl
 go_enter Tryz.func121, Tryz.ntmps121
 go_wp2_with fail
 refine (rpar_any s v l z p A n c _).mono ?_
 rintro e w1 ⟨s', K', P', Z', rfl, hb1⟩
 have hb0 : Below w.heap.size w w1 := ((Below.refl _ _).alloc (Nat.le_refl _) _).trans (hb1.mono (by simp))
 obtain ⟨-, -, -, -, -, y5⟩ := bx6 ((hb1.block w.heap.size (by simp)).trans HX.out)
 have hlt : w.heap.size < w1.heap.size := by have := hb1.size; simp at this; omega
 have HB0 := Lib.hid hb0
 clear hb1 hb0
 cases ho : ofB l z p with
 | false =>
  rw [ho] at HB
  clear ho
  go_wp2_with fail
  go_ret
  refine ⟨by rw [HB.out]; rfl, ?_⟩
  have := HB0.out.size
  exact ((((HB0.out.alloc HB0.out.size _))))
 | true =>
  rw [ho] at HB
  clear ho
  by_cases h32 : n = 32
  ·have hn : ((n : Int) == 32) = true := by simp; omega
   have HB2 : Hid (manB l z p n = true) := by show _ = _; rw [HB.out]; simp [h32]
   clear h32
   go_wp2_with fail
   go_ret
   exact ⟨by rw [HB2.out]; rfl, HB0.out.alloc HB0.out.size _⟩
  ·have hn : ((n : Int) == 32) = false := by simp; omega
   have HB2 : Hid (manB l z p n = false) := by show _ = _; rw [HB.out]; simp [h32]
   clear h32
   go_wp2_with fail
   go_ret
   exact ⟨by rw [HB2.out]; rfl, HB0.out.alloc HB0.out.size _⟩
end Go.Proofs.YtmncpgfdpcckpaaGreatDoor
namespace Go.Proofs.YtmncpgfdpcckpaaGreatDoor
open Go.RowKit
theorem row_box {W : World} {g : Nat} {cs : Array Value} {t : TypeId} (h : W.heap[g]? = some (.cells cs t (0, 0))) : Row W W.heap.size (some ⟨g, 0, none⟩) cs.size cs.toList := by
 refine ⟨by simp, fun _ => ⟨g, 0, rfl, (Array.getElem?_eq_some_iff.1 h).1, fun j v hv => ?_⟩⟩
 rw [Nat.zero_add, cell_of_row W g j cs t (0, 0) h]
 simpa using hv
theorem join_box {W : World} {g : Nat} (es : List BRow) (k : Nat) (hk : es.length = k) {cs : Array Value} (hc : cs = (es.map BRow.val).toArray) (hg : W.heap[g]? = some (.cells cs 22 (0, 0))) (hr : ∀ r ∈ es, RowP W (fun _ => True) r.A r.n (bv r.l)) (hn : es.length ≤ 1000) (hm : (flat es).length ≤ 1000000) {l : List UInt8} (hl : flat es = l) :
  Calls Tryz.prog 85 #[.slice (some ⟨g, 0, none⟩) k k] W (FreshBytes W.heap.size l W) := by
 subst hk hl hc
 have h1 := row_box hg
 refine join_any W.heap.size es.length es.length (some ⟨g, 0, none⟩) es W ⟨?_, fun r h => (hr r h).row⟩ (by omega) (by omega) (Nat.le_refl _)
 simpa using h1
theorem rtwo_cells (n : Nat) (h : n ≤ 512) : [Value.int .u8 ((n : Int) / 256), Value.int .u8 ((n : Int) % 256)] = bv [UInt8.ofNat (n / 256), UInt8.ofNat n] := by
 simp [bv]
 omega
theorem rtwo_any (n : Nat) (h : n ≤ 512) (w : World) : Calls Tryz.prog 87 #[.int .i64 (n : Int)] w (FreshBytes w.heap.size [UInt8.ofNat (n / 256), UInt8.ofNat n] w) := by
 go_enter Tryz.func87, Tryz.ntmps87
 go_wp2_with fail
 go_ret
 refine ⟨some ⟨w.heap.size, 0, none⟩, 2, 2, rfl, rfl, ?_, (Below.refl _ _).alloc (Nat.le_refl _) _⟩
 rw [← rtwo_cells n h]
 exact own_lit _ rfl (Nat.le_refl _) rfl (by unfold maxLen; omega)
theorem zp_cells (Z P : Nat) (hz : Z ≤ 16) (hp : P ≤ 16) : (#[Value.int .u8 (Z : Int), Value.int .u8 (P : Int)] : Array Value).toList = bv [UInt8.ofNat Z, UInt8.ofNat P] := by
 simp [bv]
 omega
theorem w8 (Z : Nat) (hz : Z ≤ 16) : IntKind.u8.wrap (Z : Int) = (Z : Int) := by rw [IntKind.wrap_u8]; omega
def RPlainOk (l : List UInt8) (w : World) (e : Ending) (w' : World) : Prop := ∃ A n c, e = .returned (.tuple #[.slice A n c, .int .i64 0]) ∧ Hid (n = l.length) ∧ Hid (w'.ownsRow w.heap.size 5 1 (.slice A n c) n (bv l)) ∧ Hid (Below w.heap.size w w')
set_option maxHeartbeats 3200000 in
theorem rplain_yes (s v L Z P : Nat) (A : Option Addr) (c : Nat) (h : List UInt8) (w : World) (hs : s < 4294967296) (hv : v < 4294967296) (hL : L ≤ 512) (hZ : Z ≤ 16) (hP : P ≤ 16) (hm : manB L Z P 32 = true) (hl : Row w w.heap.size A 32 (bv h)) :
  Calls Tryz.prog 84 #[.agg #[.int .u32 (s : Int), .int .u32 (v : Int), .int .i64 (L : Int), .int .i64 (Z : Int), .int .i64 (P : Int), .slice A 32 c]] w (RPlainOk (plainB s v L Z P h) w) := by
 have HS := Lib.hid (show s < 2 ^ 32 by omega)
 have HV := Lib.hid (show v < 2 ^ 32 by omega)
 have HLL := Lib.hid hL
 have HZ := Lib.hid hZ
 have HP := Lib.hid hP
 have HM := Lib.hid hm
 have HZ8 := Lib.hid (w8 Z hZ)
 have HP8 := Lib.hid (w8 P hP)
 have hb0 : Below w.heap.size w (w.alloc (.cells #[.int .u32 (s : Int), .int .u32 (v : Int), .int .i64 (L : Int), .int .i64 (Z : Int), .int .i64 (P : Int), .slice A 32 c] 37)) := (Below.refl _ _).alloc (Nat.le_refl _) _
 have X0 := Lib.hid (heap_alloc_new w (.cells #[.int .u32 (s : Int), .int .u32 (v : Int), .int .i64 (L : Int), .int .i64 (Z : Int), .int .i64 (P : Int), .slice A 32 c] 37))
 have HR := Lib.hid (RowP.of_row ((hl.below hb0).more hb0.size))
 have B0 := Lib.hid hb0
 have HH := Lib.hid hl.blen
 clear hs hv hL hZ hP hm hl hb0
 go_enter Tryz.func84, Tryz.ntmps84
 go_wp2_with fail
 refine (rmanMay_any s v L Z P A 32 c _).mono ?_
 generalize w.alloc (.cells #[.int .u32 (s : Int), .int .u32 (v : Int), .int .i64 (L : Int), .int .i64 (Z : Int), .int .i64 (P : Int), .slice A 32 c] 37) = w0 at *
 rintro e w1 ⟨rfl, hb1⟩
 rw [HM.out]
 have X1 := Lib.hid ((hb1.block w.heap.size (Array.getElem?_eq_some_iff.1 X0.out).1).trans X0.out)
 have R1 := Lib.hid (HR.out.below hb1)
 have B1 := Lib.hid (B0.out.trans (hb1.mono B0.out.size))
 clear hb1 X0 HR B0
 go_upto_region 3 with fail
 have HC : Hid (∀ W, Below w1.heap.size w1 W → W.cell? ⟨w.heap.size, 0, none⟩ = some (.int .u32 (s : Int)) ∧ W.cell? ⟨w.heap.size, 1, none⟩ = some (.int .u32 (v : Int)) ∧ W.cell? ⟨w.heap.size, 2, none⟩ = some (.int .i64 (L : Int)) ∧ W.cell? ⟨w.heap.size, 3, none⟩ = some (.int .i64 (Z : Int)) ∧ W.cell? ⟨w.heap.size, 4, none⟩ = some (.int .i64 (P : Int)) ∧ W.cell? ⟨w.heap.size, 5, none⟩ = some (.slice A 32 c)) := Lib.hid fun W hW => bx6 ((hW.block w.heap.size (Array.getElem?_eq_some_iff.1 X1.out).1).trans X1.out)
 have HRW : Hid (∀ W, Below w1.heap.size w1 W → RowP W (fun _ => True) A 32 (bv h)) := Lib.hid fun W hW => R1.out.below hW
 clear X1 R1
 refine wp_region_noPanic ?_
 refine wp_region_held_drew (S := (fun W => Below (w1.heap.size) w1 W)) (by kernel_rfl) (Below.refl _ _).drew (fun hH0 => ?_)
 have hH0 : Below (w1.heap.size) w1 w1.drew := hH0
 generalize w1.drew = wd3000 at *
 refine zqt (i := 0) (d := some 7) rfl (s := hH0) (h := ?_)
 try simp only [Act.put, zqa, zqb, zqc]
 refine zqt (i := 1) (d := some 8) rfl (y := by intro w' hSw; have z0 := HC.out _ hSw; clear hSw; go_simp; try with_reducible rfl) (s := hH0) (h := ?_)
 try simp only [Act.put, zqa, zqb, zqc]
 refine zqt (i := 3) (d := some 10) rfl (s := hH0) (h := ?_)
 try simp only [Act.put, zqa, zqb, zqc]
 refine zqt (i := 4) (d := some 11) rfl (y := by intro w' hSw; have z0 := HC.out _ hSw; clear hSw; go_simp; try with_reducible rfl) (s := hH0) (h := ?_)
 try simp only [Act.put, zqa, zqb, zqc]
 refine zqt (i := 6) (d := some 13) rfl (s := hH0) (h := ?_)
 try simp only [Act.put, zqa, zqb, zqc]
 refine zqt (i := 7) (d := some 14) rfl (y := by intro w' hSw; have z0 := HC.out _ hSw; clear hSw; go_simp; try with_reducible rfl) (s := hH0) (h := ?_)
 try simp only [Act.put, zqa, zqb, zqc]
 refine zqt (i := 9) (d := some 16) rfl (s := hH0) (h := ?_)
 try simp only [Act.put, zqa, zqb, zqc]
 refine zqt (i := 10) (d := some 17) rfl (y := by intro w' hSw; have z0 := HC.out _ hSw; clear hSw; go_simp; try with_reducible rfl) (s := hH0) (h := ?_)
 try simp only [Act.put, zqa, zqb, zqc]
 refine zqt (i := 11) (d := some 18) rfl (y := by intro w' hSw; have z0 := HC.out _ hSw; have q8 := HZ8.out; clear hSw; go_simp; try with_reducible rfl) (s := hH0) (h := ?_)
 try simp only [Act.put, zqa, zqb, zqc]
 refine zqt (i := 12) (d := some 19) rfl (s := hH0) (h := ?_)
 try simp only [Act.put, zqa, zqb, zqc]
 refine zqt (i := 13) (d := some 20) rfl (y := by intro w' hSw; have z0 := HC.out _ hSw; clear hSw; go_simp; try with_reducible rfl) (s := hH0) (h := ?_)
 try simp only [Act.put, zqa, zqb, zqc]
 refine zqt (i := 14) (d := some 21) rfl (y := by intro w' hSw; have z0 := HC.out _ hSw; have q8 := HP8.out; clear hSw; go_simp; try with_reducible rfl) (s := hH0) (h := ?_)
 try simp only [Act.put, zqa, zqb, zqc]
 refine zqt (i := 16) (d := some 23) rfl (s := hH0) (h := ?_)
 try simp only [Act.put, zqa, zqb, zqc]
 refine zqt (i := 17) (d := some 24) rfl (y := by intro w' hSw; have z0 := HC.out _ hSw; clear hSw; go_simp; try with_reducible rfl) (s := hH0) (h := ?_)
 try simp only [Act.put, zqa, zqb, zqc]
 refine wpAnyH_ready (rs := [2, 15]) (by kernel_rfl) (by simp) ?_
 refine AllReadyH.cons (o := { dst := some 9, op := Op.call { callee := Callee.value (Operand.func 81), args := #[Operand.tmp 8], argTypes := #[32] }, type := 22, pos := _, after := _, guard := none }) rfl (fun K hK => ?_) (AllReadyH.cons (o := { dst := some 22, op := Op.buildSlice 22 2 #[(0, Operand.tmp 18), (1, Operand.tmp 21)], type := 22, pos := _, after := _, guard := none }) rfl (fun K hK => ?_) AllReadyH.nil)
 ·go_simp
  refine (four_any s HS.out wd3000).mono ?_
  rintro e' wn3015 ⟨A3015, n3015, c3015, rfl, hn3015, ho3015, hb3015⟩
  have F3015 := Lib.hid (RowP.of_row (Row.of_own ho3015))
  go_simp
  have hS3015 : Below (w1.heap.size) w1 wn3015 := (hH0).trans (hb3015.mono (hH0).size)
  refine hK.out _ _ hS3015 (fun hH3015 => ?_)
  have hH3015 : Below (w1.heap.size) w1 wn3015 := hH3015
  clear hK K hS3015
  try simp only [Act.put, zqa, zqb, zqc]
  refine wpAnyH_ready (rs := [5, 15]) (by kernel_rfl) (by simp) ?_
  refine AllReadyH.cons (o := { dst := some 12, op := Op.call { callee := Callee.value (Operand.func 81), args := #[Operand.tmp 11], argTypes := #[32] }, type := 22, pos := _, after := _, guard := none }) rfl (fun K hK => ?_) (AllReadyH.cons (o := { dst := some 22, op := Op.buildSlice 22 2 #[(0, Operand.tmp 18), (1, Operand.tmp 21)], type := 22, pos := _, after := _, guard := none }) rfl (fun K hK => ?_) AllReadyH.nil)
  ·go_simp
   refine (four_any v HV.out wn3015).mono ?_
   rintro e' wn3016 ⟨A3016, n3016, c3016, rfl, hn3016, ho3016, hb3016⟩
   have F3016 := Lib.hid (RowP.of_row (Row.of_own ho3016))
   go_simp
   have F3015_3016 := Lib.hid (F3015.out.below hb3016)
   have hS3016 : Below (w1.heap.size) w1 wn3016 := (hH3015).trans (hb3016.mono (hH3015).size)
   refine hK.out _ _ hS3016 (fun hH3016 => ?_)
   have hH3016 : Below (w1.heap.size) w1 wn3016 := hH3016
   clear hK K hS3016
   try simp only [Act.put, zqa, zqb, zqc]
   refine wpAnyH_ready (rs := [8, 15]) (by kernel_rfl) (by simp) ?_
   refine AllReadyH.cons (o := { dst := some 15, op := Op.call { callee := Callee.value (Operand.func 87), args := #[Operand.tmp 14], argTypes := #[3] }, type := 22, pos := _, after := _, guard := none }) rfl (fun K hK => ?_) (AllReadyH.cons (o := { dst := some 22, op := Op.buildSlice 22 2 #[(0, Operand.tmp 18), (1, Operand.tmp 21)], type := 22, pos := _, after := _, guard := none }) rfl (fun K hK => ?_) AllReadyH.nil)
   ·go_simp
    refine (rtwo_any L HLL.out wn3016).mono ?_
    rintro e' wn3017 ⟨A3017, n3017, c3017, rfl, hn3017, ho3017, hb3017⟩
    have F3017 := Lib.hid (RowP.of_row (Row.of_own ho3017))
    go_simp
    have F3015_3017 := Lib.hid (F3015_3016.out.below hb3017)
    have F3016_3017 := Lib.hid (F3016.out.below hb3017)
    have hS3017 : Below (w1.heap.size) w1 wn3017 := (hH3016).trans (hb3017.mono (hH3016).size)
    refine hK.out _ _ hS3017 (fun hH3017 => ?_)
    have hH3017 : Below (w1.heap.size) w1 wn3017 := hH3017
    clear hK K hS3017
    try simp only [Act.put, zqa, zqb, zqc]
    refine wpAnyH_ready (rs := [15]) (by kernel_rfl) (by simp) ?_
    refine AllReadyH.cons (o := { dst := some 22, op := Op.buildSlice 22 2 #[(0, Operand.tmp 18), (1, Operand.tmp 21)], type := 22, pos := _, after := _, guard := none }) rfl (fun K hK => ?_) AllReadyH.nil
    go_simp
    have hb3018 : Below wn3017.heap.size wn3017 (wn3017.alloc (.cells #[.int .u8 (Z : Int), .int .u8 (P : Int)] 5)) := (Below.refl _ _).alloc (Nat.le_refl _) _
    have BX3018 : Hid ((wn3017.alloc (.cells #[.int .u8 (Z : Int), .int .u8 (P : Int)] 5)).heap[wn3017.heap.size]? = some (.cells #[.int .u8 (Z : Int), .int .u8 (P : Int)] 5 (0, 0))) := Lib.hid (heap_alloc_new _ _)
    have LX3018 : Hid (wn3017.heap.size < (wn3017.alloc (.cells #[.int .u8 (Z : Int), .int .u8 (P : Int)] 5)).heap.size) := Lib.hid (by simp)
    generalize (wn3017.alloc (.cells #[.int .u8 (Z : Int), .int .u8 (P : Int)] 5)) = wn3018 at *
    have F3015_3018 := Lib.hid (F3015_3017.out.below hb3018)
    have F3016_3018 := Lib.hid (F3016_3017.out.below hb3018)
    have F3017_3018 := Lib.hid (F3017.out.below hb3018)
    have hS3018 : Below (w1.heap.size) w1 wn3018 := (hH3017).trans (hb3018.mono (hH3017).size)
    refine hK.out _ _ hS3018 (fun hH3018 => ?_)
    have hH3018 : Below (w1.heap.size) w1 wn3018 := hH3018
    clear hK K hS3018
    try simp only [Act.put, zqa, zqb, zqc]
    refine wpAnyH_ready (rs := [18]) (by kernel_rfl) (by simp) ?_
    refine AllReadyH.cons (o := { dst := some 25, op := Op.buildSlice 102 5 #[(0, Operand.tmp 9), (1, Operand.tmp 12), (2, Operand.tmp 15), (3, Operand.tmp 22), (4, Operand.tmp 24)], type := 102, pos := _, after := _, guard := none }) rfl (fun K hK => ?_) AllReadyH.nil
    go_simp
    have hb3019 : Below wn3018.heap.size wn3018 (wn3018.alloc (.cells #[.slice A3015 n3015 c3015, .slice A3016 n3016 c3016, .slice A3017 n3017 c3017, .slice (some ⟨wn3017.heap.size, 0, none⟩) 2 2, .slice A 32 c] 22)) := (Below.refl _ _).alloc (Nat.le_refl _) _
    have BX3019 : Hid ((wn3018.alloc (.cells #[.slice A3015 n3015 c3015, .slice A3016 n3016 c3016, .slice A3017 n3017 c3017, .slice (some ⟨wn3017.heap.size, 0, none⟩) 2 2, .slice A 32 c] 22)).heap[wn3018.heap.size]? = some (.cells #[.slice A3015 n3015 c3015, .slice A3016 n3016 c3016, .slice A3017 n3017 c3017, .slice (some ⟨wn3017.heap.size, 0, none⟩) 2 2, .slice A 32 c] 22 (0, 0))) := Lib.hid (heap_alloc_new _ _)
    have LX3019 : Hid (wn3018.heap.size < (wn3018.alloc (.cells #[.slice A3015 n3015 c3015, .slice A3016 n3016 c3016, .slice A3017 n3017 c3017, .slice (some ⟨wn3017.heap.size, 0, none⟩) 2 2, .slice A 32 c] 22)).heap.size) := Lib.hid (by simp)
    generalize (wn3018.alloc (.cells #[.slice A3015 n3015 c3015, .slice A3016 n3016 c3016, .slice A3017 n3017 c3017, .slice (some ⟨wn3017.heap.size, 0, none⟩) 2 2, .slice A 32 c] 22)) = wn3019 at *
    have F3015_3019 := Lib.hid (F3015_3018.out.below hb3019)
    have F3016_3019 := Lib.hid (F3016_3018.out.below hb3019)
    have F3017_3019 := Lib.hid (F3017_3018.out.below hb3019)
    have BX3018_3019 := Lib.hid ((hb3019.block wn3017.heap.size LX3018.out).trans BX3018.out)
    have LX3018_3019 := Lib.hid (Nat.lt_of_lt_of_le LX3018.out hb3019.size)
    have hS3019 : Below (w1.heap.size) w1 wn3019 := (hH3018).trans (hb3019.mono (hH3018).size)
    refine hK.out _ _ hS3019 (fun hH3019 => ?_)
    have hH3019 : Below (w1.heap.size) w1 wn3019 := hH3019
    clear hK K hS3019
    try simp only [Act.put, zqa, zqb, zqc]
    refine wpAnyH_ready (rs := [19]) (by kernel_rfl) (by simp) ?_
    refine AllReadyH.cons (o := { dst := some 26, op := Op.call { callee := Callee.value (Operand.func 85), args := #[Operand.tmp 25], argTypes := #[102] }, type := 22, pos := _, after := _, guard := none }) rfl (fun K hK => ?_) AllReadyH.nil
    go_simp
    have zr3020 : RowP wn3019 (fun _ => True) (some ⟨wn3017.heap.size, 0, none⟩) 2 (bv [UInt8.ofNat Z, UInt8.ofNat P]) := by
     rw [← zp_cells Z P HZ.out HP.out]; exact RowP.of_row (row_box BX3018_3019.out)
    refine (join_box [⟨A3015, n3015, c3015, CrcM.four s⟩, ⟨A3016, n3016, c3016, CrcM.four v⟩, ⟨A3017, n3017, c3017, [UInt8.ofNat (L / 256), UInt8.ofNat L]⟩, ⟨some ⟨wn3017.heap.size, 0, none⟩, 2, 2, [UInt8.ofNat Z, UInt8.ofNat P]⟩, ⟨A, 32, c, h⟩] 5 rfl rfl BX3019.out (by
     intro r hr
     simp only [List.mem_cons, List.not_mem_nil, or_false] at hr
     rcases hr with rfl | rfl | rfl | rfl | rfl
     ·exact F3015_3019.out
     ·exact F3016_3019.out
     ·exact F3017_3019.out
     ·exact zr3020
     ·exact HRW.out _ (hH3019)) (by simp) (by simp [flat, HH.out, CrcM.four]) (l := plainB s v L Z P h) (by simp [flat, plainB])).mono ?_
    rintro e' wn3020 ⟨A3020, n3020, c3020, rfl, hn3020, ho3020, hb3020⟩
    have hbase3020 : w1.heap.size ≤ wn3019.heap.size := (hH3019).size
    go_simp
    have F3015_3020 := Lib.hid (F3015_3019.out.below hb3020)
    have F3016_3020 := Lib.hid (F3016_3019.out.below hb3020)
    have F3017_3020 := Lib.hid (F3017_3019.out.below hb3020)
    have BX3018_3020 := Lib.hid ((hb3020.block wn3017.heap.size LX3018_3019.out).trans BX3018_3019.out)
    have LX3018_3020 := Lib.hid (Nat.lt_of_lt_of_le LX3018_3019.out hb3020.size)
    have BX3019_3020 := Lib.hid ((hb3020.block wn3018.heap.size LX3019.out).trans BX3019.out)
    have LX3019_3020 := Lib.hid (Nat.lt_of_lt_of_le LX3019.out hb3020.size)
    have hS3020 : Below (w1.heap.size) w1 wn3020 := (hH3019).trans (hb3020.mono (hH3019).size)
    refine hK.out _ _ hS3020 (fun hH3020 => ?_)
    have hH3020 : Below (w1.heap.size) w1 wn3020 := hH3020
    clear hK K hS3020
    try simp only [Act.put, zqa, zqb, zqc]
    refine zqt (i := 20) (d := some 2) rfl (s := hH3020) (h := ?_)
    try simp only [Act.put, zqa, zqb, zqc]
    refine zqt (i := 21) (d := some 3) rfl (s := hH3020) (h := ?_)
    try simp only [Act.put, zqa, zqb, zqc]
    refine wpAnyH_done (by kernel_rfl) ?_ _
    refine NoPanic.normal ?_
    have hend := B1.out.trans ((hH3020).mono B1.out.size)
    have hown := own_base ho3020 (show w.heap.size ≤ _ from Nat.le_trans B1.out.size hbase3020)
    have hlen := hn3020
    go_wp2_with fail
    go_ret2
    exact ⟨_, _, _, rfl, hlen, Lib.hid hown, Lib.hid hend⟩
   ·go_simp
    have hb3023 : Below wn3016.heap.size wn3016 (wn3016.alloc (.cells #[.int .u8 (Z : Int), .int .u8 (P : Int)] 5)) := (Below.refl _ _).alloc (Nat.le_refl _) _
    have BX3023 : Hid ((wn3016.alloc (.cells #[.int .u8 (Z : Int), .int .u8 (P : Int)] 5)).heap[wn3016.heap.size]? = some (.cells #[.int .u8 (Z : Int), .int .u8 (P : Int)] 5 (0, 0))) := Lib.hid (heap_alloc_new _ _)
    have LX3023 : Hid (wn3016.heap.size < (wn3016.alloc (.cells #[.int .u8 (Z : Int), .int .u8 (P : Int)] 5)).heap.size) := Lib.hid (by simp)
    generalize (wn3016.alloc (.cells #[.int .u8 (Z : Int), .int .u8 (P : Int)] 5)) = wn3023 at *
    have F3015_3023 := Lib.hid (F3015_3016.out.below hb3023)
    have F3016_3023 := Lib.hid (F3016.out.below hb3023)
    have hS3023 : Below (w1.heap.size) w1 wn3023 := (hH3016).trans (hb3023.mono (hH3016).size)
    refine hK.out _ _ hS3023 (fun hH3023 => ?_)
    have hH3023 : Below (w1.heap.size) w1 wn3023 := hH3023
    clear hK K hS3023
    try simp only [Act.put, zqa, zqb, zqc]
    refine wpAnyH_ready (rs := [8]) (by kernel_rfl) (by simp) ?_
    refine AllReadyH.cons (o := { dst := some 15, op := Op.call { callee := Callee.value (Operand.func 87), args := #[Operand.tmp 14], argTypes := #[3] }, type := 22, pos := _, after := _, guard := none }) rfl (fun K hK => ?_) AllReadyH.nil
    go_simp
    refine (rtwo_any L HLL.out wn3023).mono ?_
    rintro e' wn3024 ⟨A3024, n3024, c3024, rfl, hn3024, ho3024, hb3024⟩
    have F3024 := Lib.hid (RowP.of_row (Row.of_own ho3024))
    go_simp
    have F3015_3024 := Lib.hid (F3015_3023.out.below hb3024)
    have F3016_3024 := Lib.hid (F3016_3023.out.below hb3024)
    have BX3023_3024 := Lib.hid ((hb3024.block wn3016.heap.size LX3023.out).trans BX3023.out)
    have LX3023_3024 := Lib.hid (Nat.lt_of_lt_of_le LX3023.out hb3024.size)
    have hS3024 : Below (w1.heap.size) w1 wn3024 := (hH3023).trans (hb3024.mono (hH3023).size)
    refine hK.out _ _ hS3024 (fun hH3024 => ?_)
    have hH3024 : Below (w1.heap.size) w1 wn3024 := hH3024
    clear hK K hS3024
    try simp only [Act.put, zqa, zqb, zqc]
    refine wpAnyH_ready (rs := [18]) (by kernel_rfl) (by simp) ?_
    refine AllReadyH.cons (o := { dst := some 25, op := Op.buildSlice 102 5 #[(0, Operand.tmp 9), (1, Operand.tmp 12), (2, Operand.tmp 15), (3, Operand.tmp 22), (4, Operand.tmp 24)], type := 102, pos := _, after := _, guard := none }) rfl (fun K hK => ?_) AllReadyH.nil
    go_simp
    have hb3025 : Below wn3024.heap.size wn3024 (wn3024.alloc (.cells #[.slice A3015 n3015 c3015, .slice A3016 n3016 c3016, .slice A3024 n3024 c3024, .slice (some ⟨wn3016.heap.size, 0, none⟩) 2 2, .slice A 32 c] 22)) := (Below.refl _ _).alloc (Nat.le_refl _) _
    have BX3025 : Hid ((wn3024.alloc (.cells #[.slice A3015 n3015 c3015, .slice A3016 n3016 c3016, .slice A3024 n3024 c3024, .slice (some ⟨wn3016.heap.size, 0, none⟩) 2 2, .slice A 32 c] 22)).heap[wn3024.heap.size]? = some (.cells #[.slice A3015 n3015 c3015, .slice A3016 n3016 c3016, .slice A3024 n3024 c3024, .slice (some ⟨wn3016.heap.size, 0, none⟩) 2 2, .slice A 32 c] 22 (0, 0))) := Lib.hid (heap_alloc_new _ _)
    have LX3025 : Hid (wn3024.heap.size < (wn3024.alloc (.cells #[.slice A3015 n3015 c3015, .slice A3016 n3016 c3016, .slice A3024 n3024 c3024, .slice (some ⟨wn3016.heap.size, 0, none⟩) 2 2, .slice A 32 c] 22)).heap.size) := Lib.hid (by simp)
    generalize (wn3024.alloc (.cells #[.slice A3015 n3015 c3015, .slice A3016 n3016 c3016, .slice A3024 n3024 c3024, .slice (some ⟨wn3016.heap.size, 0, none⟩) 2 2, .slice A 32 c] 22)) = wn3025 at *
    have F3015_3025 := Lib.hid (F3015_3024.out.below hb3025)
    have F3016_3025 := Lib.hid (F3016_3024.out.below hb3025)
    have BX3023_3025 := Lib.hid ((hb3025.block wn3016.heap.size LX3023_3024.out).trans BX3023_3024.out)
    have LX3023_3025 := Lib.hid (Nat.lt_of_lt_of_le LX3023_3024.out hb3025.size)
    have F3024_3025 := Lib.hid (F3024.out.below hb3025)
    have hS3025 : Below (w1.heap.size) w1 wn3025 := (hH3024).trans (hb3025.mono (hH3024).size)
    refine hK.out _ _ hS3025 (fun hH3025 => ?_)
    have hH3025 : Below (w1.heap.size) w1 wn3025 := hH3025
    clear hK K hS3025
    try simp only [Act.put, zqa, zqb, zqc]
    refine wpAnyH_ready (rs := [19]) (by kernel_rfl) (by simp) ?_
    refine AllReadyH.cons (o := { dst := some 26, op := Op.call { callee := Callee.value (Operand.func 85), args := #[Operand.tmp 25], argTypes := #[102] }, type := 22, pos := _, after := _, guard := none }) rfl (fun K hK => ?_) AllReadyH.nil
    go_simp
    have zr3026 : RowP wn3025 (fun _ => True) (some ⟨wn3016.heap.size, 0, none⟩) 2 (bv [UInt8.ofNat Z, UInt8.ofNat P]) := by
     rw [← zp_cells Z P HZ.out HP.out]; exact RowP.of_row (row_box BX3023_3025.out)
    refine (join_box [⟨A3015, n3015, c3015, CrcM.four s⟩, ⟨A3016, n3016, c3016, CrcM.four v⟩, ⟨A3024, n3024, c3024, [UInt8.ofNat (L / 256), UInt8.ofNat L]⟩, ⟨some ⟨wn3016.heap.size, 0, none⟩, 2, 2, [UInt8.ofNat Z, UInt8.ofNat P]⟩, ⟨A, 32, c, h⟩] 5 rfl rfl BX3025.out (by
     intro r hr
     simp only [List.mem_cons, List.not_mem_nil, or_false] at hr
     rcases hr with rfl | rfl | rfl | rfl | rfl
     ·exact F3015_3025.out
     ·exact F3016_3025.out
     ·exact F3024_3025.out
     ·exact zr3026
     ·exact HRW.out _ (hH3025)) (by simp) (by simp [flat, HH.out, CrcM.four]) (l := plainB s v L Z P h) (by simp [flat, plainB])).mono ?_
    rintro e' wn3026 ⟨A3026, n3026, c3026, rfl, hn3026, ho3026, hb3026⟩
    have hbase3026 : w1.heap.size ≤ wn3025.heap.size := (hH3025).size
    go_simp
    have F3015_3026 := Lib.hid (F3015_3025.out.below hb3026)
    have F3016_3026 := Lib.hid (F3016_3025.out.below hb3026)
    have BX3023_3026 := Lib.hid ((hb3026.block wn3016.heap.size LX3023_3025.out).trans BX3023_3025.out)
    have LX3023_3026 := Lib.hid (Nat.lt_of_lt_of_le LX3023_3025.out hb3026.size)
    have F3024_3026 := Lib.hid (F3024_3025.out.below hb3026)
    have BX3025_3026 := Lib.hid ((hb3026.block wn3024.heap.size LX3025.out).trans BX3025.out)
    have LX3025_3026 := Lib.hid (Nat.lt_of_lt_of_le LX3025.out hb3026.size)
    have hS3026 : Below (w1.heap.size) w1 wn3026 := (hH3025).trans (hb3026.mono (hH3025).size)
    refine hK.out _ _ hS3026 (fun hH3026 => ?_)
    have hH3026 : Below (w1.heap.size) w1 wn3026 := hH3026
    clear hK K hS3026
    try simp only [Act.put, zqa, zqb, zqc]
    refine zqt (i := 20) (d := some 2) rfl (s := hH3026) (h := ?_)
    try simp only [Act.put, zqa, zqb, zqc]
    refine zqt (i := 21) (d := some 3) rfl (s := hH3026) (h := ?_)
    try simp only [Act.put, zqa, zqb, zqc]
    refine wpAnyH_done (by kernel_rfl) ?_ _
    refine NoPanic.normal ?_
    have hend := B1.out.trans ((hH3026).mono B1.out.size)
    have hown := own_base ho3026 (show w.heap.size ≤ _ from Nat.le_trans B1.out.size hbase3026)
    have hlen := hn3026
    go_wp2_with fail
    go_ret2
    exact ⟨_, _, _, rfl, hlen, Lib.hid hown, Lib.hid hend⟩
  ·go_simp
   have hb3029 : Below wn3015.heap.size wn3015 (wn3015.alloc (.cells #[.int .u8 (Z : Int), .int .u8 (P : Int)] 5)) := (Below.refl _ _).alloc (Nat.le_refl _) _
   have BX3029 : Hid ((wn3015.alloc (.cells #[.int .u8 (Z : Int), .int .u8 (P : Int)] 5)).heap[wn3015.heap.size]? = some (.cells #[.int .u8 (Z : Int), .int .u8 (P : Int)] 5 (0, 0))) := Lib.hid (heap_alloc_new _ _)
   have LX3029 : Hid (wn3015.heap.size < (wn3015.alloc (.cells #[.int .u8 (Z : Int), .int .u8 (P : Int)] 5)).heap.size) := Lib.hid (by simp)
   generalize (wn3015.alloc (.cells #[.int .u8 (Z : Int), .int .u8 (P : Int)] 5)) = wn3029 at *
   have F3015_3029 := Lib.hid (F3015.out.below hb3029)
   have hS3029 : Below (w1.heap.size) w1 wn3029 := (hH3015).trans (hb3029.mono (hH3015).size)
   refine hK.out _ _ hS3029 (fun hH3029 => ?_)
   have hH3029 : Below (w1.heap.size) w1 wn3029 := hH3029
   clear hK K hS3029
   try simp only [Act.put, zqa, zqb, zqc]
   refine wpAnyH_ready (rs := [5]) (by kernel_rfl) (by simp) ?_
   refine AllReadyH.cons (o := { dst := some 12, op := Op.call { callee := Callee.value (Operand.func 81), args := #[Operand.tmp 11], argTypes := #[32] }, type := 22, pos := _, after := _, guard := none }) rfl (fun K hK => ?_) AllReadyH.nil
   go_simp
   refine (four_any v HV.out wn3029).mono ?_
   rintro e' wn3030 ⟨A3030, n3030, c3030, rfl, hn3030, ho3030, hb3030⟩
   have F3030 := Lib.hid (RowP.of_row (Row.of_own ho3030))
   go_simp
   have F3015_3030 := Lib.hid (F3015_3029.out.below hb3030)
   have BX3029_3030 := Lib.hid ((hb3030.block wn3015.heap.size LX3029.out).trans BX3029.out)
   have LX3029_3030 := Lib.hid (Nat.lt_of_lt_of_le LX3029.out hb3030.size)
   have hS3030 : Below (w1.heap.size) w1 wn3030 := (hH3029).trans (hb3030.mono (hH3029).size)
   refine hK.out _ _ hS3030 (fun hH3030 => ?_)
   have hH3030 : Below (w1.heap.size) w1 wn3030 := hH3030
   clear hK K hS3030
   try simp only [Act.put, zqa, zqb, zqc]
   refine wpAnyH_ready (rs := [8]) (by kernel_rfl) (by simp) ?_
   refine AllReadyH.cons (o := { dst := some 15, op := Op.call { callee := Callee.value (Operand.func 87), args := #[Operand.tmp 14], argTypes := #[3] }, type := 22, pos := _, after := _, guard := none }) rfl (fun K hK => ?_) AllReadyH.nil
   go_simp
   refine (rtwo_any L HLL.out wn3030).mono ?_
   rintro e' wn3031 ⟨A3031, n3031, c3031, rfl, hn3031, ho3031, hb3031⟩
   have F3031 := Lib.hid (RowP.of_row (Row.of_own ho3031))
   go_simp
   have F3015_3031 := Lib.hid (F3015_3030.out.below hb3031)
   have BX3029_3031 := Lib.hid ((hb3031.block wn3015.heap.size LX3029_3030.out).trans BX3029_3030.out)
   have LX3029_3031 := Lib.hid (Nat.lt_of_lt_of_le LX3029_3030.out hb3031.size)
   have F3030_3031 := Lib.hid (F3030.out.below hb3031)
   have hS3031 : Below (w1.heap.size) w1 wn3031 := (hH3030).trans (hb3031.mono (hH3030).size)
   refine hK.out _ _ hS3031 (fun hH3031 => ?_)
   have hH3031 : Below (w1.heap.size) w1 wn3031 := hH3031
   clear hK K hS3031
   try simp only [Act.put, zqa, zqb, zqc]
   refine wpAnyH_ready (rs := [18]) (by kernel_rfl) (by simp) ?_
   refine AllReadyH.cons (o := { dst := some 25, op := Op.buildSlice 102 5 #[(0, Operand.tmp 9), (1, Operand.tmp 12), (2, Operand.tmp 15), (3, Operand.tmp 22), (4, Operand.tmp 24)], type := 102, pos := _, after := _, guard := none }) rfl (fun K hK => ?_) AllReadyH.nil
   go_simp
   have hb3032 : Below wn3031.heap.size wn3031 (wn3031.alloc (.cells #[.slice A3015 n3015 c3015, .slice A3030 n3030 c3030, .slice A3031 n3031 c3031, .slice (some ⟨wn3015.heap.size, 0, none⟩) 2 2, .slice A 32 c] 22)) := (Below.refl _ _).alloc (Nat.le_refl _) _
   have BX3032 : Hid ((wn3031.alloc (.cells #[.slice A3015 n3015 c3015, .slice A3030 n3030 c3030, .slice A3031 n3031 c3031, .slice (some ⟨wn3015.heap.size, 0, none⟩) 2 2, .slice A 32 c] 22)).heap[wn3031.heap.size]? = some (.cells #[.slice A3015 n3015 c3015, .slice A3030 n3030 c3030, .slice A3031 n3031 c3031, .slice (some ⟨wn3015.heap.size, 0, none⟩) 2 2, .slice A 32 c] 22 (0, 0))) := Lib.hid (heap_alloc_new _ _)
   have LX3032 : Hid (wn3031.heap.size < (wn3031.alloc (.cells #[.slice A3015 n3015 c3015, .slice A3030 n3030 c3030, .slice A3031 n3031 c3031, .slice (some ⟨wn3015.heap.size, 0, none⟩) 2 2, .slice A 32 c] 22)).heap.size) := Lib.hid (by simp)
   generalize (wn3031.alloc (.cells #[.slice A3015 n3015 c3015, .slice A3030 n3030 c3030, .slice A3031 n3031 c3031, .slice (some ⟨wn3015.heap.size, 0, none⟩) 2 2, .slice A 32 c] 22)) = wn3032 at *
   have F3015_3032 := Lib.hid (F3015_3031.out.below hb3032)
   have BX3029_3032 := Lib.hid ((hb3032.block wn3015.heap.size LX3029_3031.out).trans BX3029_3031.out)
   have LX3029_3032 := Lib.hid (Nat.lt_of_lt_of_le LX3029_3031.out hb3032.size)
   have F3030_3032 := Lib.hid (F3030_3031.out.below hb3032)
   have F3031_3032 := Lib.hid (F3031.out.below hb3032)
   have hS3032 : Below (w1.heap.size) w1 wn3032 := (hH3031).trans (hb3032.mono (hH3031).size)
   refine hK.out _ _ hS3032 (fun hH3032 => ?_)
   have hH3032 : Below (w1.heap.size) w1 wn3032 := hH3032
   clear hK K hS3032
   try simp only [Act.put, zqa, zqb, zqc]
   refine wpAnyH_ready (rs := [19]) (by kernel_rfl) (by simp) ?_
   refine AllReadyH.cons (o := { dst := some 26, op := Op.call { callee := Callee.value (Operand.func 85), args := #[Operand.tmp 25], argTypes := #[102] }, type := 22, pos := _, after := _, guard := none }) rfl (fun K hK => ?_) AllReadyH.nil
   go_simp
   have zr3033 : RowP wn3032 (fun _ => True) (some ⟨wn3015.heap.size, 0, none⟩) 2 (bv [UInt8.ofNat Z, UInt8.ofNat P]) := by
    rw [← zp_cells Z P HZ.out HP.out]; exact RowP.of_row (row_box BX3029_3032.out)
   refine (join_box [⟨A3015, n3015, c3015, CrcM.four s⟩, ⟨A3030, n3030, c3030, CrcM.four v⟩, ⟨A3031, n3031, c3031, [UInt8.ofNat (L / 256), UInt8.ofNat L]⟩, ⟨some ⟨wn3015.heap.size, 0, none⟩, 2, 2, [UInt8.ofNat Z, UInt8.ofNat P]⟩, ⟨A, 32, c, h⟩] 5 rfl rfl BX3032.out (by
    intro r hr
    simp only [List.mem_cons, List.not_mem_nil, or_false] at hr
    rcases hr with rfl | rfl | rfl | rfl | rfl
    ·exact F3015_3032.out
    ·exact F3030_3032.out
    ·exact F3031_3032.out
    ·exact zr3033
    ·exact HRW.out _ (hH3032)) (by simp) (by simp [flat, HH.out, CrcM.four]) (l := plainB s v L Z P h) (by simp [flat, plainB])).mono ?_
   rintro e' wn3033 ⟨A3033, n3033, c3033, rfl, hn3033, ho3033, hb3033⟩
   have hbase3033 : w1.heap.size ≤ wn3032.heap.size := (hH3032).size
   go_simp
   have F3015_3033 := Lib.hid (F3015_3032.out.below hb3033)
   have BX3029_3033 := Lib.hid ((hb3033.block wn3015.heap.size LX3029_3032.out).trans BX3029_3032.out)
   have LX3029_3033 := Lib.hid (Nat.lt_of_lt_of_le LX3029_3032.out hb3033.size)
   have F3030_3033 := Lib.hid (F3030_3032.out.below hb3033)
   have F3031_3033 := Lib.hid (F3031_3032.out.below hb3033)
   have BX3032_3033 := Lib.hid ((hb3033.block wn3031.heap.size LX3032.out).trans BX3032.out)
   have LX3032_3033 := Lib.hid (Nat.lt_of_lt_of_le LX3032.out hb3033.size)
   have hS3033 : Below (w1.heap.size) w1 wn3033 := (hH3032).trans (hb3033.mono (hH3032).size)
   refine hK.out _ _ hS3033 (fun hH3033 => ?_)
   have hH3033 : Below (w1.heap.size) w1 wn3033 := hH3033
   clear hK K hS3033
   try simp only [Act.put, zqa, zqb, zqc]
   refine zqt (i := 20) (d := some 2) rfl (s := hH3033) (h := ?_)
   try simp only [Act.put, zqa, zqb, zqc]
   refine zqt (i := 21) (d := some 3) rfl (s := hH3033) (h := ?_)
   try simp only [Act.put, zqa, zqb, zqc]
   refine wpAnyH_done (by kernel_rfl) ?_ _
   refine NoPanic.normal ?_
   have hend := B1.out.trans ((hH3033).mono B1.out.size)
   have hown := own_base ho3033 (show w.heap.size ≤ _ from Nat.le_trans B1.out.size hbase3033)
   have hlen := hn3033
   go_wp2_with fail
   go_ret2
   exact ⟨_, _, _, rfl, hlen, Lib.hid hown, Lib.hid hend⟩
 ·go_simp
  have hb3036 : Below wd3000.heap.size wd3000 (wd3000.alloc (.cells #[.int .u8 (Z : Int), .int .u8 (P : Int)] 5)) := (Below.refl _ _).alloc (Nat.le_refl _) _
  have BX3036 : Hid ((wd3000.alloc (.cells #[.int .u8 (Z : Int), .int .u8 (P : Int)] 5)).heap[wd3000.heap.size]? = some (.cells #[.int .u8 (Z : Int), .int .u8 (P : Int)] 5 (0, 0))) := Lib.hid (heap_alloc_new _ _)
  have LX3036 : Hid (wd3000.heap.size < (wd3000.alloc (.cells #[.int .u8 (Z : Int), .int .u8 (P : Int)] 5)).heap.size) := Lib.hid (by simp)
  generalize (wd3000.alloc (.cells #[.int .u8 (Z : Int), .int .u8 (P : Int)] 5)) = wn3036 at *
  have hS3036 : Below (w1.heap.size) w1 wn3036 := (hH0).trans (hb3036.mono (hH0).size)
  refine hK.out _ _ hS3036 (fun hH3036 => ?_)
  have hH3036 : Below (w1.heap.size) w1 wn3036 := hH3036
  clear hK K hS3036
  try simp only [Act.put, zqa, zqb, zqc]
  refine wpAnyH_ready (rs := [2]) (by kernel_rfl) (by simp) ?_
  refine AllReadyH.cons (o := { dst := some 9, op := Op.call { callee := Callee.value (Operand.func 81), args := #[Operand.tmp 8], argTypes := #[32] }, type := 22, pos := _, after := _, guard := none }) rfl (fun K hK => ?_) AllReadyH.nil
  go_simp
  refine (four_any s HS.out wn3036).mono ?_
  rintro e' wn3037 ⟨A3037, n3037, c3037, rfl, hn3037, ho3037, hb3037⟩
  have F3037 := Lib.hid (RowP.of_row (Row.of_own ho3037))
  go_simp
  have BX3036_3037 := Lib.hid ((hb3037.block wd3000.heap.size LX3036.out).trans BX3036.out)
  have LX3036_3037 := Lib.hid (Nat.lt_of_lt_of_le LX3036.out hb3037.size)
  have hS3037 : Below (w1.heap.size) w1 wn3037 := (hH3036).trans (hb3037.mono (hH3036).size)
  refine hK.out _ _ hS3037 (fun hH3037 => ?_)
  have hH3037 : Below (w1.heap.size) w1 wn3037 := hH3037
  clear hK K hS3037
  try simp only [Act.put, zqa, zqb, zqc]
  refine wpAnyH_ready (rs := [5]) (by kernel_rfl) (by simp) ?_
  refine AllReadyH.cons (o := { dst := some 12, op := Op.call { callee := Callee.value (Operand.func 81), args := #[Operand.tmp 11], argTypes := #[32] }, type := 22, pos := _, after := _, guard := none }) rfl (fun K hK => ?_) AllReadyH.nil
  go_simp
  refine (four_any v HV.out wn3037).mono ?_
  rintro e' wn3038 ⟨A3038, n3038, c3038, rfl, hn3038, ho3038, hb3038⟩
  have F3038 := Lib.hid (RowP.of_row (Row.of_own ho3038))
  go_simp
  have BX3036_3038 := Lib.hid ((hb3038.block wd3000.heap.size LX3036_3037.out).trans BX3036_3037.out)
  have LX3036_3038 := Lib.hid (Nat.lt_of_lt_of_le LX3036_3037.out hb3038.size)
  have F3037_3038 := Lib.hid (F3037.out.below hb3038)
  have hS3038 : Below (w1.heap.size) w1 wn3038 := (hH3037).trans (hb3038.mono (hH3037).size)
  refine hK.out _ _ hS3038 (fun hH3038 => ?_)
  have hH3038 : Below (w1.heap.size) w1 wn3038 := hH3038
  clear hK K hS3038
  try simp only [Act.put, zqa, zqb, zqc]
  refine wpAnyH_ready (rs := [8]) (by kernel_rfl) (by simp) ?_
  refine AllReadyH.cons (o := { dst := some 15, op := Op.call { callee := Callee.value (Operand.func 87), args := #[Operand.tmp 14], argTypes := #[3] }, type := 22, pos := _, after := _, guard := none }) rfl (fun K hK => ?_) AllReadyH.nil
  go_simp
  refine (rtwo_any L HLL.out wn3038).mono ?_
  rintro e' wn3039 ⟨A3039, n3039, c3039, rfl, hn3039, ho3039, hb3039⟩
  have F3039 := Lib.hid (RowP.of_row (Row.of_own ho3039))
  go_simp
  have BX3036_3039 := Lib.hid ((hb3039.block wd3000.heap.size LX3036_3038.out).trans BX3036_3038.out)
  have LX3036_3039 := Lib.hid (Nat.lt_of_lt_of_le LX3036_3038.out hb3039.size)
  have F3037_3039 := Lib.hid (F3037_3038.out.below hb3039)
  have F3038_3039 := Lib.hid (F3038.out.below hb3039)
  have hS3039 : Below (w1.heap.size) w1 wn3039 := (hH3038).trans (hb3039.mono (hH3038).size)
  refine hK.out _ _ hS3039 (fun hH3039 => ?_)
  have hH3039 : Below (w1.heap.size) w1 wn3039 := hH3039
  clear hK K hS3039
  try simp only [Act.put, zqa, zqb, zqc]
  refine wpAnyH_ready (rs := [18]) (by kernel_rfl) (by simp) ?_
  refine AllReadyH.cons (o := { dst := some 25, op := Op.buildSlice 102 5 #[(0, Operand.tmp 9), (1, Operand.tmp 12), (2, Operand.tmp 15), (3, Operand.tmp 22), (4, Operand.tmp 24)], type := 102, pos := _, after := _, guard := none }) rfl (fun K hK => ?_) AllReadyH.nil
  go_simp
  have hb3040 : Below wn3039.heap.size wn3039 (wn3039.alloc (.cells #[.slice A3037 n3037 c3037, .slice A3038 n3038 c3038, .slice A3039 n3039 c3039, .slice (some ⟨wd3000.heap.size, 0, none⟩) 2 2, .slice A 32 c] 22)) := (Below.refl _ _).alloc (Nat.le_refl _) _
  have BX3040 : Hid ((wn3039.alloc (.cells #[.slice A3037 n3037 c3037, .slice A3038 n3038 c3038, .slice A3039 n3039 c3039, .slice (some ⟨wd3000.heap.size, 0, none⟩) 2 2, .slice A 32 c] 22)).heap[wn3039.heap.size]? = some (.cells #[.slice A3037 n3037 c3037, .slice A3038 n3038 c3038, .slice A3039 n3039 c3039, .slice (some ⟨wd3000.heap.size, 0, none⟩) 2 2, .slice A 32 c] 22 (0, 0))) := Lib.hid (heap_alloc_new _ _)
  have LX3040 : Hid (wn3039.heap.size < (wn3039.alloc (.cells #[.slice A3037 n3037 c3037, .slice A3038 n3038 c3038, .slice A3039 n3039 c3039, .slice (some ⟨wd3000.heap.size, 0, none⟩) 2 2, .slice A 32 c] 22)).heap.size) := Lib.hid (by simp)
  generalize (wn3039.alloc (.cells #[.slice A3037 n3037 c3037, .slice A3038 n3038 c3038, .slice A3039 n3039 c3039, .slice (some ⟨wd3000.heap.size, 0, none⟩) 2 2, .slice A 32 c] 22)) = wn3040 at *
  have BX3036_3040 := Lib.hid ((hb3040.block wd3000.heap.size LX3036_3039.out).trans BX3036_3039.out)
  have LX3036_3040 := Lib.hid (Nat.lt_of_lt_of_le LX3036_3039.out hb3040.size)
  have F3037_3040 := Lib.hid (F3037_3039.out.below hb3040)
  have F3038_3040 := Lib.hid (F3038_3039.out.below hb3040)
  have F3039_3040 := Lib.hid (F3039.out.below hb3040)
  have hS3040 : Below (w1.heap.size) w1 wn3040 := (hH3039).trans (hb3040.mono (hH3039).size)
  refine hK.out _ _ hS3040 (fun hH3040 => ?_)
  have hH3040 : Below (w1.heap.size) w1 wn3040 := hH3040
  clear hK K hS3040
  try simp only [Act.put, zqa, zqb, zqc]
  refine wpAnyH_ready (rs := [19]) (by kernel_rfl) (by simp) ?_
  refine AllReadyH.cons (o := { dst := some 26, op := Op.call { callee := Callee.value (Operand.func 85), args := #[Operand.tmp 25], argTypes := #[102] }, type := 22, pos := _, after := _, guard := none }) rfl (fun K hK => ?_) AllReadyH.nil
  go_simp
  have zr3041 : RowP wn3040 (fun _ => True) (some ⟨wd3000.heap.size, 0, none⟩) 2 (bv [UInt8.ofNat Z, UInt8.ofNat P]) := by
   rw [← zp_cells Z P HZ.out HP.out]; exact RowP.of_row (row_box BX3036_3040.out)
  refine (join_box [⟨A3037, n3037, c3037, CrcM.four s⟩, ⟨A3038, n3038, c3038, CrcM.four v⟩, ⟨A3039, n3039, c3039, [UInt8.ofNat (L / 256), UInt8.ofNat L]⟩, ⟨some ⟨wd3000.heap.size, 0, none⟩, 2, 2, [UInt8.ofNat Z, UInt8.ofNat P]⟩, ⟨A, 32, c, h⟩] 5 rfl rfl BX3040.out (by
   intro r hr
   simp only [List.mem_cons, List.not_mem_nil, or_false] at hr
   rcases hr with rfl | rfl | rfl | rfl | rfl
   ·exact F3037_3040.out
   ·exact F3038_3040.out
   ·exact F3039_3040.out
   ·exact zr3041
   ·exact HRW.out _ (hH3040)) (by simp) (by simp [flat, HH.out, CrcM.four]) (l := plainB s v L Z P h) (by simp [flat, plainB])).mono ?_
  rintro e' wn3041 ⟨A3041, n3041, c3041, rfl, hn3041, ho3041, hb3041⟩
  have hbase3041 : w1.heap.size ≤ wn3040.heap.size := (hH3040).size
  go_simp
  have BX3036_3041 := Lib.hid ((hb3041.block wd3000.heap.size LX3036_3040.out).trans BX3036_3040.out)
  have LX3036_3041 := Lib.hid (Nat.lt_of_lt_of_le LX3036_3040.out hb3041.size)
  have F3037_3041 := Lib.hid (F3037_3040.out.below hb3041)
  have F3038_3041 := Lib.hid (F3038_3040.out.below hb3041)
  have F3039_3041 := Lib.hid (F3039_3040.out.below hb3041)
  have BX3040_3041 := Lib.hid ((hb3041.block wn3039.heap.size LX3040.out).trans BX3040.out)
  have LX3040_3041 := Lib.hid (Nat.lt_of_lt_of_le LX3040.out hb3041.size)
  have hS3041 : Below (w1.heap.size) w1 wn3041 := (hH3040).trans (hb3041.mono (hH3040).size)
  refine hK.out _ _ hS3041 (fun hH3041 => ?_)
  have hH3041 : Below (w1.heap.size) w1 wn3041 := hH3041
  clear hK K hS3041
  try simp only [Act.put, zqa, zqb, zqc]
  refine zqt (i := 20) (d := some 2) rfl (s := hH3041) (h := ?_)
  try simp only [Act.put, zqa, zqb, zqc]
  refine zqt (i := 21) (d := some 3) rfl (s := hH3041) (h := ?_)
  try simp only [Act.put, zqa, zqb, zqc]
  refine wpAnyH_done (by kernel_rfl) ?_ _
  refine NoPanic.normal ?_
  have hend := B1.out.trans ((hH3041).mono B1.out.size)
  have hown := own_base ho3041 (show w.heap.size ≤ _ from Nat.le_trans B1.out.size hbase3041)
  have hlen := hn3041
  go_wp2_with fail
  go_ret2
  exact ⟨_, _, _, rfl, hlen, Lib.hid hown, Lib.hid hend⟩
theorem rplainS_yes {cs : Array Value} {M : LMan} {w : World} {P : Nat → Prop} (h : IsMan w P cs M) (hm : M.may = true) (hs : M.s < 4294967296) (hv : M.v < 4294967296) : Calls Tryz.prog 84 #[.agg cs] w (RPlainOk M.bytes w) := by
 obtain ⟨A, c, rfl, r⟩ := h
 obtain ⟨s, v, l, z, p, h⟩ := M
 obtain ⟨L, Z, Q, hl, hz, hp, _, hL, _, hZ, hQ, h32⟩ := man_bounds hm
 dsimp only at hl hz hp h32 hs hv r
 subst hl hz hp
 have := rplain_yes s v L Z Q A c h w hs hv hL hZ hQ (by rw [← h32]; exact hm) (by rw [← h32]; exact r.row)
 rw [← h32] at this
 exact this
end Go.Proofs.YtmncpgfdpcckpaaGreatDoor
