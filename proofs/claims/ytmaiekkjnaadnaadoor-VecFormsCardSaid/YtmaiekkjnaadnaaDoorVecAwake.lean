/- layer 5's laws: first, awake. -/
import Derived.Test.YtmaiekkjnaadnaaDoorVecBag
namespace Go.Proofs.YtmaiekkjnaadnaaDoor.Vc
open Go.RowKit
open VecM
set_option maxRecDepth 100000 in
theorem firstL_any (X : Nat) (A : Option Addr) (c B : Nat) (w : World) (hr : Row w B A (Ls X).length (nv ((Ls X).map fun i : Nat => (i : Int)))) :
    Calls Tryd.prog 26 #[.slice A (Ls X).length c] w fun e w' => e = .returned (.int .i64 (firstI (Ls X))) ∧ w = w' := by
  have hlen := ls_lt X
  cases hl : Ls X with
  | nil =>
    clear hlen hr hl
    go_enter Tryd.func26, Tryd.ntmps26
    go_wp2_with fail
    go_ret
    exact ⟨rfl, rfl⟩
  | cons x t =>
    rw [hl] at hr hlen
    obtain ⟨b, o, rfl, _, hc⟩ := hr.cellAt (k := 0) (by simp) (u := .int .i64 (x : Int)) (by simp [nv])
    rw [Nat.add_zero] at hc
    obtain ⟨m, hm⟩ : ∃ m, (x :: t).length = m := ⟨_, rfl⟩
    have hm1 : 1 ≤ m := by rw [← hm]; simp
    have hm0 : (0 : Int) < (m : Int) := by omega
    have hmz : ((m : Int) == 0) = false := by simp; omega
    show Calls Tryd.prog _ #[.slice _ (x :: t).length _] _ _
    rw [hm] at hlen ⊢
    clear hr hl hm
    go_enter Tryd.func26, Tryd.ntmps26
    go_wp2_with fail
    go_ret
    exact ⟨rfl, rfl⟩
theorem aw_X : ofL 10 [1, 9, 10, -1] = 514 := by decide +kernel
theorem aw_bl : bl 514 10 = [2, 2] := by decide +kernel
theorem aw_Ls : Ls 514 = [1, 9] := by decide +kernel
set_option maxRecDepth 100000 in
set_option maxHeartbeats 800000 in
theorem awake5_any (w : World) (ht : DTab w) : Calls Tryd.prog 8 #[] w fun e w' => e = .returned (.bool true) ∧ Hid (Below w.heap.size w w') := by
  have hb0 := Bag.start w ht
  have hal : Below w.heap.size w (w.alloc (.cells #[.int .i64 1, .int .i64 9, .int .i64 10, .int .i64 (-1)] 3)) := (Below.refl _ _).alloc (Nat.le_refl _) _
  have hr : Row (w.alloc (.cells #[.int .i64 1, .int .i64 9, .int .i64 10, .int .i64 (-1)] 3)) (w.heap.size + 1) (some ⟨w.heap.size, 0, none⟩) 4 (nv [1, 9, 10, -1]) := row_new w #[.int .i64 1, .int .i64 9, .int .i64 10, .int .i64 (-1)] 3 (0, 0)
  have HO := Lib.hid (bag_ofw (n := 10) (m := 4) (c := 4) (hb0.read hal) (by have e : (w.alloc (.cells #[.int .i64 1, .int .i64 9, .int .i64 10, .int .i64 (-1)] 3)).heap.size = w.heap.size + 1 := by simp
                                                                             rw [e]; exact hr) (by omega) (by omega))
  rw [aw_X] at HO
  clear hb0 hal hr ht
  go_enter Tryd.func8, Tryd.ntmps8
  go_wp2_with fail
  refine HO.out.mono ?_
  rintro e w1 ⟨g, h, rfl, HB⟩
  go_wp2_with fail
  refine (bag_bytes 0 HB.out rfl).mono ?_
  rw [aw_bl]
  rintro e w2 ⟨A, m, c, rfl, hm, hrow, HB2⟩
  obtain rfl : m = 2 := hm.out
  have hk := run_string_row (P := Tryd.prog) hrow.out c 23 9 5 Tryd.underlying23 Tryd.underlying5 Tryd.underlying9
  clear hrow HB hm
  go_wp2_with fail
  refine (bag_count 0 HB2.out rfl).mono ?_
  rw [aw_Ls]
  rintro e w3 ⟨rfl, HB3⟩
  clear HB2 hk
  go_wp2_with fail
  refine (bag_first 0 HB3.out rfl).mono ?_
  rw [aw_Ls]
  rintro e w4 ⟨rfl, HB4⟩
  clear HB3
  go_wp2_with fail
  go_ret
  exact ⟨rfl, HB4.out.below⟩
theorem bag_awake {w0 w : World} {l : List VV} (b : Bag w0 w l) : Calls Tryd.prog 8 #[] w fun e w' => e = .returned (.bool true) ∧ Hid (Bag w0 w' l) :=
  (awake5_any w b.dtab).mono fun e w' ⟨he, hb⟩ => ⟨he, b.read hb.out⟩
end Go.Proofs.YtmaiekkjnaadnaaDoor.Vc
