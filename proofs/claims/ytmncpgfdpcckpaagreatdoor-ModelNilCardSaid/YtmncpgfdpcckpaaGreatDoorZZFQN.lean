/- packet.add, Bytes, Same: by contracts. -/
import Derived.WalkSpells
import Derived.WalkLawsBesides
import Derived.Deep.DeepCutAuto
import Derived.Deep.RegionHeld3
import Derived.Test.YtmncpgfdpcckpaaGreatDoorZAQN
import Derived.Test.YtmncpgfdpcckpaaGreatDoorZWQN
import Derived.Test.YtmncpgfdpcckpaaGreatDoorZSQN
set_option maxRecDepth 100000
namespace Go.Proofs.YtmncpgfdpcckpaaGreatDoor
open Go.RowKit
theorem box3 {w : World} {g : Nat} {x y z : Value} {t : TypeId} (h : w.heap[g]? = some (.cells #[x, y, z] t (0, 0))) : w.cell? ⟨g, 0, none⟩ = some x ∧ w.cell? ⟨g, 1, none⟩ = some y ∧ w.cell? ⟨g, 2, none⟩ = some z := by
 refine ⟨?_, ?_, ?_⟩ <;> rw [cell_of_row w g _ _ t (0, 0) h] <;> rfl
def symB (s id : Nat) (l : List UInt8) : List UInt8 := CrcM.four s ++ CrcM.four id ++ l
end Go.Proofs.YtmncpgfdpcckpaaGreatDoor
namespace Go.Proofs.YtmncpgfdpcckpaaGreatDoor
open Go.RowKit
def R7Ok (l : List UInt8) (w : World) (e : Ending) (w' : World) : Prop :=
 ∃ A n cap, e = .returned (.tuple #[.slice A n cap, .int .i64 0]) ∧ w'.ownsRow w.heap.size 5 1 (.slice A n cap) n (bv l) ∧ Below w.heap.size w w'
abbrev SBox (w0 w : World) (s i : Nat) (A : Option Addr) (n c : Nat) (W : World) : Prop :=
 Below w0.heap.size w0 W ∧ W.cell? ⟨w.heap.size, 0, none⟩ = some (.int .u32 (s : Int)) ∧ W.cell? ⟨w.heap.size, 1, none⟩ = some (.int .u32 (i : Int)) ∧ W.cell? ⟨w.heap.size, 2, none⟩ = some (.slice A n c)
theorem sbx_keep {w0 w : World} {s i : Nat} {A : Option Addr} {n c : Nat} {t : TypeId} (hx : w0.heap[w.heap.size]? = some (.cells #[.int .u32 (s : Int), .int .u32 (i : Int), .slice A n c] t (0, 0))) (hs : w.heap.size < w0.heap.size) (W : World) (hW : Below w0.heap.size w0 W) : SBox w0 w s i A n c W :=
 ⟨hW, box3 ((hW.block _ hs).trans hx)⟩
theorem sbx_next {w0 w W W' : World} {s i : Nat} {A : Option Addr} {n c : Nat} (h : SBox w0 w s i A n c W) (hb : Below W.heap.size W W') : Below w0.heap.size w0 W' := h.1.trans (hb.mono h.1.size)
theorem sbx_below {w0 w W : World} {s i : Nat} {A : Option Addr} {n c : Nat} (h : SBox w0 w s i A n c W) : Below w0.heap.size w0 W := h.1
theorem sbx_drew {w0 w W : World} {s i : Nat} {A : Option Addr} {n c : Nat} (h : SBox w0 w s i A n c W) : Below w0.heap.size w0 W.drew := h.1.drew
theorem sbx_alloc {w0 w W : World} {s i : Nat} {A : Option Addr} {n c : Nat} (h : SBox w0 w s i A n c W) (o : Obj) : Below w0.heap.size w0 (W.alloc o) := h.1.alloc h.1.size o
theorem join3 (n1 c1 : Nat) (A1 : Option Addr) (l1 : List UInt8) (n2 c2 : Nat) (A2 : Option Addr) (l2 : List UInt8) (n3 c3 : Nat) (A3 : Option Addr) (l3 : List UInt8) (W : World) (h1 : Row W W.heap.size A1 n1 (bv l1)) (h2 : Row W W.heap.size A2 n2 (bv l2)) (h3 : Row W W.heap.size A3 n3 (bv l3)) (ha : n1 ≤ 1000 ∧ n2 ≤ 1000 ∧ n3 ≤ 1000) :
  Calls Tryz.prog 85 #[.slice (some ⟨W.heap.size, 0, none⟩) 3 3] (W.alloc (.cells #[.slice A1 n1 c1, .slice A2 n2 c2, .slice A3 n3 c3] 22)) (FreshBytes (W.alloc (.cells #[.slice A1 n1 c1, .slice A2 n2 c2, .slice A3 n3 c3] 22)).heap.size (l1 ++ l2 ++ l3) (W.alloc (.cells #[.slice A1 n1 c1, .slice A2 n2 c2, .slice A3 n3 c3] 22))) := by
 have hr := row_new W #[.slice A1 n1 c1, .slice A2 n2 c2, .slice A3 n3 c3] 22 (0, 0)
 have hf : flat [⟨A1, n1, c1, l1⟩, ⟨A2, n2, c2, l2⟩, ⟨A3, n3, c3, l3⟩] = l1 ++ l2 ++ l3 := by simp [flat]
 have := join_any (W.heap.size + 1) 3 3 (some ⟨W.heap.size, 0, none⟩) [⟨A1, n1, c1, l1⟩, ⟨A2, n2, c2, l2⟩, ⟨A3, n3, c3, l3⟩] (W.alloc (.cells #[.slice A1 n1 c1, .slice A2 n2 c2, .slice A3 n3 c3] 22))
  ⟨hr, by
   intro r hr
   simp at hr
   rcases hr with rfl | rfl | rfl
   ·exact (h1.alloc (Nat.le_refl _) _).more (by omega)
   ·exact (h2.alloc (Nat.le_refl _) _).more (by omega)
   ·exact (h3.alloc (Nat.le_refl _) _).more (by omega)⟩ (by omega) (by rw [hf, List.length_append, List.length_append, h1.blen, h2.blen, h3.blen]; omega) (by simp)
 rwa [hf] at this
set_option maxHeartbeats 800000 in
theorem r7bytes_ok (s id B n cap : Nat) (A : Option Addr) (l : List UInt8) (w : World) (hs : s < 4294967296) (hid : id < 4294967296) (hl : Row w B A n (bv l)) (h1 : 1 ≤ n) (h16 : n ≤ 16) (hB : B ≤ w.heap.size) :
  Calls Tryz.prog 56 #[.agg #[.int .u32 (s : Int), .int .u32 (id : Int), .slice A n cap]] w (R7Ok (symB s id l) w) := by
 have HS := Lib.hid hs
 have HI := Lib.hid hid
 clear hs hid
 have hb0 : Below w.heap.size w (w.alloc (.cells #[.int .u32 (s : Int), .int .u32 (id : Int), .slice A n cap] 81)) := (Below.refl _ _).alloc (Nat.le_refl _) _
 have hx := heap_alloc_new w (.cells #[.int .u32 (s : Int), .int .u32 (id : Int), .slice A n cap] 81)
 have hz : (w.alloc (.cells #[.int .u32 (s : Int), .int .u32 (id : Int), .slice A n cap] 81)).heap.size = w.heap.size + 1 := by simp
 go_enter Tryz.func56, Tryz.ntmps56
 go_wp2_with fail
 generalize (w.alloc (.cells #[.int .u32 (s : Int), .int .u32 (id : Int), .slice A n cap] 81)) = w0 at *
 have hkeep := Lib.hid (sbx_keep hx (by omega))
 clear hx
 go_region_held3 (SBox w0 w s id A n cap)
  (first | exact hkeep.out _ (sbx_next (by assumption) (by assumption)) | exact hkeep.out _ (Below.refl _ _).drew | exact hkeep.out _ (Below.refl _ _) | exact hkeep.out _ (sbx_alloc (by assumption) _) | exact hkeep.out _ (sbx_drew (by assumption)))
  (first
   | (go_at_call 81; (with_reducible refine (four_any s HS.out _).mono ?_); rintro e w1 ⟨A5, n5, c5, rfl, hn5, hown5, hb5⟩)
   | (go_at_call 81; (with_reducible refine (four_any id HI.out _).mono ?_); rintro e w2 ⟨A6, n6, c6, rfl, hn6, hown6, hb6⟩)
   | (go_at_call 85; have hq5 : n5 = 4 := hn5.out; have hq6 : n6 = 4 := hn6.out; have hbw2 := hb0.trans ((sbx_below (w0 := w0) (w := w) (s := s) (i := id) (A := A) (n := n) (c := cap) (hkeep.out _ ((Below.refl w0.heap.size w0).drew.trans (hb5.trans (hb6.mono hb5.size))))).mono hb0.size); refine (join3 n5 c5 A5 (CrcM.four s) n6 c6 A6 (CrcM.four id) n cap A l w2 (((Row.of_own hown5).below hb6).more hb6.size) (Row.of_own hown6) ((hl.below (hbw2.mono hB)).more (Nat.le_trans hB hbw2.size)) ⟨by omega, by omega, by omega⟩).mono ?_; rintro e w7 ⟨A7, n7, c7, rfl, hn7, hown7, hb7⟩))
 have hend := hb0.trans ((sbx_below (by assumption : SBox w0 w s id A n cap w7)).mono hb0.size)
 go_wp2
 go_ret2
 exact ⟨A7, n7, c7, rfl, own_base hown7 (by have := hbw2.size; simp; omega), hend⟩
end Go.Proofs.YtmncpgfdpcckpaaGreatDoor
