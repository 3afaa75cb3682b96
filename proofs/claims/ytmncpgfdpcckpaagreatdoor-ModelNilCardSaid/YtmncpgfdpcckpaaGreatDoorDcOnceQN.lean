/- sync.Once over whatever is done: by contract. -/
import Derived.Test.YtmncpgfdpcckpaaGreatDoorZCQN
set_option maxRecDepth 100000
namespace Go.Proofs.YtmncpgfdpcckpaaGreatDoor.Dc
open Go.RowKit
open SoM
theorem cells_set_other {w : World} {g o p : Nat} {cs : Array Value} {T : TypeId} {v u : Value} (h : w.heap[g]? = some (.cells cs T (0, 0))) (hp : cs[p]? = some u) (hne : o ≠ p) : ∃ cs2, (w.setCell ⟨g, o, none⟩ v).heap[g]? = some (.cells cs2 T (0, 0)) ∧ cs2[p]? = some u := by
 refine ⟨_, heap_setCell_same w g o _ _ v h, ?_⟩
 simp [hne, hp]
theorem cell_at {w : World} {g p : Nat} {cs : Array Value} {T : TypeId} {u : Value} (h : w.heap[g]? = some (.cells cs T (0, 0))) (hp : cs[p]? = some u) : w.cell? ⟨g, p, none⟩ = some u := by
 rw [cell_of_row w g _ _ T (0, 0) h]; exact hp
def Locked (g o : Nat) (T : TypeId) (w : World) : Prop := ∃ cs, w.heap[g]? = some (.cells cs T (0, 0)) ∧ cs[o]? = some (.int .u32 0) ∧ cs[o + 1]? = some (.int .i32 1)
set_option maxHeartbeats 3200000 in
theorem slow_gen (g o : Nat) (T : TypeId) (cs : Array Value) (c : Value) (R : World → Prop) (w : World) (h : w.heap[g]? = some (.cells cs T (0, 0))) (hd : cs[o]? = some (.int .u32 0)) (hm : cs[o + 1]? = some (.int .i32 0))
  (HF : Calls Tryz.prog 116 #[c] (w.setCell ⟨g, o + 1, none⟩ (.int .i32 1)) fun e w2 => e = .returned (.tuple #[]) ∧ Hid (R w2) ∧ Hid (Locked g o T w2)) :
  Calls Tryz.prog 149 #[.pointer (some ⟨g, o, none⟩), .func (.func 116) #[] #[c]] w fun e w' => e = .returned (.tuple #[]) ∧ ∃ w2, Hid (R w2) ∧ w' = (w2.drew.setCell ⟨g, o, none⟩ (.int .u32 1)).setCell ⟨g, o + 1, none⟩ (.int .i32 0) := by
 have HC := Lib.hid (cell_at h hm)
 have HZ := Lib.hid (frozen_of_row w g (o + 1) _ _ h)
 have HD : Hid ((w.setCell ⟨g, o + 1, none⟩ (.int .i32 1)).cell? ⟨g, o, none⟩ = some (.int .u32 0)) := by
  obtain ⟨cs2, h1, h2⟩ := cells_set_other (o := o + 1) (v := .int .i32 1) h hd (by omega)
  exact cell_at h1 h2
 have HFF := Lib.hid HF
 have hnot : ∀ (x : Bool) (w : World), (Op.unary .not (.bool x)).run Tryz.prog w = .ok (.bool (!x)) w := fun _ _ => rfl
 clear h hd hm HF
 go_enter_defers Tryz.func149, Tryz.ntmps149
 go_wp2_with (first | (go_at_call 160; refine (lock_free ⟨g, o + 1, none⟩ _ HC.out HZ.out).mono ?_; rintro e w' ⟨rfl, rfl⟩) | (go_at_call 148; refine (bload_no _ _ HD.out).mono ?_; rintro e w' ⟨rfl, rfl⟩))
 refine HFF.out.mono ?_
 rintro e w2 ⟨rfl, HR, HL⟩
 clear HC HZ HD HFF
 go_wp2
 obtain ⟨cs2, h2, hd2, hm2⟩ := HL.out
 have h2d : w2.drew.heap[g]? = some (.cells cs2 T (0, 0)) := h2
 obtain ⟨cs3, h3, hm3⟩ := cells_set_other (o := o) (v := .int .u32 1) h2d hm2 (by omega)
 refine leaves_cons (f := 162) (args := #[.pointer (some ⟨g, o, none⟩), .bool true]) (by simp) (by simp [go_sem]) ?_
 refine (store_deferred ⟨g, o, none⟩ (.int .u32 0) .returning _ (cell_at h2 hd2) (frozen_of_row _ g o _ _ h2)).mono ?_
 rintro e u' w'' ⟨rfl, rfl, rfl⟩
 refine leaves_cons (f := 161) (args := #[.pointer (some ⟨g, o + 1, none⟩)]) (by simp [settle]) (by simp [go_sem]) ?_
 refine (unlock_deferred ⟨g, o + 1, none⟩ _ _ (cell_at h3 hm3) (frozen_of_row _ g (o + 1) _ _ h3)).mono ?_
 rintro e u' w'' ⟨rfl, rfl, rfl⟩
 simp [Leaves, settle, results, Tryz.results149]
 exact ⟨w2, HR, rfl⟩
theorem do_gen (g o : Nat) (T : TypeId) (cs : Array Value) (c : Value) (R : World → Prop) (w : World) (h : w.heap[g]? = some (.cells cs T (0, 0))) (hd : cs[o]? = some (.int .u32 0)) (hm : cs[o + 1]? = some (.int .i32 0))
  (HF : Calls Tryz.prog 116 #[c] (w.setCell ⟨g, o + 1, none⟩ (.int .i32 1)) fun e w2 => e = .returned (.tuple #[]) ∧ Hid (R w2) ∧ Hid (Locked g o T w2)) :
  Calls Tryz.prog 115 #[.pointer (some ⟨g, o, none⟩), .func (.func 116) #[] #[c]] w fun e w' => e = .returned (.tuple #[]) ∧ ∃ w2, Hid (R w2) ∧ w' = (w2.drew.setCell ⟨g, o, none⟩ (.int .u32 1)).setCell ⟨g, o + 1, none⟩ (.int .i32 0) := by
 have HD := Lib.hid (cell_at h hd)
 have HS := Lib.hid (slow_gen g o T cs c R w h hd hm HF)
 have hnot : ∀ (x : Bool) (w : World), (Op.unary .not (.bool x)).run Tryz.prog w = .ok (.bool (!x)) w := fun _ _ => rfl
 clear h hd hm HF
 go_enter Tryz.func115, Tryz.ntmps115
 go_wp2_with (go_at_call 148; refine (bload_no _ _ HD.out).mono ?_; rintro e w' ⟨rfl, rfl⟩)
 refine HS.out.mono ?_
 rintro e w3 ⟨rfl, w2, HR, rfl⟩
 go_wp2
 go_end0
 exact ⟨rfl, w2, HR, rfl⟩
theorem do_done_gen (g o : Nat) (T : TypeId) (cs : Array Value) (f : Value) (w : World) (h : w.heap[g]? = some (.cells cs T (0, 0))) (hd : cs[o]? = some (.int .u32 1)) :
  Calls Tryz.prog 115 #[.pointer (some ⟨g, o, none⟩), f] w (fun e w' => e = .returned (.tuple #[]) ∧ w = w') := by
 have HD := Lib.hid (cell_at h hd)
 have hnot : ∀ (x : Bool) (w : World), (Op.unary .not (.bool x)).run Tryz.prog w = .ok (.bool (!x)) w := fun _ _ => rfl
 clear h hd
 go_enter Tryz.func115, Tryz.ntmps115
 go_wp2_with (go_at_call 148; refine (bload_yes _ _ HD.out).mono ?_; rintro e w' ⟨rfl, rfl⟩)
 go_end0
 exact ⟨rfl, rfl⟩
end Go.Proofs.YtmncpgfdpcckpaaGreatDoor.Dc
