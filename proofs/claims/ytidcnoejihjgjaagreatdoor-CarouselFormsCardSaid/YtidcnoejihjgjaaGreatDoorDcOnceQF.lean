/- sync.Once over whatever is done: by contract. -/
import Derived.Test.YtidcnoejihjgjaaGreatDoorZCQF
namespace Go.Proofs.YtidcnoejihjgjaaGreatDoor.Dc
open Go.RowKit
open SoM
theorem cells_set_other {w : World} {g o p : Nat} {cs : Array Value} {T : TypeId} {v u : Value} (h : w.heap[g]? = some (.cells cs T (0, 0))) (hp : cs[p]? = some u) (hne : o ≠ p) : ∃ cs2, (w.setCell ⟨g, o, none⟩ v).heap[g]? = some (.cells cs2 T (0, 0)) ∧ cs2[p]? = some u := by
  refine ⟨_, heap_setCell_same w g o _ _ v h, ?_⟩
  simp [hne, hp]
theorem cell_at {w : World} {g p : Nat} {cs : Array Value} {T : TypeId} {u : Value} (h : w.heap[g]? = some (.cells cs T (0, 0))) (hp : cs[p]? = some u) : w.cell? ⟨g, p, none⟩ = some u := by
  rw [cell_of_row w g _ _ T (0, 0) h]; exact hp
def Locked (g o : Nat) (T : TypeId) (w : World) : Prop := ∃ cs, w.heap[g]? = some (.cells cs T (0, 0)) ∧ cs[o]? = some (.int .u32 0) ∧ cs[o + 1]? = some (.int .i32 1)
set_option maxRecDepth 100000 in
theorem do_done_gen (g o : Nat) (T : TypeId) (cs : Array Value) (f : Value) (w : World) (h : w.heap[g]? = some (.cells cs T (0, 0))) (hd : cs[o]? = some (.int .u32 1)) :
    Calls Tryz.prog 97 #[.pointer (some ⟨g, o, none⟩), f] w (fun e w' => e = .returned (.tuple #[]) ∧ w = w') := by
  have HD := Lib.hid (cell_at h hd)
  have hnot : ∀ (x : Bool) (w : World), (Op.unary .not (.bool x)).run Tryz.prog w = .ok (.bool (!x)) w := fun _ _ => rfl
  clear h hd
  go_enter Tryz.func97, Tryz.ntmps97
  go_wp2_with (go_at_call 120; refine (bload_yes _ _ HD.out).mono ?_; rintro e w' ⟨rfl, rfl⟩)
  go_end0
  exact ⟨rfl, rfl⟩
end Go.Proofs.YtidcnoejihjgjaaGreatDoor.Dc
