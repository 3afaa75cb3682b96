/- SessionRow's walk, all inputs. -/
import Derived.Test.YtnbpjajgfpdddaaSesRow
namespace Go.Proofs.Ytnbpjajgfpdddaa
open Go.RowKit
set_option maxRecDepth 100000 in
theorem row_long (A : Option Addr) (n cap : Nat) (t : Bool) (w : World) (hn : 60 < n) :
    Calls Try.prog 10 #[.slice A n cap, .bool t] w fun e w' => e = .returned (.bool true) ∧ Below w.heap.size w w' := by
  go_enter Try.func10, Try.ntmps10
  go_wp2_with fail
  refine (awake22_any w).mono ?_
  rintro e w1 ⟨rfl, hb⟩
  go_wp2_with fail
  go_ret
  exact ⟨rfl, hb⟩
theorem row_walk (A : Option Addr) (n cap : Nat) (us : List Nat) (t : Bool) (w : World) (hu : ∀ i, i < n → ∃ b o, A = some ⟨b, o, none⟩ ∧ b < w.heap.size ∧ w.cell? ⟨b, o + i, none⟩ = some (.int .u32 ((us.getD i 0 : Nat) : Int)) ∧ us.getD i 0 < 4294967296) :
    Calls Try.prog 10 #[.slice A n cap, .bool t] w fun e w' => e = .returned (.bool true) ∧ Below w.heap.size w w' := by
  by_cases hn : n ≤ 60
  · cases t with
    | false => exact row_f A n cap us w hn hu
    | true => exact row_t A n cap us w hn hu
  · exact row_long A n cap t w (by omega)
end Go.Proofs.Ytnbpjajgfpdddaa
