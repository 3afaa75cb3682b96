/- frame.All: by contract, whatever the bytes. -/
import Derived.Test.YtmncpgfdpcckpaaGreatDoorZTQN
import Derived.Test.YtmncpgfdpcckpaaGreatDoorZAQN
namespace Go.Proofs.YtmncpgfdpcckpaaGreatDoor
open Go.RowKit
open FrM (flen inner frame)
def Pr (W : World) (base : Nat) (v : Value) (r : BRow) : Prop :=
 ∃ g, r.A = some ⟨g, 0, none⟩ ∧ base ≤ g ∧ g < W.heap.size ∧ v.ownBlock ≠ some g ∧ Row W W.heap.size r.A r.n (bv r.l) ∧ r.n ≤ r.c ∧ r.c ≤ 9223372036854775807
def LW (base : Nat) (W : World) (v : Value) (n : Nat) (es : List BRow) : Prop := W.ownsRow base 22 1 v n (es.map BRow.val) ∧ ∀ r ∈ es, Pr W base v r
end Go.Proofs.YtmncpgfdpcckpaaGreatDoor
