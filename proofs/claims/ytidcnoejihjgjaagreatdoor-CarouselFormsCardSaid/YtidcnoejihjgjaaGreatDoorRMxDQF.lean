/- The reference's Bytes and Add; the program's Row: by contracts. like: a matrix is as the page has it: by contract. -/
import Derived.Deep.DeepCutAuto
import Derived.Test.YtidcnoejihjgjaaGreatDoorRMxBQF
import Derived.Test.YtidcnoejihjgjaaGreatDoorZFQF
import Derived.Test.YtidcnoejihjgjaaGreatDoorZEQF
import Derived.Test.YtidcnoejihjgjaaGreatDoorZYQF
import Derived.Test.YtidcnoejihjgjaaGreatDoorZAQF
namespace Go.Proofs.YtidcnoejihjgjaaGreatDoor.El
open Go.RowKit
open VecM Vc
theorem raddI {P : Nat → Prop} {gm n z X c cd : Nat} {M : Mx} {AV AD : Option Addr} {l : List UInt8} {w : World} (hm : RMat w P gm n z (rowsTo M n)) (hi : Inv n z M) (hv : Row w w.heap.size AV n (vb X n)) (hd : Row w w.heap.size AD z (bv l)) (hX : X < 2 ^ n) :
    Calls Tryz.prog 45 #[.pointer (some ⟨gm, 0, none⟩), .slice AV n c, .slice AD z cd] w (RAddI P gm n z (addMx n M X l) w) := by
  by_cases hzz : (redM M X l n).1 = 0
  · refine (radd_no P gm n z X c cd M AV AD l w hm hv hX hzz).mono fun e w' ⟨he, hb⟩ => ?_
    unfold addMx
    rw [if_pos hzz]
    exact ⟨he, Lib.hid ((hm.below hb.out).more fun b hb => .inl hb), Lib.hid (Fr.of_below hb.out)⟩
  · have hlt := redM_ltI hi hX l n
    obtain ⟨f, hf, hb, hlow⟩ := low_ex hlt hzz
    have hn := hm.n1.2
    have hll := hd.blen
    have hc := fun (i : Nat) (r : Nat × List UInt8) (hr : M[i]? = some (some r)) => redM_clear hi X l n i r (by rw [← hi.len]; exact (List.getElem?_eq_some_iff.1 hr).1) hr
    have hzl := redM_len M X l n
    have hnone := (hi.add hlt (by rw [hzl]; exact hll) hf hb hlow hc).1
    have hno : M.getD f none = none := by rw [List.getD_eq_getElem?_getD, hnone]; rfl
    refine (radd_yes P gm n z X c cd f _ M AV AD l _ w hm hv hd hX rfl hf hb hlow hi.len hno (fun r hr => hc r.1 r.2 (rowsTo_mem hr).2)).mono fun e w' h => ?_
    unfold addMx
    rw [if_neg hzz, lowb_at (by omega) hb hlow]
    exact h
end Go.Proofs.YtidcnoejihjgjaaGreatDoor.El
namespace Go.Proofs.YtidcnoejihjgjaaGreatDoor.El
open Go.RowKit
open VecM Vc
end Go.Proofs.YtidcnoejihjgjaaGreatDoor.El
