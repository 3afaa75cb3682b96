/- VecNil: rows that there aren't; rows of unlike lengths. -/
import Derived.Test.YtmaiekkjnaadnaaDoorVecAwake
namespace Go.Proofs.YtmaiekkjnaadnaaDoor
open Go.RowKit
open VecM
set_option maxRecDepth 100000 in
set_option maxHeartbeats 3200000 in
theorem vecNil_walk (n0 : Int) (_ : -9223372036854775808 ≤ n0) (_ : n0 ≤ 9223372036854775807) (i : Int) (_ : -9223372036854775808 ≤ i) (_ : i ≤ 9223372036854775807) (on : Bool) (w : World) (ht : DTab w) :
    Calls Tryd.prog 4 #[.int .i64 n0, .int .i64 i, .bool on] w fun e w' => e = .returned (.bool true) ∧ Below w.heap.size w w' := by
  have HB0 := Lib.hid (Bag.start w ht)
  obtain ⟨n, hn, hnp⟩ := pick_in n0 256 (by omega) (by omega)
  have HNP := Lib.hid hnp
  have hn2 : n ≤ 255 := by omega
  clear hnp hn ht
  go_enter Tryd.func4, Tryd.ntmps4
  go_wp2_with (rw [HNP.out])
  refine (bag_new HB0.out (by omega)).mono ?_
  rintro e w1 ⟨g, h, rfl, HB1⟩
  clear HB0
  go_wp2_with fail
  refine (bag_quiet HB1.out (len_nil w1)).mono ?_
  rintro e w2 ⟨rfl, HB2⟩
  clear HB1
  go_wp2_with fail
  refine (bag_quiet HB2.out (has_no none i w2 (within_nil i w2))).mono ?_
  rintro e w3 ⟨rfl, HB3⟩
  clear HB2
  go_wp2_with fail
  refine (bag_quiet HB3.out (set_no none i on w3 (within_nil i w3))).mono ?_
  rintro e w4 ⟨rfl, HB4⟩
  clear HB3
  go_wp2_with fail
  refine (bag_QB HB4.out (xor_nil _ w4)).mono ?_
  rintro e w5 ⟨rfl, HB5⟩
  clear HB4
  go_wp2_with fail
  refine (bag_QB HB5.out (xor_nil _ w5)).mono ?_
  rintro e w6 ⟨rfl, HB6⟩
  clear HB5
  go_wp2_with fail
  refine (bag_quiet HB6.out (first_nil w6)).mono ?_
  rintro e w7 ⟨rfl, HB7⟩
  clear HB6
  go_wp2_with fail
  refine (bag_quiet HB7.out (count_nil w7)).mono ?_
  rintro e w8 ⟨rfl, HB8⟩
  clear HB7
  go_wp2_with fail
  refine (bag_quiet HB8.out (list_nil w8)).mono ?_
  rintro e w9 ⟨rfl, HB9⟩
  clear HB8
  go_wp2_with fail
  refine (bag_quiet HB9.out (copy_nil w9)).mono ?_
  rintro e w10 ⟨rfl, HB10⟩
  clear HB9
  go_wp2_with fail
  refine (bag_quiet HB10.out (bytes_nil w10)).mono ?_
  rintro e w11 ⟨rfl, HB11⟩
  clear HB10
  go_wp2_with fail
  refine (bag_QB HB11.out (same_nn w11)).mono ?_
  rintro e w12 ⟨rfl, HB12⟩
  clear HB11
  go_wp2_with fail
  refine (bag_QB HB12.out (same_nv _ w12)).mono ?_
  rintro e w13 ⟨rfl, HB13⟩
  clear HB12
  go_wp2_with fail
  refine (bag_QB HB13.out (same_vn _ w13)).mono ?_
  rintro e w14 ⟨rfl, HB14⟩
  clear HB13
  go_wp2_with fail
  refine (bag_QB HB14.out (xor_vn _ w14)).mono ?_
  rintro e w15 ⟨rfl, HB15⟩
  clear HB14
  have hn1 : ((n + 1 : Nat) : Int) = (n : Int) + 1 := by omega
  have HN1 := Lib.hid (fun (l : List VV) (W : World) (b : Bag w W l) => bag_new (n := n + 1) b (by omega))
  rw [hn1] at HN1
  clear hn1
  go_wp2_with fail
  refine (HN1.out _ _ HB15.out).mono ?_
  rintro e w16 ⟨g2, h2, rfl, HB16⟩
  clear HB15
  go_wp2_with fail
  refine (bag_xor_ne 0 1 HB16.out rfl rfl (by omega)).mono ?_
  rintro e w17 ⟨rfl, HB17⟩
  clear HB16
  go_wp2_with fail
  refine (HN1.out _ _ HB17.out).mono ?_
  rintro e w18 ⟨g3, h3, rfl, HB18⟩
  clear HB17
  go_wp2_with fail
  refine (bag_same_ne 0 2 HB18.out rfl rfl (by omega)).mono ?_
  rintro e w19 ⟨rfl, HB19⟩
  clear HB18
  go_wp2_with fail
  refine (bag_awake HB19.out).mono ?_
  rintro e w20 ⟨rfl, HB20⟩
  clear HB19
  go_wp2_with fail
  go_ret
  exact ⟨rfl, HB20.out.below⟩
end Go.Proofs.YtmaiekkjnaadnaaDoor
