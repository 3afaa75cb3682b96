/- The reference's Put: by contracts. -/
import Derived.Test.YtmlmpjokmbgmcaaR1Crc
import Derived.Test.YtmlmpjokmbgmcaaR1Join
import Derived.Deep.RegionWith
import Derived.Deep.DeepCutAuto
namespace Go.Proofs.Ytmlmpjokmbgmcaa
open Go.RowKit

set_option maxHeartbeats 400000 in
theorem r1put_any (B n cap : Nat) (A : Option Addr) (l : List UInt8) (w : World) (hl : Row w B A n (bv l)) (hn : n ≤ 1000000000) (hB : B ≤ w.heap.size) :
    Calls Try.prog 49 #[.slice A n cap] w (FreshBytes w.heap.size (CrcM.put l) w) := by
  obtain ⟨i0, hi, hz0, hz1, hz2⟩ := info_parts Try.info5
  go_enter Try.func49, Try.ntmps49
  go_wp2_with (at_builtin; refine wpList_app rfl _ (.tmp 3) 27 rfl w.heap.size 5 i0 (.int .u8 0) 1 Try.underlying27 hi hz0 hz1 hz2 rfl _ 0 [] rfl (World.ownsRow_nil _ _ _ _) B A n cap (bv l) rfl hl (bv_one l) (by unfold maxLen; omega) (by omega) (Nat.le_refl _) ?_; intro v2 w2 hown2 hg2 hat2)
  have hb2 : Below w.heap.size w w2 := (Below.refl _ _).grown hg2 (Nat.le_refl _) (by intro g h; nomatch h)
  have hs2 := hb2.size
  refine (r1crc_any B n cap A l w2 (hl.below (hb2.mono hB)) (by omega)).mono ?_
  rintro e w' ⟨rfl, rfl⟩
  go_wp2_with fail
  refine (four_any (CrcM.sum l) (CrcM.sum_lt l) w2).mono ?_
  rintro e w3 ⟨A3, n3, c3, rfl, hn3, hown3, hb3⟩
  have hs3 := hb3.size
  have hn3' : n3 = 4 := hn3.out
  subst hn3'
  have hown2' := own_below hown2 hb3
  go_wp2_with (at_builtin; refine wpList_app rfl (.tmp 4) (.tmp 7) 27 rfl w.heap.size 5 i0 (.int .u8 0) 1 Try.underlying27 hi hz0 hz1 hz2 rfl v2 (0 + n) ([] ++ bv l) rfl hown2' _ A3 4 c3 _ rfl (Row.of_own hown3) (bv_one _) (by unfold maxLen; omega) (by omega) (by omega) ?_; intro v4 w4 hown4 hg4 hat4)
  obtain ⟨A4, c4, rfl, _⟩ := own_slice hown4
  have hb4 : Below w.heap.size w w4 := below_app (hb2.trans (hb3.mono hs2)) (by omega) hown2' (Nat.le_refl _) hg4
  go_ret
  have hbl := hl.blen
  refine ⟨A4, 0 + n + 4, c4, rfl, ?_, ?_, hb4⟩
  · show _ = (CrcM.put l).length
    rw [CrcM.put_length]; omega
  · rw [List.nil_append, ← bv_append] at hown4
    exact hown4

def r1eq (l : List UInt8) (k : Nat) : Prop := CrcM.four (CrcM.sum (l.take k)) = l.drop k
theorem four_number (a b c d : UInt8) : CrcM.four (CrcM.number [a, b, c, d]) = [a, b, c, d] := by
  have := CrcM.b_lt a; have := CrcM.b_lt b; have := CrcM.b_lt c; have := CrcM.b_lt d
  simp only [CrcM.number, CrcM.four, List.foldl_cons, List.foldl_nil, List.cons.injEq, and_true]
  refine ⟨?_, ?_, ?_, ?_⟩ <;> apply UInt8.toNat.inj <;> simp <;> omega
theorem r1eq_iff (l : List UInt8) (k : Nat) (h : l.length = k + 4) : r1eq l k ↔ CrcM.right l := by
  unfold r1eq CrcM.right
  rw [h, show k + 4 - 4 = k by omega]
  have hd : (l.drop k).length = 4 := by rw [List.length_drop, h]; omega
  constructor
  · intro e
    refine ⟨by omega, ?_⟩
    rw [← e, CrcM.number_four _ (CrcM.sum_lt _)]
  · rintro ⟨_, e⟩
    rw [e]
    match hm : l.drop k, hd with
    | [a, b, c, d], _ => exact four_number a b c d
end Go.Proofs.Ytmlmpjokmbgmcaa
