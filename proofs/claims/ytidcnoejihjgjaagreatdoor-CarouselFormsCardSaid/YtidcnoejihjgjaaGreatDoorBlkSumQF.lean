/- block.Sum: by contract. -/
import Derived.Deep.LoopGhost
import Derived.Test.YtidcnoejihjgjaaGreatDoorZQQF
import Derived.Test.YtidcnoejihjgjaaGreatDoorZAQF
import Derived.Test.YtidcnoejihjgjaaGreatDoorZEQF
namespace Go.Proofs.YtidcnoejihjgjaaGreatDoor
open Go.RowKit
def sumTo (h : List UInt8) (t : List (List UInt8)) : List UInt8 := t.foldl xorL h
theorem sumTo_length (h : List UInt8) (t : List (List UInt8)) : (sumTo h t).length = h.length := by
  induction t generalizing h with
  | nil => rfl
  | cons x t ih => show (sumTo (xorL h x) t).length = _; rw [ih, xorL_length]
theorem sumTo_snoc (h : List UInt8) (t : List (List UInt8)) (x : List UInt8) : sumTo h (t ++ [x]) = xorL (sumTo h t) x := by simp [sumTo]
def sumF : List (List UInt8) → List UInt8
  | [] => []
  | h :: t => if ∀ x ∈ t, x.length = h.length then sumTo h t else []
theorem Rows2.tail {w : World} {B n cap b o : Nat} {es : List BRow} (h : Rows2 w B (some ⟨b, o, none⟩) (n + 1) es) (hc : n + 1 ≤ cap) : Rows2 w B (if cap = 1 then some ⟨b, o, none⟩ else some ⟨b, o + 1, none⟩) n (es.drop 1) := by
  refine ⟨?_, fun r hr => h.2 r (List.mem_of_mem_drop hr)⟩
  have := h.1.tail (k := 1) (cap := cap) (by omega) hc
  rw [List.map_drop]
  simpa [plain_add] using this
theorem Rows2.len {w : World} {B n : Nat} {A : Option Addr} {es : List BRow} (h : Rows2 w B A n es) : es.length = n := by have := h.1.1; simpa using this
set_option maxHeartbeats 1600000 in
theorem sum_some (B n cap : Nat) (A : Option Addr) (r0 : BRow) (es : List BRow) (w : World) (hl : Rows2 w B A (n + 1) (r0 :: es)) (hc : n + 1 ≤ cap) (hcap : cap ≤ 9223372036854775807) (hB : B ≤ w.heap.size) (hm : r0.n ≤ 1000000000) :
    Calls Tryz.prog 80 #[.slice A (n + 1) cap] w (FreshBytes w.heap.size (sumF ((r0 :: es).map (·.l))) w) := by
  obtain ⟨b, o, rfl, r, hr, hcell, hrow⟩ := hl.at_ (k := 0) (by omega)
  simp at hr
  subst hr
  rw [Nat.add_zero] at hcell
  have htl := hl.tail hc
  have hlen := htl.len
  simp at hlen
  obtain ⟨A', hA'⟩ : ∃ A', (if cap = 1 then some (⟨b, o, none⟩ : Addr) else some ⟨b, o + 1, none⟩) = A' := ⟨_, rfl⟩
  rw [hA'] at htl
  have htl' : Rows2 w B A' n es := by simpa using htl
  have HLEN := Lib.hid hlen
  have h1c : (1 : Int) ≤ cap := by omega
  have hn1 : (1 : Int) ≤ (n : Int) + 1 := by omega
  have hne : ((n : Int) + 1 == 0) = false := by simp; omega
  have hRL := Lib.hid hrow.blen
  have HA' := Lib.hid hA'
  clear hlen htl hA'
  go_enter Tryz.func80, Tryz.ntmps80
  go_wp2_with fail
  refine (clone_any B r0.n r0.c r0.A r0.l w hrow (by omega) hB).mono ?_
  rintro e w1 ⟨A3, m, c3, rfl, hm3, hown, hb1⟩
  have hA2 := HA'.out
  have hm3' : m = r0.l.length := hm3.out
  have hmb : m ≤ 1000000000 := by rw [hm3', hRL.out]; exact hm
  have hM := Lib.hid hm3'
  clear hm3' hm3
  go_wp2_with fail
  clear hA2
  go_loopw [18] (fun x wr => ∃ k : Nat, k ≤ n ∧ x = .int .i64 k ∧ Hid (∀ r ∈ es.take k, r.l.length = r0.l.length) ∧ Hid (wr.ownsRow w.heap.size 5 1 (.slice A3 m c3) m (bv (sumTo r0.l ((es.take k).map (·.l))))) ∧ Below w.heap.size w wr) (fun x _ => n - (intOf x).toNat)
  case atStart => exact ⟨0, by omega, rfl, fun r hr => by simp at hr, hown, hb1⟩
  case round =>
    obtain ⟨k, hk, rfl, hall, hownk, hbk⟩ := hrel
    clear hown hb1
    by_cases hlt : k < n
    · obtain ⟨b', o', rfl, r, hr, hcellk, hrowk⟩ := (htl'.below (hbk.mono hB)).at_ hlt
      have hlk := (List.getElem?_eq_some_iff.1 hr).1
      have htk : es.take (k + 1) = es.take k ++ [r] := by
        rw [List.take_succ_eq_append_getElem hlk]
        rw [List.getElem?_eq_getElem hlk] at hr
        injection hr with hr
        rw [hr]
      have HTK := Lib.hid htk
      have hmem : Hid (r ∈ es) := List.mem_of_getElem? hr
      have HRL := Lib.hid hrowk.blen
      clear htk hr
      by_cases hrm : r.n = m
      · have hne2 : ((r.n : Int) != (m : Int)) = false := by rw [hrm]; simp
        have HRM := Lib.hid hrm
        have hrm' : (r.n : Int) = (m : Int) := by omega
        clear hrm
        generalize hS : sumTo r0.l ((es.take k).map (·.l)) = S at *
        have hSl : S.length = m := by rw [← hS, sumTo_length, hM.out]
        have HS := Lib.hid hS
        have HSL := Lib.hid hSl
        clear hS hSl
        obtain ⟨rA, rn, rc, rl⟩ := r
        have hrn : rn = m := HRM.out
        subst hrn
        simp only at hcellk hrowk hne2
        go_wp2_with fail
        obtain ⟨wo, hwo⟩ : ∃ wo : World, wo = wr := ⟨_, rfl⟩
        clear hcellk
        go_loopw [29] (fun x wr => ∃ i : Nat, i ≤ rn ∧ x = .int .i64 i ∧ Hid (wr.ownsRow w.heap.size 5 1 (.slice A3 rn c3) rn (bv (xl S rl i))) ∧ Below w.heap.size w wr) (fun x _ => rn - (intOf x).toNat)
        case atStart => exact ⟨0, by omega, rfl, by rw [xl_zero]; exact hownk, hbk⟩
        case round =>
          obtain ⟨i, hi, rfl, howni, hbi⟩ := hrel
          by_cases hlt2 : i < rn
          · obtain ⟨b2, o2, rfl, _, hil, hci⟩ := ((htl'.below (hbi.mono hB)).2 _ hmem.out).byteAt hlt2
            simp only at hci hil
            obtain ⟨g, cg, hv, hg0, hgs⟩ := howni.out.form (by omega)
            injection hv with e1 e2 e3
            subst e1 e3
            have hcs := (howni.out.cellAt i (by omega)).trans (bv_getD _ i (by rw [xl_length, HSL.out]; exact hlt2))
            have hfz := howni.out.frozenAt i
            rw [xl_getD _ _ _ _ (by rw [HSL.out]; exact hlt2), if_neg (by omega)] at hcs
            have hxor := xor_int (S.getD i 0) rl[i]
            have hst := Lib.hid ((howni.out.stored i (.int .u8 ((S.getD i 0 ^^^ rl[i]).toNat : Int))).1)
            have hset : Hid ((bv (xl S rl i)).set i (.int .u8 ((S.getD i 0 ^^^ rl[i]).toNat : Int)) = bv (xl S rl (i + 1))) := by
              show _ = _
              rw [← xl_set _ _ _ (by rw [HSL.out]; exact hlt2)]
              simp [bv, List.map_set, List.getD, hil]
            generalize hx : S.getD i 0 = x at *
            generalize hy : rl[i] = y at *
            clear hx hy
            go_wp2_with fail
            go_roundw
            case rel => exact ⟨i + 1, by omega, by go_num, by rw [← hset.out]; exact hst.out, hbi.setCell hg0 _⟩
            case measure => simp [intOf]; omega
          · obtain rfl : rn = i := by omega
            go_wp2_with fail
            go_roundw
            case rel =>
              refine ⟨k + 1, by omega, by go_num, ?_, ?_, hbi⟩
              · intro q hq
                rw [HTK.out] at hq
                rcases List.mem_append.1 hq with h | h
                · exact hall.out q h
                · simp at h
                  subst h
                  show rl.length = _
                  rw [HRL.out, ← hM.out]
              · show World.ownsRow _ _ _ _ _ _ _
                rw [HTK.out, List.map_append, List.map_cons, List.map_nil, sumTo_snoc, HS.out, xorL, HSL.out]
                exact howni.out
            case measure => simp [intOf]; omega
      · have hne2 : ((r.n : Int) != (m : Int)) = true := by simp; omega
        have hF : Hid (sumF ((r0 :: es).map (·.l)) = []) := by
          show _ = _
          simp only [List.map_cons, sumF]
          rw [if_neg]
          intro h
          have := h r.l (List.mem_map.2 ⟨r, hmem.out, rfl⟩)
          rw [HRL.out, ← hM.out] at this
          exact hrm this
        clear hrm
        go_wp2_with fail
        go_ret
        exact ⟨none, 0, 0, rfl, by rw [hF.out]; rfl, by rw [hF.out]; exact World.ownsRow_nil _ _ _ _, hbk⟩
    · obtain rfl : n = k := by omega
      have hF : Hid (sumF ((r0 :: es).map (·.l)) = sumTo r0.l (es.map (·.l))) := by
        show _ = _
        simp only [List.map_cons, sumF]
        rw [if_pos]
        intro x hx
        obtain ⟨r, hr, rfl⟩ := List.mem_map.1 hx
        exact hall.out r (by rw [List.take_of_length_le (by rw [HLEN.out]; omega)]; exact hr)
      have hfin := hownk.out
      rw [List.take_of_length_le (by rw [HLEN.out]; omega), ← hF.out] at hfin
      have HFIN := Lib.hid hfin
      clear hfin
      go_wp2_with fail
      go_ret
      refine ⟨A3, m, c3, rfl, ?_, HFIN.out, hbk⟩
      exact (hM.out.trans (sumTo_length _ _).symm).trans (congrArg List.length hF.out.symm)
end Go.Proofs.YtidcnoejihjgjaaGreatDoor
