/- elim.Solve: by contract. -/
import Derived.Test.YtgeodhffgbhmaaaDoorElBytes
import Derived.Test.YtgeodhffgbhmaaaDoorR1Join
namespace Go.Proofs.YtgeodhffgbhmaaaDoor.El
open Go.RowKit
open VecM Vc
def solM (M : Mx) : List (List UInt8) := M.map fun o => match o with
  | none => []
  | some r => r.2
/-- k pieces are told, in list gl -/
structure SolAt (w : World) (gl n : Nat) (es : List BRow) (wr : World) : Prop where
  row : ∃ cs, wr.heap[gl]? = some (.cells cs 30 (0, 0)) ∧ cs.size = n ∧ ∀ (i : Nat) (r : BRow), es[i]? = some r → cs[i]? = some r.val
  at_ : ∀ r ∈ es, r.n = r.l.length ∧ DatAt wr r.A r.c r.l ∧ ∃ d, r.A = some ⟨d, 0, none⟩ ∧ gl < d
  lo : w.heap.size ≤ gl
  b : Below w.heap.size w wr
theorem SolAt.below {w wr w' : World} {gl n : Nat} {es : List BRow} (h : SolAt w gl n es wr) (hb : Below wr.heap.size wr w') : SolAt w gl n es w' := by
  obtain ⟨cs, h1, h2⟩ := h.row
  refine ⟨⟨cs, (hb.block _ (Array.getElem?_eq_some_iff.1 h1).1).trans h1, h2⟩, fun r hr => ?_, h.lo, h.b.trans (hb.mono h.b.size)⟩
  obtain ⟨a1, a2, a3⟩ := h.at_ r hr
  exact ⟨a1, a2.keep fun b he => hb.block b (a2.lt he), a3⟩
theorem SolAt.next {w wr : World} {gl n d c : Nat} {es : List BRow} {l : List UInt8} (h : SolAt w gl n es wr) (hk : es.length < n) (hd : DatAt wr (some ⟨d, 0, none⟩) c l) (hlt : gl < d) :
    SolAt w gl n (es ++ [⟨some ⟨d, 0, none⟩, l.length, c, l⟩]) (wr.setCell ⟨gl, es.length, none⟩ (.slice (some ⟨d, 0, none⟩) l.length c)) := by
  obtain ⟨cs, h1, h2, h3⟩ := h.row
  refine ⟨⟨_, heap_setCell_same wr gl _ _ _ _ h1, by simpa using h2, fun i r hr => ?_⟩, fun r hr => ?_, h.lo, h.b.setCell h.lo _⟩
  · rw [Array.getElem?_setIfInBounds]
    by_cases e : es.length = i
    · subst e
      rw [if_pos rfl, if_pos (by omega)]
      rw [List.getElem?_append_right (Nat.le_refl _), Nat.sub_self] at hr
      injection hr with hr
      subst hr
      rfl
    · rw [if_neg e]
      by_cases h4 : i < es.length
      · rw [List.getElem?_append_left h4] at hr; exact h3 i r hr
      · rw [List.getElem?_append_right (by omega), List.getElem?_eq_none (by simp; omega)] at hr; cases hr
  · have keep : ∀ {A : Option Addr} {c : Nat} {l : List UInt8}, (∃ d, A = some ⟨d, 0, none⟩ ∧ gl < d) → DatAt wr A c l → DatAt (wr.setCell ⟨gl, es.length, none⟩ (.slice (some ⟨d, 0, none⟩) l.length c)) A c l := fun ⟨d', e, hl⟩ hx => hx.keep fun b he => by
      rw [e] at he
      have he : d' = b := Option.some.inj he
      exact heap_setCell_other _ _ _ _ (by show b ≠ gl; omega)
    rcases List.mem_append.1 hr with hr | hr
    · obtain ⟨a1, a2, a3⟩ := h.at_ r hr
      refine ⟨a1, ?_, a3⟩
      obtain ⟨d', e, hl⟩ := a3
      exact a2.keep fun b he => by
        rw [e] at he
        have he : d' = b := Option.some.inj he
        exact heap_setCell_other _ _ _ _ (by show b ≠ gl; omega)
    · rw [List.mem_singleton] at hr
      subst hr
      refine ⟨rfl, hd.keep fun b he => ?_, d, rfl, hlt⟩
      have he : d = b := Option.some.inj he
      exact heap_setCell_other _ _ _ _ (by show b ≠ gl; omega)
theorem full_all {rs : List (Option ER)} (h : rankE rs = rs.length) {k : Nat} (hk : k < rs.length) : ∃ r, rs.getD k none = some r := by
  have h1 := List.length_filter_eq_length_iff.1 h (rs[k]) (List.getElem_mem hk)
  obtain ⟨r, hr⟩ := Option.isSome_iff_exists.1 h1
  exact ⟨r, by rw [List.getD_eq_getElem?_getD, List.getElem?_eq_getElem hk]; exact hr⟩
def SolveOk (n : Nat) (ls : List (List UInt8)) (w : World) (e : Ending) (w' : World) : Prop :=
  ∃ gl es, e = .returned (.slice (some ⟨gl, 0, none⟩) n n) ∧ es.map (·.l) = ls ∧ Hid (SolAt w gl n es w')
theorem infoRowU8 : (Tryd.prog.info? 30).map (fun i => (i.zero, i.size, i.bytes)) = some (some (.slice none 0 0), 1, 24) := by kernel_rfl
theorem made_nils (m : Nat) (hm : m ≤ 256) : ∃ C : Array Value, C.size = m ∧ ∀ w : World, (Instr.makeSlice 43 (.int .i64 (m : Int)) (.int .i64 (m : Int))).run Tryd.prog w = .ok (.slice (some ⟨w.heap.size, 0, none⟩) m m) (w.alloc (.cells C 30)) := by
  obtain ⟨i0, hi, hz0, hz1, hz2⟩ := info_parts infoRowU8
  have h := fun w => run_make (P := Tryd.prog) w 43 30 i0 (.slice none 0 0) Tryd.underlying43 hi hz0 .i64 .i64 (m : Int) (m : Int) (by omega) (by omega) (by rw [hz2]; omega) (by omega)
  refine ⟨madeCells #[.slice none 0 0] m, by simp [madeCells], fun w => ?_⟩
  rw [h w, hz1]
  simp [Value.cells]
theorem solve_nilm (w : World) : Calls Tryd.prog 18 #[.pointer none] w fun e w' => e = .returned (.slice none 0 0) ∧ Hid (Below w.heap.size w w') := by
  go_enter Tryd.func18, Tryd.ntmps18
  go_wp2_with fail
  refine (full_nil w).mono ?_
  rintro e w1 ⟨rfl, hb⟩
  go_wp2_with fail
  go_ret
  exact ⟨rfl, hb⟩
theorem solve_no (F : Nat → Prop) (gm gr n z : Nat) (rs : List (Option ER)) (w : World) (m : MatAt w F gm gr n z rs) (h : rankE rs ≠ n) : Calls Tryd.prog 18 #[.pointer (some ⟨gm, 0, none⟩)] w fun e w' => e = .returned (.slice none 0 0) ∧ Hid (Below w.heap.size w w') := by
  have HM := Lib.hid m
  have HN := Lib.hid h
  clear m h
  go_enter Tryd.func18, Tryd.ntmps18
  go_wp2_with fail
  refine (full_any F gm gr n z rs w HM.out).mono ?_
  rw [decide_eq_false HN.out]
  rintro e w1 ⟨rfl, hb⟩
  go_wp2_with fail
  go_ret
  exact ⟨rfl, hb⟩
set_option maxRecDepth 100000 in
set_option maxHeartbeats 1600000 in
theorem solve_any (F : Nat → Prop) (gm gr n z : Nat) (rs : List (Option ER)) (w : World) (m : MatAt w F gm gr n z rs) (h : rankE rs = n) :
    Calls Tryd.prog 18 #[.pointer (some ⟨gm, 0, none⟩)] w (SolveOk n (solM (absM rs)) w) := by
  have HM := Lib.hid m
  obtain ⟨C, hC, hmk⟩ := made_nils n m.n2
  have HC := Lib.hid hC
  have HN := Lib.hid h
  have HALL := Lib.hid (fun (k : Nat) (hk : k < n) => full_all (rs := rs) (by rw [h, m.len]) (by rw [m.len]; exact hk))
  have hn2 : (n : Int) ≤ 256 := by have := m.n2; omega
  have HLS : Hid ((absM rs).length = n) := Lib.hid (by unfold absM; rw [List.length_map]; exact m.len)
  have HZ := Lib.hid (And.intro m.z1 m.z2)
  clear m h hC
  go_enter Tryd.func18, Tryd.ntmps18
  go_wp2_with fail
  refine (full_any F gm gr n z rs w HM.out).mono ?_
  rw [decide_eq_true HN.out]
  rintro e w1 ⟨rfl, hb⟩
  have HM1 := Lib.hid (HM.out.below hb.out)
  obtain ⟨c0, _⟩ := HM1.out.cells
  go_upto_region 4 with fail
  have hba : Below w1.heap.size w1 (w1.alloc (.cells C 30)) := (Below.refl _ _).alloc (Nat.le_refl _) _
  have HS : Hid (SolAt w w1.heap.size n [] (w1.alloc (.cells C 30))) := Lib.hid ⟨⟨C, heap_alloc_new _ _, HC.out, fun i r hr => (by cases hr)⟩, fun r hr => (by cases hr), hb.out.size, hb.out.trans (hba.mono hb.out.size)⟩
  clear c0 hba hb hmk
  generalize w1.alloc (.cells C 30) = w2 at *
  obtain ⟨gl, hgl⟩ : ∃ gl, w1.heap.size = gl := ⟨_, rfl⟩
  rw [hgl] at HS ⊢
  clear hgl HM1 HC
  obtain ⟨_, _, c2, _⟩ := (HM.out.below HS.out.b).cells
  go_wp2_with fail
  clear c2
  go_loopw [19] (fun x wr => ∃ k : Nat, ∃ es, k ≤ n ∧ x = .int .i64 k ∧ es.length = k ∧ es.map (·.l) = (solM (absM rs)).take k ∧ Hid (SolAt w gl n es wr)) (fun x _ => n - (intOf x).toNat)
  case atStart => exact ⟨0, [], by omega, rfl, rfl, rfl, HS⟩
  case round =>
    obtain ⟨k, es, hk, rfl, hek, hes, hs⟩ := hrel
    have HES := Lib.hid hes
    have HEK := Lib.hid hek
    clear HS hes hek
    by_cases hlt : k < n
    · have hki : (k : Int) < (n : Int) := by omega
      have hmr := HM.out.below hs.out.b
      obtain ⟨r1, r2⟩ := hmr.row hlt
      have hgr : gr < wr.heap.size := hmr.lt.2
      obtain ⟨r, hro⟩ := HALL.out k hlt
      obtain ⟨e1, e2, e3, _⟩ := HM.out.at_ k r (getD_get hro)
      rw [hro] at r1 r2
      unfold ptrOf at r1
      unfold slcOf at r2
      simp only [e3] at r1 r2
      have HRO := Lib.hid hro
      have HD := Lib.hid e2
      have HE := Lib.hid e3
      clear hro e1 e2 e3 hmr
      go_upto_region 7 with fail
      have hba : Below wr.heap.size wr (wr.alloc (.cells #[.pointer (some ⟨r.g, 0, none⟩), .slice (some ⟨r.d, 0, none⟩) z r.c] 73)) := (Below.refl _ _).alloc (Nat.le_refl _) _
      have hsa := hs.out.below hba
      have hxa := heap_alloc_new wr (.cells #[.pointer (some ⟨r.g, 0, none⟩), .slice (some ⟨r.d, 0, none⟩) z r.c] 73)
      have HSA := Lib.hid hsa
      generalize wr.alloc (.cells #[.pointer (some ⟨r.g, 0, none⟩), .slice (some ⟨r.d, 0, none⟩) z r.c] 73) = wa at *
      have c1 : wa.cell? ⟨wr.heap.size, 1, none⟩ = some (.slice (some ⟨r.d, 0, none⟩) z r.c) := by rw [cell_of_row wa _ 1 _ _ (0, 0) hxa]; rfl
      have hrow := (HD.out.keep (W' := wa) fun b he => HSA.out.b.block b (HD.out.lt he)).row
      rw [HE.out] at hrow
      have HRW := Lib.hid hrow
      clear hba hsa hxa hs r1 r2 hgr hrow
      go_wp2_with fail
      refine (clone_any wa.heap.size z r.c _ r.l wa HRW.out (by have := HZ.out; omega) (Nat.le_refl _)).mono ?_
      rintro e w3 ⟨Ac, nc, cc, rfl, hnc, hown, hb3⟩
      obtain ⟨en, D, d, rfl, hd, hdl⟩ := dat_of_own hown (by have := HZ.out; rw [HE.out]; omega)
      have HS3 := Lib.hid (HSA.out.below hb3)
      have hglt : gl < d := by
        obtain ⟨cs, h1, _⟩ := HSA.out.row
        have := (Array.getElem?_eq_some_iff.1 h1).1
        omega
      obtain ⟨cs, hgl, hcs, _⟩ := HS3.out.row
      have HN3 := Lib.hid (HS3.out.next (by rw [HEK.out]; exact hlt) D hglt)
      rw [HEK.out, HE.out] at HN3
      rw [HE.out] at en
      have en2 := en.symm
      subst en2
      have cl : ∃ v, w3.cell? ⟨gl, k, none⟩ = some v := ⟨cs[k]'(by omega), by rw [cell_of_row w3 gl k cs _ (0, 0) hgl]; exact Array.getElem?_eq_getElem _⟩
      obtain ⟨v0, cl⟩ := cl
      have fz := frozen_of_row w3 gl k cs _ hgl
      have HNX : Hid ((es ++ [(⟨some ⟨d, 0, none⟩, z, cc, r.l⟩ : BRow)]).map (·.l) = (solM (absM rs)).take (k + 1)) := Lib.hid (by
        have hg : (solM (absM rs))[k]? = some r.l := by
          unfold solM absM
          rw [List.getElem?_map, List.getElem?_map, getD_get HRO.out]
          rfl
        rw [List.map_append, HES.out, List.take_add_one, hg]
        rfl)
      clear hown hnc hd hdl hb3 D hglt hgl hcs en HSA HRW c1
      go_wp2_with fail
      go_roundw
      case rel => exact ⟨k + 1, _, by omega, by go_num, by rw [List.length_append, HEK.out]; rfl, HNX.out, HN3⟩
      case measure => simp [intOf]; omega
    · obtain rfl : n = k := by omega
      go_wp2_with fail
      go_ret
      exact ⟨gl, es, rfl, by rw [HES.out, List.take_of_length_le]; unfold solM; rw [List.length_map, HLS.out]; exact Nat.le_refl _, hs⟩
end Go.Proofs.YtgeodhffgbhmaaaDoor.El
