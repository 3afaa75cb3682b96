/- The reference's way to open a wheel, place by place, as data: it comes to the same. The reference's wheel: places, at, Room: by contract. The reference's wheel as data; where it is not opened. The reference's wheel: Add where nothing is written. The reference's wheel: its last sector, its next place, a record more. -/
import Derived.Test.YtekaoodagaplmaaWhMath
import Derived.Test.YtekaoodagaplmaaWhP
import Derived.Test.YtekaoodagaplmaaRFlash
namespace Go.Proofs.Ytekaoodagaplmaa
open Go.RowKit
/-- behind i places: records, whether the sector counts, the last sector that counted -/
def rstW (f : Fl) (gen size : Nat) : Nat → List (Nat × List UInt8) × Bool × Int
  | 0 => ([], false, -1)
  | i + 1 =>
    let p := plAt (secB f (i / (256 / (size + 13)))) (size + 13) (i % (256 / (size + 13)))
    let c := if i % (256 / (size + 13)) = 0 then plB gen p else (rstW f gen size i).2.1
    if plB gen p && c then ((rstW f gen size i).1 ++ [plR p], c, ((i / (256 / (size + 13)) : Nat) : Int)) else ((rstW f gen size i).1, c, (rstW f gen size i).2.2)
theorem rstW_step {f : Fl} {gen size s j : Nat} (h : j < 256 / (size + 13)) : rstW f gen size (s * (256 / (size + 13)) + j + 1) =
    (let p := plAt (secB f s) (size + 13) j
     let c := if j = 0 then plB gen p else (rstW f gen size (s * (256 / (size + 13)) + j)).2.1
     if plB gen p && c then ((rstW f gen size (s * (256 / (size + 13)) + j)).1 ++ [plR p], c, (s : Int)) else ((rstW f gen size (s * (256 / (size + 13)) + j)).1, c, (rstW f gen size (s * (256 / (size + 13)) + j)).2.2)) := by
  have hp : 0 < 256 / (size + 13) := by omega
  have e1 : (s * (256 / (size + 13)) + j) / (256 / (size + 13)) = s := by
    rw [Nat.mul_comm, Nat.mul_add_div hp, Nat.div_eq_of_lt h, Nat.add_zero]
  have e2 : (s * (256 / (size + 13)) + j) % (256 / (size + 13)) = j := by
    rw [Nat.mul_comm, Nat.mul_add_mod, Nat.mod_eq_of_lt h]
  show (let p := plAt (secB f ((s * (256 / (size + 13)) + j) / (256 / (size + 13)))) (size + 13) ((s * (256 / (size + 13)) + j) % (256 / (size + 13)))
    let c := if (s * (256 / (size + 13)) + j) % (256 / (size + 13)) = 0 then plB gen p else (rstW f gen size (s * (256 / (size + 13)) + j)).2.1
    if plB gen p && c then ((rstW f gen size (s * (256 / (size + 13)) + j)).1 ++ [plR p], c, (((s * (256 / (size + 13)) + j) / (256 / (size + 13)) : Nat) : Int)) else ((rstW f gen size (s * (256 / (size + 13)) + j)).1, c, (rstW f gen size (s * (256 / (size + 13)) + j)).2.2)) = _
  rw [e1, e2]
theorem rstW_in {f : Fl} {gen size s : Nat} (h0 : (rstW f gen size (s * (256 / (size + 13)))).1 = (opW f gen size s).L ∧ (rstW f gen size (s * (256 / (size + 13)))).2.2 = (opW f gen size s).ready) :
    ∀ j, j < 256 / (size + 13) → rstW f gen size (s * (256 / (size + 13)) + j + 1) = (if cntB f gen size s then (opW f gen size s).L ++ recsUp gen (size + 13) (secB f s) (j + 1) else (opW f gen size s).L, cntB f gen size s, if cntB f gen size s then (s : Int) else (opW f gen size s).ready)
  | 0, h => by
    have h1 : (rstW f gen size (s * (256 / (size + 13)) + 0)).1 = (opW f gen size s).L := h0.1
    have h2 : (rstW f gen size (s * (256 / (size + 13)) + 0)).2.2 = (opW f gen size s).ready := h0.2
    rw [rstW_step h]
    show (if plB gen (plAt (secB f s) (size + 13) 0) && (if 0 = 0 then plB gen (plAt (secB f s) (size + 13) 0) else _) then _ else _) = _
    rw [if_pos rfl, h1, h2]
    show (if cntB f gen size s && cntB f gen size s then (_, cntB f gen size s, (s : Int)) else (_, cntB f gen size s, _)) = _
    cases hc : cntB f gen size s with
    | false => rfl
    | true =>
      have e : recsUp gen (size + 13) (secB f s) (0 + 1) = [plR (plAt (secB f s) (size + 13) 0)] := by
        show [] ++ (if plB gen (plAt (secB f s) (size + 13) 0) then _ else _) = _
        rw [if_pos (show plB gen (plAt (secB f s) (size + 13) 0) = true from hc)]; rfl
      rw [if_pos rfl, if_pos rfl, e]
      rfl
  | j + 1, h => by
    have ih := rstW_in h0 j (by omega)
    rw [rstW_step h, show s * (256 / (size + 13)) + (j + 1) = s * (256 / (size + 13)) + j + 1 by omega, ih]
    dsimp only
    rw [if_neg (show ¬ j + 1 = 0 by omega)]
    have e : recsUp gen (size + 13) (secB f s) (j + 1 + 1) = recsUp gen (size + 13) (secB f s) (j + 1) ++ (if plB gen (plAt (secB f s) (size + 13) (j + 1)) then [plR (plAt (secB f s) (size + 13) (j + 1))] else []) := rfl
    rw [e]
    cases hc : cntB f gen size s with
    | false => simp
    | true =>
      cases hp : plB gen (plAt (secB f s) (size + 13) (j + 1)) with
      | false => simp
      | true => simp
theorem rstW_opW {f : Fl} {gen size : Nat} (h2 : size ≤ 16) : ∀ s, (rstW f gen size (s * (256 / (size + 13)))).1 = (opW f gen size s).L ∧ (rstW f gen size (s * (256 / (size + 13)))).2.2 = (opW f gen size s).ready
  | 0 => by rw [Nat.zero_mul]; exact ⟨rfl, rfl⟩
  | s + 1 => by
    have hp : 0 < 256 / (size + 13) := Nat.div_pos (by omega) (by omega)
    have h := rstW_in (f := f) (gen := gen) (size := size) (s := s) (rstW_opW h2 s) (256 / (size + 13) - 1) (by omega)
    rw [show s * (256 / (size + 13)) + (256 / (size + 13) - 1) + 1 = (s + 1) * (256 / (size + 13)) by rw [Nat.succ_mul]; omega, show 256 / (size + 13) - 1 + 1 = 256 / (size + 13) by omega] at h
    rw [h]
    cases hc : cntB f gen size s with
    | false => rw [opW_no hc]; exact ⟨rfl, rfl⟩
    | true =>
      rw [opW_yes hc]
      unfold Wh.upto Wh.wide
      rw [opW_gen, opW_size]
      exact ⟨rfl, rfl⟩
theorem nextUp_any {wide base n0 n1 : Nat} {b : List UInt8} (h : allFF (plAt b wide 0) = false) : ∀ k, nextUp wide base n0 b (k + 1) = nextUp wide base n1 b (k + 1)
  | 0 => by
    show (if allFF (plAt b wide 0) then _ else _) = (if allFF (plAt b wide 0) then _ else _)
    rw [h]; rfl
  | k + 1 => by
    show (if allFF (plAt b wide (k + 1)) then nextUp wide base n0 b (k + 1) else _) = (if allFF (plAt b wide (k + 1)) then nextUp wide base n1 b (k + 1) else _)
    rw [nextUp_any h k]
/-- the next free place, looked for from the beginning of the last sector that counts -/
theorem opW_next_is {f : Fl} {gen size : Nat} (h1 : 1 ≤ size) (h2 : size ≤ 16) :
    (opW f gen size 8 = ⟨gen, size, [], -1, 0⟩) ∨
    (∃ r : Nat, r < 8 ∧ (opW f gen size 8).ready = (r : Int) ∧ (opW f gen size 8).next = nextUp (size + 13) (r * (256 / (size + 13))) (r * (256 / (size + 13))) (secB f r) (256 / (size + 13))) := by
  have hp := per_bounds h1 h2
  rcases opW_state f gen size h1 h2 with ⟨a1, _⟩ | ⟨r, i, a1, _, a3, _, a5, a6, _, _⟩
  · exact .inl a1
  · refine .inr ⟨r, a1, a6, ?_⟩
    rw [a5]
    show nextUp (opW f gen size r).wide (r * (opW f gen size r).per) (opW f gen size r).next (secB f r) _ = _
    unfold Wh.wide Wh.per
    rw [opW_size]
    have hb : allFF (plAt (secB f r) (size + 13) 0) = false := by
      cases e : allFF (plAt (secB f r) (size + 13) 0) with
      | false => rfl
      | true =>
        rw [show cntB f gen size r = false from blank_no e (by rw [plAt_length (by rw [secB_length]; omega)]; omega)] at a3
        cases a3
    obtain ⟨k, hk⟩ : ∃ k, 256 / (size + 13) = k + 1 := ⟨256 / (size + 13) - 1, by omega⟩
    rw [hk]
    exact nextUp_any hb k
end Go.Proofs.Ytekaoodagaplmaa
namespace Go.Proofs.Ytekaoodagaplmaa
open Go.RowKit
section
variable {gr size nx : Nat} {w : World}
set_option maxRecDepth 100000 in
theorem rplaces_any (hc : w.cell? ⟨gr, 2, none⟩ = some (.int .i64 (size : Int))) (h1 : 1 ≤ size) (h : size ≤ 16) :
    Calls Try.prog 25 #[.pointer (some ⟨gr, 0, none⟩)] w fun e w' => e = .returned (.int .i64 ((256 / (size + 13) : Nat) : Int)) ∧ w = w' := by
  have hcase : size = 1 ∨ size = 2 ∨ size = 3 ∨ size = 4 ∨ size = 5 ∨ size = 6 ∨ size = 7 ∨ size = 8 ∨ size = 9 ∨ size = 10 ∨ size = 11 ∨ size = 12 ∨ size = 13 ∨ size = 14 ∨ size = 15 ∨ size = 16 := by omega
  clear h h1
  rcases hcase with rfl | rfl | rfl | rfl | rfl | rfl | rfl | rfl | rfl | rfl | rfl | rfl | rfl | rfl | rfl | rfl
  all_goals
    go_enter Try.func25, Try.ntmps25
    go_wp2_with fail
    go_ret
    exact ⟨rfl, rfl⟩
set_option maxRecDepth 100000 in
theorem rroom_any (hc : w.cell? ⟨gr, 2, none⟩ = some (.int .i64 (size : Int))) (hc5 : w.cell? ⟨gr, 5, none⟩ = some (.int .i64 (nx : Int))) (h1 : 1 ≤ size) (h : size ≤ 16) (hn : nx ≤ 8 * (256 / (size + 13))) :
    Calls Try.prog 19 #[.pointer (some ⟨gr, 0, none⟩)] w fun e w' => e = .returned (.int .i64 ((8 * (256 / (size + 13)) - nx : Nat) : Int)) ∧ ∃ q, w' = w.drewN q := by
  have HP := Lib.hid (fun q => rplaces_any (gr := gr) (size := size) (w := w.drewN q) hc h1 h)
  have hpb := per_bounds h1 h
  obtain ⟨pr, hpr⟩ : ∃ pr, 256 / (size + 13) = pr := ⟨_, rfl⟩
  rw [hpr] at HP hpb hn ⊢
  have hp18 : (pr : Int) ≤ 18 := by omega
  have hni : (nx : Int) ≤ (pr : Int) * 8 := by omega
  have HR : Hid ((pr : Int) * 8 - (nx : Int) = ((8 * pr - nx : Nat) : Int)) := by show _ = _; omega
  clear hpb hpr hn hc
  go_enter Try.func19, Try.ntmps19
  go_wp2_with fail
  go_quiet ((go_at_call 25; with_reducible exact Calls.quiet_of_same (wsame (HP.out _))))
  go_wp2_with fail
  go_ret
  exact ⟨congrArg (fun z => Ending.returned (.int .i64 z)) HR.out, _, rfl⟩
def RAtOk (S a : Nat) (w : World) (e : Ending) (w' : World) : Prop := e = .returned (.tuple #[.int .i64 ((6 + S : Nat) : Int), .int .i64 (a : Int)]) ∧ ∃ q, w' = w.drewN q
set_option maxRecDepth 100000 in
theorem rat_any (p S j : Nat) (hc : w.cell? ⟨gr, 2, none⟩ = some (.int .i64 (size : Int))) (h1 : 1 ≤ size) (h : size ≤ 16) (hp : p ≤ 8 * (256 / (size + 13))) (hS : p / (256 / (size + 13)) = S) (hj : p % (256 / (size + 13)) = j) :
    Calls Try.prog 26 #[.pointer (some ⟨gr, 0, none⟩), .int .i64 (p : Int)] w (RAtOk S (256 * (6 + S) + j * (size + 13)) w) := by
  have HP := Lib.hid (fun q => rplaces_any (gr := gr) (size := size) (w := w.drewN q) hc h1 h)
  have HP0 := Lib.hid (rplaces_any (gr := gr) (size := size) (w := w) hc h1 h)
  have hpb := per_bounds h1 h
  obtain ⟨pr, hpr⟩ : ∃ pr, 256 / (size + 13) = pr := ⟨_, rfl⟩
  rw [hpr] at HP HP0 hpb hp hS hj
  have hp18 : (pr : Int) ≤ 18 := by omega
  have hp0 : ¬ (pr : Int) = 0 := by omega
  have hpi : (p : Int) ≤ 8 * (pr : Int) := by omega
  have hS9 : S ≤ 8 := by rw [← hS]; exact Nat.div_le_of_le_mul (by rw [Nat.mul_comm]; exact hp)
  have hS9i : (S : Int) ≤ 8 := by omega
  have hjl : j < pr := by rw [← hj]; exact Nat.mod_lt _ (by omega)
  have hqsi0 : (p : Int) / (pr : Int) = (S : Int) := by rw [← hS]; rfl
  obtain ⟨qw, hqw⟩ : ∃ qw, j * (size + 13) = qw := ⟨_, rfl⟩
  have hqwb : qw + (size + 13) ≤ 256 := by
    rw [← hqw, ← Nat.succ_mul]
    exact Nat.le_trans (Nat.mul_le_mul_right _ hjl) hpb.2.2
  have hqwi : (qw : Int) ≤ 256 := by omega
  have hszi : (size : Int) ≤ 16 := by omega
  rw [hqw]
  have HV1 : Hid (wrap64 (6 + wrap64 ((p : Int) / (pr : Int))) = ((6 + S : Nat) : Int)) := by
    show _ = _
    rw [hqsi0, IntWalk.wrap64_in (S : Int) ⟨by omega, by omega⟩, IntWalk.wrap64_in _ ⟨by omega, by omega⟩]; omega
  have HV2 : Hid (wrap64 (wrap64 (((6 + S : Nat) : Int) * 256) + wrap64 ((p : Int) % (pr : Int) * ((size : Int) + 13))) = ((256 * (6 + S) + qw : Nat) : Int)) := by
    show _ = _
    have e1 : (p : Int) % (pr : Int) = (j : Int) := by rw [← hj]; rfl
    rw [e1, show (j : Int) * ((size : Int) + 13) = (qw : Int) by rw [← hqw]; push_cast; rfl, IntWalk.wrap64_in (qw : Int) ⟨by omega, by omega⟩, IntWalk.wrap64_in (((6 + S : Nat) : Int) * 256) ⟨by omega, by omega⟩, IntWalk.wrap64_in _ ⟨by omega, by omega⟩]; omega
  have HC := Lib.hid hc
  clear hpb hpr hp hS hj hqsi0 hqw hqwb hjl hc hS9
  go_enter Try.func26, Try.ntmps26
  go_wp2_with fail
  refine HP0.out.mono ?_
  rintro e w' ⟨rfl, rfl⟩
  have hc := HC.out
  go_wp2_with fail
  go_quiet ((go_at_call 25; with_reducible exact Calls.quiet_of_same (wsame (HP.out _))))
  go_wp2_with fail
  go_ret2
  exact ⟨by rw [HV1.out, HV2.out]; rfl, _, rfl⟩
end
end Go.Proofs.Ytekaoodagaplmaa
namespace Go.Proofs.Ytekaoodagaplmaa
open Go.RowKit
/-- the reference's wheel: its flash's block, the last sector by its own number -/
def rwcells (gm : Nat) (h : Wh) (v : Value) : Array Value := #[.pointer (some ⟨gm, 0, none⟩), .int .u32 (h.gen : Int), .int .i64 (h.size : Int), v, .int .i64 (if h.ready < 0 then -1 else h.ready + 6), .int .i64 (h.next : Int)]
/-- the wheel h, in block gr and others of P, over the reference's flash in blocks gm, gB -/
def RWhAt (P : Nat → Prop) (gr gm gB : Nat) (h : Wh) (W : World) : Prop :=
  ∃ A n c es, W.heap[gr]? = some (.cells (rwcells gm h (.slice A n c)) 47 (0, 0)) ∧ P gr ∧ ¬ P gm ∧ ¬ P gB ∧ RecW (fun b => P b ∧ b ≠ gr) W (.slice A n c) n es ∧ es.map RRow.pair = h.L
section
variable {P P' : Nat → Prop} {gr gm gB : Nat} {h : Wh} {W W' : World}
theorem RWhAt.lt (a : RWhAt P gr gm gB h W) : gr < W.heap.size := by
  obtain ⟨A, n, c, es, hg, _⟩ := a
  exact (Array.getElem?_eq_some_iff.1 hg).1
theorem RWhAt.keep (a : RWhAt P gr gm gB h W) (hk : ∀ b, P b → b < W.heap.size → W'.heap[b]? = W.heap[b]?) (hs : W.heap.size ≤ W'.heap.size) : RWhAt P gr gm gB h W' := by
  have hl := a.lt
  obtain ⟨A, n, c, es, hg, h1, h2, h2b, h3, h4⟩ := a
  exact ⟨A, n, c, es, (hk gr h1 hl).trans hg, h1, h2, h2b, h3.keep (fun b hb => hk b hb.1) hs, h4⟩
theorem RWhAt.below (a : RWhAt P gr gm gB h W) (hb : Below W.heap.size W W') : RWhAt P gr gm gB h W' := a.keep (fun b _ hl => hb.block b hl) hb.size
theorem RWhAt.more (a : RWhAt P gr gm gB h W) (hp : ∀ b, P b → P' b) (hf : ¬ P' gm) (hB : ¬ P' gB) : RWhAt P' gr gm gB h W := by
  obtain ⟨A, n, c, es, hg, h1, h2, h2b, h3, h4⟩ := a
  exact ⟨A, n, c, es, hg, hp gr h1, hf, hB, h3.more (fun b hb => ⟨hp b hb.1, hb.2⟩), h4⟩
theorem rwc6 {v : Value} (hg : W.heap[gr]? = some (.cells (rwcells gm h v) 47 (0, 0))) :
    W.cell? ⟨gr, 0, none⟩ = some (.pointer (some ⟨gm, 0, none⟩)) ∧ W.cell? ⟨gr, 1, none⟩ = some (.int .u32 (h.gen : Int)) ∧ W.cell? ⟨gr, 2, none⟩ = some (.int .i64 (h.size : Int)) ∧ W.cell? ⟨gr, 3, none⟩ = some v ∧ W.cell? ⟨gr, 4, none⟩ = some (.int .i64 (if h.ready < 0 then -1 else h.ready + 6)) ∧ W.cell? ⟨gr, 5, none⟩ = some (.int .i64 (h.next : Int)) ∧
    W.frozen? ⟨gr, 3, none⟩ = false ∧ W.frozen? ⟨gr, 4, none⟩ = false ∧ W.frozen? ⟨gr, 5, none⟩ = false := by
  refine ⟨?_, ?_, ?_, ?_, ?_, ?_, frozen_of_row W gr _ _ _ hg, frozen_of_row W gr _ _ _ hg, frozen_of_row W gr _ _ _ hg⟩ <;> (rw [cell_of_row W gr _ _ _ (0, 0) hg]; rfl)
end
theorem rwroom_any {P : Nat → Prop} {gr gm gB : Nat} {h : Wh} {w : World} (hW : RWhAt P gr gm gB h w) (ok : h.Ok) : Calls Try.prog 19 #[.pointer (some ⟨gr, 0, none⟩)] w fun e w' => e = .returned (.int .i64 ((h.room : Nat) : Int)) ∧ ∃ q, w' = w.drewN q := by
  obtain ⟨A, n, c, es, hg, -⟩ := hW
  obtain ⟨-, -, u2, -, -, u5, -, -, -⟩ := rwc6 hg
  exact rroom_any u2 u5 ok.size1 ok.size2 ok.next
set_option maxRecDepth 100000 in
theorem ropen_arg (p : Value) (gen : Nat) (size : Int) (w : World) (h : size < 1 ∨ 16 < size) :
    Calls Try.prog 9 #[p, .int .u32 (gen : Int), .int .i64 size] w fun e w' => e = .returned (.tuple #[.pointer none, .int .i64 1]) ∧ w = w' := by
  by_cases h1 : size < 1
  · go_enter Try.func9, Try.ntmps9
    go_wp2_with fail
    go_ret2
    exact ⟨rfl, rfl⟩
  · have h2 : 16 < size := by omega
    go_enter Try.func9, Try.ntmps9
    go_wp2_with fail
    go_ret2
    exact ⟨rfl, rfl⟩
set_option maxRecDepth 100000 in
theorem ropen_down (gm gB gen size : Nat) (f : Fl) (w : World) (hf : RfAt w gm gB f) (hd : f.down = true) (hs1 : 1 ≤ size) (hs2 : size ≤ 16) :
    Calls Try.prog 9 #[.pointer (some ⟨gm, 0, none⟩), .int .u32 (gen : Int), .int .i64 (size : Int)] w fun e w' => e = .returned (.tuple #[.pointer none, .int .i64 11]) ∧ w = w' := by
  have h1 : (1 : Int) ≤ size := by omega
  have h2 : (size : Int) ≤ 16 := by omega
  have hoff := hf.off
  rw [hd] at hoff
  clear hf
  go_enter Try.func9, Try.ntmps9
  go_wp2_with fail
  go_ret2
  exact ⟨rfl, rfl⟩
end Go.Proofs.Ytekaoodagaplmaa
namespace Go.Proofs.Ytekaoodagaplmaa
open Go.RowKit
section
variable {P : Nat → Prop} {gr gm gB : Nat} {h : Wh} {f : Fl} {w : World}
set_option maxRecDepth 100000 in
theorem radd_len (id n cap : Nat) (A : Option Addr) (hW : RWhAt P gr gm gB h w) (hn : n ≠ h.size) (_hi : n ≤ 1000000) :
    Calls Try.prog 13 #[.pointer (some ⟨gr, 0, none⟩), .int .u32 (id : Int), .slice A n cap] w fun e w' => e = .returned (.int .i64 1) ∧ w = w' := by
  obtain ⟨Aw, nw, c, es, hg, -⟩ := hW
  obtain ⟨-, -, u2, -, -, -, -, -, -⟩ := rwc6 hg
  obtain ⟨sz, hsz⟩ : ∃ sz, h.size = sz := ⟨_, rfl⟩
  rw [hsz] at u2 hn
  have hne : ((n : Int) != (sz : Int)) = true := bne_iff_ne.2 (by omega)
  have hne2 : ¬ (n : Int) = (sz : Int) := by omega
  clear hg hsz hn
  go_enter Try.func13, Try.ntmps13
  go_wp2_with fail
  go_ret
  exact ⟨rfl, rfl⟩
set_option maxRecDepth 100000 in
theorem radd_full (id cap : Nat) (A : Option Addr) (hW : RWhAt P gr gm gB h w) (ok : h.Ok) (hr : h.room = 0) :
    Calls Try.prog 13 #[.pointer (some ⟨gr, 0, none⟩), .int .u32 (id : Int), .slice A h.size cap] w fun e w' => e = .returned (.int .i64 9) ∧ ∃ q, w' = w.drewN q := by
  have HR := Lib.hid (rwroom_any hW ok)
  rw [hr] at HR
  have hs := ok.size2
  obtain ⟨Aw, nw, c, es, hg, -⟩ := hW
  obtain ⟨-, -, u2, -, -, -, -, -, -⟩ := rwc6 hg
  obtain ⟨sz, hsz⟩ : ∃ sz, h.size = sz := ⟨_, rfl⟩
  rw [hsz] at u2 hs ⊢
  have hne : ((sz : Int) != (sz : Int)) = false := bne_self_eq_false _
  have hsi : (sz : Int) ≤ 16 := by omega
  clear hg hsz hr ok
  go_enter Try.func13, Try.ntmps13
  go_wp2_with fail
  refine HR.out.mono ?_
  rintro e w' ⟨rfl, q, rfl⟩
  go_wp2_with fail
  go_ret
  exact ⟨rfl, q, rfl⟩
set_option maxRecDepth 100000 in
theorem radd_down (id cap : Nat) (A : Option Addr) (hW : RWhAt P gr gm gB h w) (ok : h.Ok) (hr : h.room ≠ 0) (hf : RfAt w gm gB f) (hd : f.down = true) :
    Calls Try.prog 13 #[.pointer (some ⟨gr, 0, none⟩), .int .u32 (id : Int), .slice A h.size cap] w fun e w' => e = .returned (.int .i64 11) ∧ ∃ q, w' = w.drewN q := by
  have HR := Lib.hid (rwroom_any hW ok)
  have hs := ok.size2
  have hoff := hf.off
  rw [hd] at hoff
  obtain ⟨Aw, nw, c, es, hg, -⟩ := hW
  obtain ⟨u0, -, u2, -, -, -, -, -, -⟩ := rwc6 hg
  obtain ⟨sz, hsz⟩ : ∃ sz, h.size = sz := ⟨_, rfl⟩
  obtain ⟨rm, hrm⟩ : ∃ rm, h.room = rm := ⟨_, rfl⟩
  rw [hrm] at HR hr
  rw [hsz] at u2 hs ⊢
  have hne : ((sz : Int) != (sz : Int)) = false := bne_self_eq_false _
  have hsi : (sz : Int) ≤ 16 := by omega
  have hrb : ((rm : Int) == 0) = false := beq_eq_false_iff_ne.2 (by omega)
  have hrp : ¬ (rm : Int) = 0 := by omega
  have U0 := Lib.hid u0
  have HOF := Lib.hid hoff
  clear hg hsz hr ok hrm hf hd u0 hoff
  go_enter Try.func13, Try.ntmps13
  go_wp2_with fail
  refine HR.out.mono ?_
  rintro e w' ⟨rfl, q, rfl⟩
  have u0 : (w.drewN q).cell? ⟨gr, 0, none⟩ = some (.pointer (some ⟨gm, 0, none⟩)) := U0.out
  have hoff : (w.drewN q).cell? ⟨gm, 16, none⟩ = some (.bool true) := HOF.out
  go_wp2_with fail
  go_ret
  exact ⟨rfl, q, rfl⟩
end
end Go.Proofs.Ytekaoodagaplmaa
namespace Go.Proofs.Ytekaoodagaplmaa
open Go.RowKit
section
variable {P P' : Nat → Prop} {gr gm gB : Nat} {h h' : Wh} {W W' : World}
theorem RWhAt.ready (a : RWhAt P gr gm gB h W) (s : Int) (x : Int) (hx : x = if s < 0 then -1 else s + 6) : RWhAt P gr gm gB { h with ready := s } (W.setCell ⟨gr, 4, none⟩ (.int .i64 x)) := by
  subst hx
  obtain ⟨A, n, c, es, hg, h1, h2, h2b, h3, h4⟩ := a
  exact ⟨A, n, c, es, heap_setCell_same W gr 4 _ _ _ hg, h1, h2, h2b, recW_set h3 (fun hb => hb.2 rfl) _, h4⟩
theorem RWhAt.next (a : RWhAt P gr gm gB h W) (s : Nat) (x : Int) (hx : x = (s : Int)) : RWhAt P gr gm gB { h with next := s } (W.setCell ⟨gr, 5, none⟩ (.int .i64 x)) := by
  subst hx
  obtain ⟨A, n, c, es, hg, h1, h2, h2b, h3, h4⟩ := a
  exact ⟨A, n, c, es, heap_setCell_same W gr 5 _ _ _ hg, h1, h2, h2b, recW_set h3 (fun hb => hb.2 rfl) _, h4⟩
/-- a record more, W0 where the list grew, W behind it -/
theorem RWhAt.app {W0 : World} {v v' : Value} {n : Nat} {es : List RRow} {r : RRow} (hg : W0.heap[gr]? = some (.cells (rwcells gm h v) 47 (0, 0))) (h1 : P gr) (h2 : ¬ P' gm) (h2b : ¬ P' gB) (h3 : RecW (fun b => P b ∧ b ≠ gr) W0 v n es) (h4 : es.map RRow.pair = h.L)
    (hr : RcAt (fun b => P' b ∧ b ≠ gr) W0 v r) (hown : W.ownsRow 0 77 2 v' (n + 1) (rcells es ++ r.cells)) (hgr : W0.grownBy W v.ownBlock) (hv : v'.ownBlock = v.ownBlock ∨ v'.ownBlock = some W0.heap.size) (hq : ∀ b, P b → P' b) (hn : v'.ownBlock = some W0.heap.size → P' W0.heap.size) :
    W.heap[gr]? = some (.cells (rwcells gm h v) 47 (0, 0)) ∧ RWhAt P' gr gm gB { h with L := h.L ++ [r.pair] } (W.setCell ⟨gr, 3, none⟩ v') := by
  have hl : gr < W0.heap.size := (Array.getElem?_eq_some_iff.1 hg).1
  have hgw : W.heap[gr]? = some (.cells (rwcells gm h v) 47 (0, 0)) := (hgr.block gr hl (fun e => (h3.2.1 gr e.symm).2 rfl)).trans hg
  refine ⟨hgw, ?_⟩
  have hrw := h3.next (Q' := fun b => P' b ∧ b ≠ gr) hr hown hgr hv (fun b hb => ⟨hq b hb.1, hb.2⟩) (fun e => ⟨hn e, by omega⟩)
  obtain ⟨A, c, rfl⟩ : ∃ A c, v' = .slice A (n + 1) c := by
    rcases hown.2 with ⟨_, h0⟩ | ⟨g, cap, cur, hv', _⟩
    · omega
    · exact ⟨_, _, hv'⟩
  exact ⟨A, n + 1, c, es ++ [r], heap_setCell_same W gr 3 _ _ _ hgw, hq gr h1, h2, h2b, recW_set hrw (fun hb => hb.2 rfl) _, by rw [List.map_append, h4]; rfl⟩
/-- a place's number: its sector, its first byte -/
theorem place_of {p per : Nat} (_h : 0 < per) : p / per * per + p % per = p := by rw [Nat.mul_comm]; exact Nat.div_add_mod p per
/-- what the flash holds at a place -/
theorem plAt_flash (f : Fl) {size p : Nat} (h1 : 1 ≤ size) (h2 : size ≤ 16) : plAt (secB f (p / (256 / (size + 13)))) (size + 13) (p % (256 / (size + 13))) = f.sub (256 * (6 + p / (256 / (size + 13))) + p % (256 / (size + 13)) * (size + 13)) (size + 13) := by
  have hpb := per_bounds h1 h2
  refine plAt_sub f _ _ _ (Nat.le_trans (Nat.mul_le_mul_right _ (Nat.mod_lt _ (by omega))) hpb.2.2)
end
end Go.Proofs.Ytekaoodagaplmaa
