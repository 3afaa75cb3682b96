/- The pieces of an image: plain mathematics. -/
import Derived.Test.YtidcnoejihjgjaaGreatDoorZLQF
import Derived.Test.YtidcnoejihjgjaaGreatDoorBlkSumQF
import Derived.Test.YtidcnoejihjgjaaGreatDoorZDQF
import Derived.Test.YtidcnoejihjgjaaGreatDoorZCQF
namespace Go.Proofs.YtidcnoejihjgjaaGreatDoor.Cd
open Go.RowKit
open VecM RdM Vc Sp Pc
def pcsL (img : List UInt8) (Z K : Nat) : List (List UInt8) := (List.range K).map (BlkM.piece img Z)
theorem pcsL_length (img : List UInt8) (Z K : Nat) : (pcsL img Z K).length = K := by simp [pcsL]
theorem pcsL_z {img : List UInt8} {Z K : Nat} : ∀ l ∈ pcsL img Z K, l.length = Z := by
  intro l hl
  obtain ⟨j, _, rfl⟩ := List.mem_map.1 hl
  exact BlkM.piece_length _ _ _
theorem pcsL_get {img : List UInt8} {Z K i : Nat} (h : i < K) : (pcsL img Z K).getD i [] = BlkM.piece img Z i := by simp [pcsL, List.getD, h]
def allC (s K P Z : Nat) (img : List UInt8) : List (List UInt8) := allP s K Z (pcsL img Z K) P
theorem allC_length (s K P Z : Nat) (img : List UInt8) : (allC s K P Z img).length = K + P := by unfold allC; rw [allP_length, pcsL_length]
theorem allC_z {s K P Z : Nat} {img : List UInt8} : ∀ l ∈ allC s K P Z img, l.length = Z := allP_len pcsL_z
theorem getD_mem {α : Type} {l : List α} {i : Nat} {d : α} (h : i < l.length) : l.getD i d ∈ l := by
  rw [List.getD_eq_getElem?_getD, List.getElem?_eq_getElem h]; exact List.getElem_mem h
theorem allC_zi {s K P Z i : Nat} {img : List UInt8} (h : i < K + P) : ((allC s K P Z img).getD i []).length = Z := allC_z _ (getD_mem (by rw [allC_length]; exact h))
end Go.Proofs.YtidcnoejihjgjaaGreatDoor.Cd
namespace Go.Proofs.YtidcnoejihjgjaaGreatDoor.Cd
open Go.RowKit
open VecM RdM Vc Sp Pc
def symX (s K P Z : Nat) (img : List UInt8) (id : Nat) : List UInt8 := sumF ((Ls (spX s K P id)).map fun i => (allC s K P Z img).getD i [])
theorem sumF_eq {h : List UInt8} {t : List (List UInt8)} (e : ∀ x ∈ t, x.length = h.length) : sumF (h :: t) = sumTo h t := by
  show (if ∀ x ∈ t, x.length = h.length then sumTo h t else []) = _
  rw [if_pos e]
theorem Ls_lt {s K P id i : Nat} (hi : i ∈ Ls (spX s K P id)) : i < K + P := by
  have h := (mem_L _ _ _).1 hi
  by_cases e : i < K + P
  · exact e
  · have h1 : spX s K P id < 2 ^ i := Nat.lt_of_lt_of_le spX_lt (Nat.pow_le_pow_right (by decide) (by omega))
    rw [Nat.testBit_lt_two_pow h1] at h
    exact absurd h.2 (by decide)
theorem sumF_z {l : List (List UInt8)} {Z : Nat} (h0 : l ≠ []) (h : ∀ x ∈ l, x.length = Z) : (sumF l).length = Z := by
  cases l with
  | nil => exact absurd rfl h0
  | cons a t =>
    have ha := h a (by simp)
    rw [sumF_eq (fun x hx => by rw [h x (by simp [hx]), ha]), sumTo_length, ha]
theorem sym_z {s K P Z id : Nat} {img : List UInt8} : ∀ x ∈ (Ls (spX s K P id)).map (fun i => (allC s K P Z img).getD i []), x.length = Z := by
  intro x hx
  obtain ⟨i, hi, rfl⟩ := List.mem_map.1 hx
  exact allC_zi (Ls_lt hi)
theorem sym_ne {s K P Z id : Nat} {img : List UInt8} (hK : 1 ≤ K) (hn : K + P ≤ 80) : (Ls (spX s K P id)).map (fun i => (allC s K P Z img).getD i []) ≠ [] := by
  have h := (spX_count (s := s) (id := id) hK hn).1
  intro e
  have := congrArg List.length e
  simp at this
  rw [this] at h
  simp at h
theorem symX_length {s K P Z id : Nat} {img : List UInt8} (hK : 1 ≤ K) (hn : K + P ≤ 80) : (symX s K P Z img id).length = Z := sumF_z (sym_ne hK hn) sym_z
theorem xorL_getD (a b : List UInt8) (j : Nat) (h : j < a.length) : (xorL a b).getD j 0 = a.getD j 0 ^^^ b.getD j 0 := by
  unfold xorL
  rw [xl_getD _ _ _ _ h, if_pos h]
theorem sumTo_getD (j : Nat) : ∀ (t : List (List UInt8)) (h : List UInt8), j < h.length → (sumTo h t).getD j 0 = t.foldl (fun a x => a ^^^ x.getD j 0) (h.getD j 0)
  | [], h, _ => rfl
  | x :: t, h, hj => by
    show (sumTo (xorL h x) t).getD j 0 = _
    rw [sumTo_getD j t (xorL h x) (by rw [xorL_length]; exact hj), xorL_getD _ _ _ hj]
    rfl
theorem xor4 (a b c d : UInt8) : (a ^^^ b) ^^^ (c ^^^ d) = (a ^^^ c) ^^^ (b ^^^ d) := by
  rw [UInt8.xor_assoc, UInt8.xor_assoc, ← UInt8.xor_assoc b c d, UInt8.xor_comm b c, UInt8.xor_assoc c b d]
theorem fold_lin (fa fb fc : Nat → UInt8) : ∀ (l : List Nat) (a b : UInt8), (∀ i ∈ l, fc i = fa i ^^^ fb i) → l.foldl (fun x i => x ^^^ fc i) (a ^^^ b) = l.foldl (fun x i => x ^^^ fa i) a ^^^ l.foldl (fun x i => x ^^^ fb i) b
  | [], a, b, _ => rfl
  | i :: l, a, b, h => by
    show l.foldl _ ((a ^^^ b) ^^^ fc i) = l.foldl _ (a ^^^ fa i) ^^^ l.foldl _ (b ^^^ fb i)
    rw [h i (by simp), xor4, fold_lin fa fb fc l _ _ (fun i hi => h i (by simp [hi]))]
theorem sumF_lin {l : List Nat} {Z : Nat} (fa fb fc : Nat → List UInt8) (h0 : l ≠ []) (ha : ∀ i ∈ l, (fa i).length = Z) (hb : ∀ i ∈ l, (fb i).length = Z) (hc : ∀ i ∈ l, (fc i).length = Z) (j : Nat) (hj : j < Z)
    (h : ∀ i ∈ l, (fc i).getD j 0 = (fa i).getD j 0 ^^^ (fb i).getD j 0) : (sumF (l.map fc)).getD j 0 = (sumF (l.map fa)).getD j 0 ^^^ (sumF (l.map fb)).getD j 0 := by
  cases l with
  | nil => exact absurd rfl h0
  | cons i t =>
    have g : ∀ f : Nat → List UInt8, (∀ i' ∈ i :: t, (f i').length = Z) → (sumF ((i :: t).map f)).getD j 0 = t.foldl (fun x k => x ^^^ (f k).getD j 0) ((f i).getD j 0) := by
      intro f hf
      rw [List.map_cons, sumF_eq (fun x hx => by
        obtain ⟨k, hk, rfl⟩ := List.mem_map.1 hx
        rw [hf k (by simp [hk]), hf i (by simp)]), sumTo_getD _ _ _ (by rw [hf i (by simp)]; exact hj), List.foldl_map]
    rw [g fa ha, g fb hb, g fc hc, h i (by simp)]
    exact fold_lin (fun k => (fa k).getD j 0) (fun k => (fb k).getD j 0) (fun k => (fc k).getD j 0) t _ _ (fun k hk => h k (by simp [hk]))
theorem piece_getD (img : List UInt8) (Z i j : Nat) (hj : j < Z) : (BlkM.piece img Z i).getD j 0 = img.getD (i * Z + j) 0 := by
  unfold BlkM.piece
  by_cases h : j < ((img.drop (i * Z)).take Z).length
  · rw [List.getD_eq_getElem?_getD, List.getElem?_append_left h, List.getElem?_take, if_pos hj, List.getElem?_drop, List.getD_eq_getElem?_getD]
  · have h2 : img[i * Z + j]? = none := by
      apply List.getElem?_eq_none
      simp at h; omega
    rw [List.getD_eq_getElem?_getD, List.getElem?_append_right (by omega), List.getD_eq_getElem?_getD, h2]
    rw [List.getElem?_replicate]
    split <;> rfl
theorem symX_lin {s K P Z id : Nat} {a b c : List UInt8} (hK : 1 ≤ K) (hn : K + P ≤ 80) (h : ∀ j, c.getD j 0 = a.getD j 0 ^^^ b.getD j 0) (j : Nat) (hj : j < Z) :
    (symX s K P Z c id).getD j 0 = (symX s K P Z a id).getD j 0 ^^^ (symX s K P Z b id).getD j 0 := by
  have hne : Ls (spX s K P id) ≠ [] := by
    have h := (spX_count (s := s) (id := id) hK hn).1
    intro e; rw [e] at h; simp at h
  have hR : RelS Z (pcsL a Z K) K (pcsL b Z K) (pcsL c Z K) := ⟨pcsL_length _ _ _, pcsL_length _ _ _, pcsL_z, pcsL_z, fun i hi j hj => by
    rw [pcsL_get hi, pcsL_get hi, pcsL_get hi, piece_getD _ _ _ _ hj, piece_getD _ _ _ _ hj, piece_getD _ _ _ _ hj, h]⟩
  exact sumF_lin (fun i => (allC s K P Z a).getD i []) (fun i => (allC s K P Z b).getD i []) (fun i => (allC s K P Z c).getD i []) hne (fun i hi => allC_zi (Ls_lt hi)) (fun i hi => allC_zi (Ls_lt hi)) (fun i hi => allC_zi (Ls_lt hi)) j hj
    (fun i hi => allP_lin (pcsL_length _ _ _) hR i (Ls_lt hi) j hj)
end Go.Proofs.YtidcnoejihjgjaaGreatDoor.Cd
namespace Go.Proofs.YtidcnoejihjgjaaGreatDoor.Cd
open Go.RowKit
open SoM
theorem cells_set_other {w : World} {g o p : Nat} {cs : Array Value} {T : TypeId} {v u : Value} (h : w.heap[g]? = some (.cells cs T (0, 0))) (hp : cs[p]? = some u) (hne : o ≠ p) : ∃ cs2, (w.setCell ⟨g, o, none⟩ v).heap[g]? = some (.cells cs2 T (0, 0)) ∧ cs2[p]? = some u := by
  refine ⟨_, heap_setCell_same w g o _ _ v h, ?_⟩
  simp [hne, hp]
theorem cell_at {w : World} {g p : Nat} {cs : Array Value} {T : TypeId} {u : Value} (h : w.heap[g]? = some (.cells cs T (0, 0))) (hp : cs[p]? = some u) : w.cell? ⟨g, p, none⟩ = some u := by
  rw [cell_of_row w g _ _ T (0, 0) h]; exact hp
def Locked (g o : Nat) (T : TypeId) (w : World) : Prop := ∃ cs, w.heap[g]? = some (.cells cs T (0, 0)) ∧ cs[o]? = some (.int .u32 0) ∧ cs[o + 1]? = some (.int .i32 1)
set_option maxRecDepth 100000 in
set_option maxHeartbeats 3200000 in
theorem slow_gen (g o : Nat) (T : TypeId) (cs : Array Value) (c : Value) (R : World → Prop) (w : World) (h : w.heap[g]? = some (.cells cs T (0, 0))) (hd : cs[o]? = some (.int .u32 0)) (hm : cs[o + 1]? = some (.int .i32 0))
    (HF : Calls Tryz.prog 98 #[c] (w.setCell ⟨g, o + 1, none⟩ (.int .i32 1)) fun e w2 => e = .returned (.tuple #[]) ∧ Hid (R w2) ∧ Hid (Locked g o T w2)) :
    Calls Tryz.prog 121 #[.pointer (some ⟨g, o, none⟩), .func (.func 98) #[] #[c]] w fun e w' => e = .returned (.tuple #[]) ∧ ∃ w2, Hid (R w2) ∧ w' = (w2.drew.setCell ⟨g, o, none⟩ (.int .u32 1)).setCell ⟨g, o + 1, none⟩ (.int .i32 0) := by
  have HC := Lib.hid (cell_at h hm)
  have HZ := Lib.hid (frozen_of_row w g (o + 1) _ _ h)
  have HD : Hid ((w.setCell ⟨g, o + 1, none⟩ (.int .i32 1)).cell? ⟨g, o, none⟩ = some (.int .u32 0)) := by
    obtain ⟨cs2, h1, h2⟩ := cells_set_other (o := o + 1) (v := .int .i32 1) h hd (by omega)
    exact cell_at h1 h2
  have HFF := Lib.hid HF
  have hnot : ∀ (x : Bool) (w : World), (Op.unary .not (.bool x)).run Tryz.prog w = .ok (.bool (!x)) w := fun _ _ => rfl
  clear h hd hm HF
  go_enter_defers Tryz.func121, Tryz.ntmps121
  go_wp2_with (first | (go_at_call 143; refine (lock_free ⟨g, o + 1, none⟩ _ HC.out HZ.out).mono ?_; rintro e w' ⟨rfl, rfl⟩) | (go_at_call 120; refine (bload_no _ _ HD.out).mono ?_; rintro e w' ⟨rfl, rfl⟩))
  refine HFF.out.mono ?_
  rintro e w2 ⟨rfl, HR, HL⟩
  clear HC HZ HD HFF
  go_wp2
  obtain ⟨cs2, h2, hd2, hm2⟩ := HL.out
  have h2d : w2.drew.heap[g]? = some (.cells cs2 T (0, 0)) := h2
  obtain ⟨cs3, h3, hm3⟩ := cells_set_other (o := o) (v := .int .u32 1) h2d hm2 (by omega)
  refine leaves_cons (f := 145) (args := #[.pointer (some ⟨g, o, none⟩), .bool true]) (by simp) (by simp [go_sem]) ?_
  refine (store_deferred ⟨g, o, none⟩ (.int .u32 0) .returning _ (cell_at h2 hd2) (frozen_of_row _ g o _ _ h2)).mono ?_
  rintro e u' w'' ⟨rfl, rfl, rfl⟩
  refine leaves_cons (f := 144) (args := #[.pointer (some ⟨g, o + 1, none⟩)]) (by simp [settle]) (by simp [go_sem]) ?_
  refine (unlock_deferred ⟨g, o + 1, none⟩ _ _ (cell_at h3 hm3) (frozen_of_row _ g (o + 1) _ _ h3)).mono ?_
  rintro e u' w'' ⟨rfl, rfl, rfl⟩
  simp [Leaves, settle, results, Tryz.results121]
  exact ⟨w2, HR, rfl⟩
set_option maxRecDepth 100000 in
theorem do_gen (g o : Nat) (T : TypeId) (cs : Array Value) (c : Value) (R : World → Prop) (w : World) (h : w.heap[g]? = some (.cells cs T (0, 0))) (hd : cs[o]? = some (.int .u32 0)) (hm : cs[o + 1]? = some (.int .i32 0))
    (HF : Calls Tryz.prog 98 #[c] (w.setCell ⟨g, o + 1, none⟩ (.int .i32 1)) fun e w2 => e = .returned (.tuple #[]) ∧ Hid (R w2) ∧ Hid (Locked g o T w2)) :
    Calls Tryz.prog 97 #[.pointer (some ⟨g, o, none⟩), .func (.func 98) #[] #[c]] w fun e w' => e = .returned (.tuple #[]) ∧ ∃ w2, Hid (R w2) ∧ w' = (w2.drew.setCell ⟨g, o, none⟩ (.int .u32 1)).setCell ⟨g, o + 1, none⟩ (.int .i32 0) := by
  have HD := Lib.hid (cell_at h hd)
  have HS := Lib.hid (slow_gen g o T cs c R w h hd hm HF)
  have hnot : ∀ (x : Bool) (w : World), (Op.unary .not (.bool x)).run Tryz.prog w = .ok (.bool (!x)) w := fun _ _ => rfl
  clear h hd hm HF
  go_enter Tryz.func97, Tryz.ntmps97
  go_wp2_with (go_at_call 120; refine (bload_no _ _ HD.out).mono ?_; rintro e w' ⟨rfl, rfl⟩)
  refine HS.out.mono ?_
  rintro e w3 ⟨rfl, w2, HR, rfl⟩
  go_wp2
  go_end0
  exact ⟨rfl, w2, HR, rfl⟩
set_option maxRecDepth 100000 in
theorem do_done_gen (g o : Nat) (T : TypeId) (cs : Array Value) (f : Value) (w : World) (h : w.heap[g]? = some (.cells cs T (0, 0))) (hd : cs[o]? = some (.int .u32 1)) :
    Calls Tryz.prog 97 #[.pointer (some ⟨g, o, none⟩), f] w (fun e w' => e = .returned (.tuple #[]) ∧ w = w') := by
  have HD := Lib.hid (cell_at h hd)
  have hnot : ∀ (x : Bool) (w : World), (Op.unary .not (.bool x)).run Tryz.prog w = .ok (.bool (!x)) w := fun _ _ => rfl
  clear h hd
  go_enter Tryz.func97, Tryz.ntmps97
  go_wp2_with (go_at_call 120; refine (bload_yes _ _ HD.out).mono ?_; rintro e w' ⟨rfl, rfl⟩)
  go_end0
  exact ⟨rfl, rfl⟩
end Go.Proofs.YtidcnoejihjgjaaGreatDoor.Cd
