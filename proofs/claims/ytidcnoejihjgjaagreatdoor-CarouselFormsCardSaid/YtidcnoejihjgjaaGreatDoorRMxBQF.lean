/- The reference's rows, as data. The reference's matrix, in memory. The reference's NewMatrix, reduce, Says: by contracts. The reference's Add: by contract. -/
import Derived.Maps.AppendAt
import Derived.Test.YtidcnoejihjgjaaGreatDoorZZEQF
import Derived.Test.YtidcnoejihjgjaaGreatDoorZYQF
import Derived.Test.YtidcnoejihjgjaaGreatDoorZAQF
import Derived.Test.YtidcnoejihjgjaaGreatDoorZEQF
import Derived.Test.YtidcnoejihjgjaaGreatDoorZFQF
namespace Go.Proofs.YtidcnoejihjgjaaGreatDoor.El
open Go.RowKit
open VecM Vc
abbrev Ln := Nat × Nat × List UInt8
def lnAt (M : Mx) (k : Nat) : List Ln := match M.getD k none with
  | none => []
  | some r => [(k, r.1, r.2)]
def rowsTo (M : Mx) : Nat → List Ln
  | 0 => []
  | k + 1 => rowsTo M k ++ lnAt M k
def redStep (p : Nat × List UInt8) (r : Ln) : Nat × List UInt8 := if p.1.testBit r.1 then (p.1 ^^^ r.2.1, xorL p.2 r.2.2) else p
theorem lnAt_none {M : Mx} {k : Nat} (h : M.getD k none = none) : lnAt M k = [] := by unfold lnAt; rw [h]
theorem lnAt_some {M : Mx} {k : Nat} {r : Nat × List UInt8} (h : M.getD k none = some r) : lnAt M k = [(k, r.1, r.2)] := by unfold lnAt; rw [h]
theorem redL_rows (M : Mx) (X : Nat) (l : List UInt8) : ∀ k, (rowsTo M k).foldl redStep (X, l) = redM M X l k
  | 0 => rfl
  | k + 1 => by
    show (rowsTo M k ++ lnAt M k).foldl redStep (X, l) = _
    rw [List.foldl_append, redL_rows M X l k]
    cases hm : M.getD k none with
    | none => rw [lnAt_none hm, redM_none hm]; rfl
    | some r =>
      rw [lnAt_some hm, redM_some hm]
      show redStep _ _ = _
      unfold redStep
      split <;> rfl
def chgLn (f X : Nat) (l : List UInt8) (r : Ln) : Ln := if r.2.1.testBit f then (r.1, r.2.1 ^^^ X, xorL r.2.2 l) else r
def insStep (f X : Nat) (l : List UInt8) (s : List Ln × Bool) (r : Ln) : List Ln × Bool :=
  if s.2 = false ∧ f < r.1 then (s.1 ++ [(f, X, l)] ++ [chgLn f X l r], true) else (s.1 ++ [chgLn f X l r], s.2)
def insTo (f X : Nat) (l : List UInt8) (ls : List Ln) : List Ln × Bool := ls.foldl (insStep f X l) ([], false)
def insL (f X : Nat) (l : List UInt8) (ls : List Ln) : List Ln := if (insTo f X l ls).2 then (insTo f X l ls).1 else (insTo f X l ls).1 ++ [(f, X, l)]
theorem insTo_snoc (f X : Nat) (l : List UInt8) (ls : List Ln) (r : Ln) : insTo f X l (ls ++ [r]) = insStep f X l (insTo f X l ls) r := by unfold insTo; rw [List.foldl_append]; rfl
theorem addM_getD {M : Mx} {X f : Nat} {l : List UInt8} (hf : f < M.length) (k : Nat) : (addM M X l f).getD k none = if k = f then some (X, l) else (M.getD k none).map fun r => if r.1.testBit f then (r.1 ^^^ X, xorL r.2 l) else r := by
  unfold addM
  rw [List.getD_eq_getElem?_getD]
  by_cases h : k = f
  · subst h
    rw [if_pos rfl, List.getElem?_set_self (by rw [List.length_map]; exact hf)]; rfl
  · rw [if_neg h, List.getElem?_set_ne (Ne.symm h), List.getElem?_map, List.getD_eq_getElem?_getD]
    cases M[k]? with
    | none => rfl
    | some o => rfl
theorem lnAt_add {M : Mx} {X f k : Nat} {l : List UInt8} (hf : f < M.length) (h : k ≠ f) : lnAt (addM M X l f) k = (lnAt M k).map (chgLn f X l) := by
  have h1 := addM_getD (X := X) (l := l) hf k
  rw [if_neg h] at h1
  cases hm : M.getD k none with
  | none => rw [hm] at h1; rw [lnAt_none hm, lnAt_none h1]; rfl
  | some r =>
    rw [hm] at h1
    rw [lnAt_some hm, lnAt_some h1]
    show _ = [chgLn f X l (k, r.1, r.2)]
    unfold chgLn
    dsimp only
    split <;> rfl
theorem insTo_rows {M : Mx} {X f : Nat} {l : List UInt8} (hf : f < M.length) (hn : M.getD f none = none) : ∀ k, (k ≤ f → insTo f X l (rowsTo M k) = (rowsTo (addM M X l f) k, false)) ∧ (f < k → insL f X l (rowsTo M k) = rowsTo (addM M X l f) k)
  | 0 => ⟨fun _ => rfl, fun h => by omega⟩
  | k + 1 => by
    obtain ⟨h1, h2⟩ := insTo_rows (X := X) (l := l) hf hn k
    constructor
    · intro hk
      have h3 := h1 (by omega)
      show insTo f X l (rowsTo M k ++ lnAt M k) = (rowsTo (addM M X l f) k ++ lnAt (addM M X l f) k, false)
      rw [lnAt_add hf (by omega)]
      cases hm : M.getD k none with
      | none => rw [lnAt_none hm, List.append_nil, h3]; simp
      | some r =>
        rw [lnAt_some hm, insTo_snoc, h3]
        unfold insStep
        rw [if_neg (by rintro ⟨_, h⟩; have h : f < k := h; omega)]
        rfl
    · intro hk
      show insL f X l (rowsTo M k ++ lnAt M k) = rowsTo (addM M X l f) k ++ lnAt (addM M X l f) k
      by_cases hkf : k = f
      · subst hkf
        have h3 := h1 (Nat.le_refl _)
        have h4 := addM_getD (X := X) (l := l) hf k
        rw [if_pos rfl] at h4
        rw [lnAt_none hn, List.append_nil, lnAt_some h4]
        unfold insL
        rw [h3]; rfl
      · have h3 := h2 (by omega)
        rw [lnAt_add hf hkf]
        cases hm : M.getD k none with
        | none => rw [lnAt_none hm, List.append_nil, h3]; simp
        | some r =>
          rw [lnAt_some hm, ← h3]
          unfold insL
          rw [insTo_snoc]
          obtain ⟨o, p⟩ := insTo f X l (rowsTo M k)
          have hfk : f < k := by omega
          cases p with
          | true => simp [insStep]
          | false => simp [insStep, hfk]
theorem insL_rows {M : Mx} {X f n : Nat} {l : List UInt8} (hl : M.length = n) (hf : f < n) (hn : M.getD f none = none) : insL f X l (rowsTo M n) = rowsTo (addM M X l f) n := (insTo_rows (by omega) hn n).2 hf
theorem rowsTo_length (M : Mx) : ∀ k, (rowsTo M k).length = rankM (M.take k)
  | 0 => rfl
  | k + 1 => by
    show (rowsTo M k ++ lnAt M k).length = _
    rw [List.length_append, rowsTo_length M k]
    by_cases h : k < M.length
    · rw [List.take_succ_eq_append_getElem h]
      have hm : M.getD k none = M[k] := by rw [List.getD_eq_getElem?_getD, List.getElem?_eq_getElem h]; rfl
      unfold rankM
      rw [List.filter_append, List.length_append]
      congr 1
      cases hr : M[k] with
      | none => rw [hr] at hm; rw [lnAt_none hm]; rfl
      | some r => rw [hr] at hm; rw [lnAt_some hm]; rfl
    · have hm : M.getD k none = none := by rw [List.getD_eq_getElem?_getD, List.getElem?_eq_none (by omega)]; rfl
      rw [lnAt_none hm, List.take_of_length_le (by omega), List.take_of_length_le (by omega)]; rfl
theorem rowsTo_rank {M : Mx} {n : Nat} (h : M.length = n) : (rowsTo M n).length = rankM M := by rw [rowsTo_length, List.take_of_length_le (by omega)]
theorem rowsTo_le (M : Mx) : ∀ k, (rowsTo M k).length ≤ k
  | 0 => Nat.le_refl _
  | k + 1 => by
    have h := rowsTo_le M k
    show (rowsTo M k ++ lnAt M k).length ≤ k + 1
    rw [List.length_append]
    cases hm : M.getD k none with
    | none => rw [lnAt_none hm]; exact Nat.le_succ_of_le h
    | some r => rw [lnAt_some hm]; exact Nat.succ_le_succ h
theorem rowsTo_mem {M : Mx} {r : Ln} : ∀ {k}, r ∈ rowsTo M k → r.1 < k ∧ M[r.1]? = some (some r.2)
  | 0, h => by cases h
  | k + 1, h => by
    rcases List.mem_append.1 h with h | h
    · obtain ⟨a, b⟩ := rowsTo_mem h
      exact ⟨by omega, b⟩
    · cases hm : M.getD k none with
      | none => rw [lnAt_none hm] at h; cases h
      | some q =>
        rw [lnAt_some hm] at h
        obtain rfl := List.mem_singleton.1 h
        exact ⟨Nat.lt_succ_self _, getD_getM hm⟩
theorem rowsTo_start (n : Nat) : ∀ k, rowsTo (List.replicate n none) k = []
  | 0 => rfl
  | k + 1 => by
    have hm : (List.replicate n (none : Option (Nat × List UInt8))).getD k none = none := by
      rw [List.getD_eq_getElem?_getD, List.getElem?_replicate]
      split <;> rfl
    show rowsTo _ k ++ lnAt _ k = []
    rw [rowsTo_start n k, lnAt_none hm]; rfl
end Go.Proofs.YtidcnoejihjgjaaGreatDoor.El
namespace Go.Proofs.YtidcnoejihjgjaaGreatDoor.El
open Go.RowKit
open VecM Vc
theorem app_run2 {P : Program} (w : World) (base : Nat) (t ty e : TypeId) (i : TypeInfo) (z : Value) (bytes : Nat) (ht : P.underlying t = some (.slice e)) (hi : P.info? e = some i) (hz : i.zero = some z)
    (hsize : i.size = 2) (hby : i.bytes = bytes) (hzs : z.cells.size = 2)
    (v : Value) (n : Nat) (xs : List Value) (hown : w.ownsRow base e 2 v n xs)
    (g c : Nat) (x y : Value) (e' : TypeId) (hg : w.heap[g]? = some (.cells #[x, y] e' (0, 0))) (hx1 : x.oneCell' = true) (hy1 : y.oneCell' = true)
    (h63 : n + 1 ≤ maxLen) (hbytes : (n + 1) * bytes ≤ 140737488355328) (hbase : base ≤ w.heap.size) :
    ∃ v' w', (Builtin.append_ #[t, t] ty #[v, .slice (some ⟨g, 0, none⟩) 1 c]).run P w = .ok v' w' ∧ w'.ownsRow base e 2 v' (n + 1) (xs ++ [x, y]) ∧ w.grownBy w' v.ownBlock ∧
      (v'.ownBlock = v.ownBlock ∨ v'.ownBlock = some w.heap.size) := by
  have hc : ∀ j u, [x, y][j]? = some u → w.cell? ((⟨g, 0, none⟩ : Addr).add j) = some u := by
    intro j u hu
    rw [plain_add, Nat.zero_add, cell_of_row w g j _ e' (0, 0) hg]
    simpa using hu
  obtain ⟨v', w', hrun, h2, h3, _, h5⟩ := run_append_own_at (P := P) w base t ty e i z 2 bytes ht hi hz hsize hby hzs (by omega) v n xs hown ⟨g, 0, none⟩ 1 c [x, y] rfl hc (by intro u hu; simp at hu; rcases hu with rfl | rfl <;> assumption) h63 hbytes hbase
  exact ⟨v', w', hrun, h2, h3, h5⟩
theorem wp_app2 {P : Program} {w : World} {o : Oper} {a : Act} {K : Act → World → Prop} {Q : Exit → Act → World → Prop} (s q : Operand) (t : TypeId)
    (ho : o.op = .call { callee := .builtin .append, args := #[s, q], argTypes := #[t, t] })
    (base : Nat) (e : TypeId) (i : TypeInfo) (z : Value) (bytes : Nat) (ht : P.underlying t = some (.slice e)) (hi : P.info? e = some i) (hz : i.zero = some z)
    (hsize : i.size = 2) (hby : i.bytes = bytes) (hzs : z.cells.size = 2)
    (v : Value) (n : Nat) (xs : List Value) (hs : a.eval s = v) (hown : w.ownsRow base e 2 v n xs)
    (g c : Nat) (x y : Value) (e' : TypeId) (hx : a.eval q = .slice (some ⟨g, 0, none⟩) 1 c) (hg : w.heap[g]? = some (.cells #[x, y] e' (0, 0))) (hx1 : x.oneCell' = true) (hy1 : y.oneCell' = true)
    (h63 : n + 1 ≤ maxLen) (hbytes : (n + 1) * bytes ≤ 140737488355328) (hbase : base ≤ w.heap.size)
    (h : ∀ v' w', w'.ownsRow base e 2 v' (n + 1) (xs ++ [x, y]) → w.grownBy w' v.ownBlock → (v'.ownBlock = v.ownBlock ∨ v'.ownBlock = some w.heap.size) → K (a.put o.dst v') w') : o.wp P a w K Q := by
  obtain ⟨v', w', hrun, h2, h3, h4⟩ := app_run2 (P := P) w base t o.type e i z bytes ht hi hz hsize hby hzs v n xs hown g c x y e' hg hx1 hy1 h63 hbytes hbase
  unfold Oper.wp execOp
  simp only [ho, resolve, invoke, builtin, Sem.run_bind, Sem.run_pure, Result.andThen_ok, List.map_toArray, List.map_cons, List.map_nil, hs, hx, hrun]
  exact h v' w' h2 h3 h4
theorem wpList_app2 {P : Program} {w : World} {ops : Array Oper} {rest : List Oper} {o : Oper} {a : Act} {Q : Exit → Act → World → Prop} (hgd : o.guard = none) (s q : Operand) (t : TypeId)
    (ho : o.op = .call { callee := .builtin .append, args := #[s, q], argTypes := #[t, t] })
    (base : Nat) (e : TypeId) (i : TypeInfo) (z : Value) (bytes : Nat) (ht : P.underlying t = some (.slice e)) (hi : P.info? e = some i) (hz : i.zero = some z)
    (hsize : i.size = 2) (hby : i.bytes = bytes) (hzs : z.cells.size = 2)
    (v : Value) (n : Nat) (xs : List Value) (hs : a.eval s = v) (hown : w.ownsRow base e 2 v n xs)
    (g c : Nat) (x y : Value) (e' : TypeId) (hx : a.eval q = .slice (some ⟨g, 0, none⟩) 1 c) (hg : w.heap[g]? = some (.cells #[x, y] e' (0, 0))) (hx1 : x.oneCell' = true) (hy1 : y.oneCell' = true)
    (h63 : n + 1 ≤ maxLen) (hbytes : (n + 1) * bytes ≤ 140737488355328) (hbase : base ≤ w.heap.size)
    (h : ∀ v' w', w'.ownsRow base e 2 v' (n + 1) (xs ++ [x, y]) → w.grownBy w' v.ownBlock → (v'.ownBlock = v.ownBlock ∨ v'.ownBlock = some w.heap.size) → wpList P ops Q rest (a.put o.dst v') w') : wpList P ops Q (o :: rest) a w :=
  wpList_plain hgd fun _ hK => wp_app2 s q t ho base e i z bytes ht hi hz hsize hby hzs v n xs hs hown g c x y e' hx hg hx1 hy1 h63 hbytes hbase fun v' w' h2 h3 h4 => hK _ _ (h v' w' h2 h3 h4)
theorem own2_keep {w w' : World} {base : Nat} {e : TypeId} {v : Value} {n k : Nat} {xs : List Value} (h : w.ownsRow base e k v n xs) (hk : ∀ g, v.ownBlock = some g → g < w.heap.size → w'.heap[g]? = w.heap[g]?) : w'.ownsRow base e k v n xs := by
  refine ⟨h.1, ?_⟩
  rcases h.2 with h0 | ⟨g, cap, cur, hv, hbg, hg, r⟩
  · exact .inl h0
  · exact .inr ⟨g, cap, cur, hv, hbg, by rw [hk g (by rw [hv]; rfl) (Array.getElem?_eq_some_iff.1 hg).1]; exact hg, r⟩
theorem row_same1 {w W : World} {g o n : Nat} {xs : List Value} (hr : Row w w.heap.size (some ⟨g, o, none⟩) n xs) (hb : W.heap[g]? = w.heap[g]?) (hs : w.heap.size ≤ W.heap.size) : Row W W.heap.size (some ⟨g, o, none⟩) n xs := by
  refine ⟨hr.1, fun hn => ?_⟩
  obtain ⟨b, o', e, hb', hc⟩ := hr.2 hn
  injection e with e
  injection e with e1 e2
  subst e1 e2
  refine ⟨g, o, rfl, Nat.lt_of_lt_of_le hb' hs, fun j u hu => ?_⟩
  rw [World.cell?_of_block (w := w) (w' := W) (a := ⟨g, o + j, none⟩) hb]
  exact hc j u hu
structure LR where
  f : Nat
  gv : Nat
  cv : Nat
  gd : Nat
  cd : Nat
  X : Nat
  l : List UInt8
def LR.ln (r : LR) : Ln := (r.f, r.X, r.l)
def LR.cells (n z : Nat) (r : LR) : List Value := [.slice (some ⟨r.gv, 0, none⟩) n r.cv, .slice (some ⟨r.gd, 0, none⟩) z r.cd]
def lcells (n z : Nat) (es : List LR) : List Value := es.flatMap (LR.cells n z)
theorem lcells_append (n z : Nat) (es : List LR) (r : LR) : lcells n z (es ++ [r]) = lcells n z es ++ r.cells n z := by simp [lcells]
theorem lcells_get (n z : Nat) : ∀ (es : List LR) (i : Nat) (r : LR), es[i]? = some r → (lcells n z es)[i * 2]? = some (.slice (some ⟨r.gv, 0, none⟩) n r.cv) ∧ (lcells n z es)[i * 2 + 1]? = some (.slice (some ⟨r.gd, 0, none⟩) z r.cd)
  | [], i, r, h => by cases i <;> cases h
  | q :: es, 0, r, h => by
    obtain rfl : q = r := Option.some.inj h
    exact ⟨rfl, rfl⟩
  | q :: es, i + 1, r, h => by
    have h2 := lcells_get n z es i r (by simpa using h)
    rw [show (i + 1) * 2 = i * 2 + 1 + 1 by omega]
    exact h2
structure LrAt (Q : Nat → Prop) (W : World) (v : Value) (n z : Nat) (r : LR) : Prop where
  q : Q r.gv ∧ Q r.gd
  lt : r.gv < W.heap.size ∧ r.gd < W.heap.size
  nv : v.ownBlock ≠ some r.gv ∧ v.ownBlock ≠ some r.gd
  v : Row W W.heap.size (some ⟨r.gv, 0, none⟩) n (vb r.X n)
  d : Row W W.heap.size (some ⟨r.gd, 0, none⟩) z (bv r.l)
  X : r.X < 2 ^ n
  f : r.f < n ∧ r.X.testBit r.f = true ∧ ∀ j, j < r.f → r.X.testBit j = false
structure LsW (Q : Nat → Prop) (W : World) (v : Value) (n z : Nat) (es : List LR) : Prop where
  own : W.ownsRow 0 124 2 v es.length (lcells n z es)
  q : ∀ g, v.ownBlock = some g → Q g
  r : ∀ r ∈ es, LrAt Q W v n z r
section
variable {Q Q' : Nat → Prop} {W W' : World} {v v' : Value} {n z : Nat} {es : List LR}
theorem LrAt.keep {r : LR} (h : LrAt Q W v n z r) (hk : ∀ b, Q b → b < W.heap.size → W'.heap[b]? = W.heap[b]?) (hs : W.heap.size ≤ W'.heap.size) : LrAt Q W' v n z r :=
  ⟨h.q, ⟨Nat.lt_of_lt_of_le h.lt.1 hs, Nat.lt_of_lt_of_le h.lt.2 hs⟩, h.nv, row_same1 h.v (hk _ h.q.1 h.lt.1) hs, row_same1 h.d (hk _ h.q.2 h.lt.2) hs, h.X, h.f⟩
theorem LrAt.more {r : LR} (h : LrAt Q W v n z r) (hq : ∀ b, Q b → Q' b) : LrAt Q' W v n z r := ⟨⟨hq _ h.q.1, hq _ h.q.2⟩, h.lt, h.nv, h.v, h.d, h.X, h.f⟩
theorem LrAt.grow {r : LR} (h : LrAt Q W v n z r) (hg : W.grownBy W' v.ownBlock) (hv : v'.ownBlock = v.ownBlock ∨ v'.ownBlock = some W.heap.size) : LrAt Q W' v' n z r := by
  have hnv : ∀ g, g < W.heap.size → v.ownBlock ≠ some g → v'.ownBlock ≠ some g := by
    intro g hg1 hg2 e
    rcases hv with h | h
    · exact hg2 (h.symm.trans e)
    · rw [h] at e; injection e with e; omega
  exact ⟨h.q, ⟨Nat.lt_of_lt_of_le h.lt.1 hg.size, Nat.lt_of_lt_of_le h.lt.2 hg.size⟩, ⟨hnv _ h.lt.1 h.nv.1, hnv _ h.lt.2 h.nv.2⟩, row_same1 h.v (hg.block _ h.lt.1 (fun e => h.nv.1 e.symm)) hg.size, row_same1 h.d (hg.block _ h.lt.2 (fun e => h.nv.2 e.symm)) hg.size, h.X, h.f⟩
theorem LsW.keep (h : LsW Q W v n z es) (hk : ∀ b, Q b → b < W.heap.size → W'.heap[b]? = W.heap[b]?) (hs : W.heap.size ≤ W'.heap.size) : LsW Q W' v n z es :=
  ⟨own2_keep h.own fun g hg hl => hk g (h.q g hg) hl, h.q, fun r hr => (h.r r hr).keep hk hs⟩
theorem LsW.below (h : LsW Q W v n z es) (hb : Below W.heap.size W W') : LsW Q W' v n z es := h.keep (fun b _ hl => hb.block b hl) hb.size
theorem LsW.more (h : LsW Q W v n z es) (hq : ∀ b, Q b → Q' b) : LsW Q' W v n z es := ⟨h.own, fun g hg => hq g (h.q g hg), fun r hr => (h.r r hr).more hq⟩
theorem LsW.nil (Q : Nat → Prop) (W : World) (n z : Nat) : LsW Q W (.slice none 0 0) n z [] := ⟨World.ownsRow_nil _ _ _ _, (fun g h => by cases h), fun r hr => by cases hr⟩
theorem LsW.next {r : LR} (h : LsW Q W v n z es) (hr : LrAt Q W v n z r) (hown : W'.ownsRow 0 124 2 v' (es.length + 1) (lcells n z es ++ r.cells n z)) (hg : W.grownBy W' v.ownBlock) (hv : v'.ownBlock = v.ownBlock ∨ v'.ownBlock = some W.heap.size) (hn : v'.ownBlock = some W.heap.size → Q W.heap.size) : LsW Q W' v' n z (es ++ [r]) := by
  refine ⟨by rw [lcells_append, List.length_append]; exact hown, fun g hgv => ?_, fun q hq2 => ?_⟩
  · rcases hv with e | e
    · exact h.q g (e.symm.trans hgv)
    · have hn := hn e
      rw [e] at hgv; injection hgv with hgv; rw [← hgv]; exact hn
  · rcases List.mem_append.1 hq2 with hm | hm
    · exact (h.r q hm).grow hg hv
    · obtain rfl := List.mem_singleton.1 hm
      exact hr.grow hg hv
theorem LsW.slice (h : LsW Q W v n z es) : ∃ A c, v = .slice A es.length c ∧ es.length ≤ c := by
  rcases h.own.2 with ⟨hv, h0⟩ | ⟨g, cap, cur, hv, _, _, hc, _⟩
  · exact ⟨none, 0, by rw [h0]; exact hv, by omega⟩
  · exact ⟨_, cap, hv, hc⟩
theorem LsW.at_ {A : Option Addr} {m c : Nat} (h : LsW Q W (.slice A m c) n z es) {i : Nat} {r : LR} (hi : es[i]? = some r) : ∃ g, A = some ⟨g, 0, none⟩ ∧ g < W.heap.size ∧ W.cell? ⟨g, i * 2, none⟩ = some (.slice (some ⟨r.gv, 0, none⟩) n r.cv) ∧ W.cell? ⟨g, i * 2 + 1, none⟩ = some (.slice (some ⟨r.gd, 0, none⟩) z r.cd) ∧ LrAt Q W (.slice A m c) n z r := by
  have hl : i < es.length := (List.getElem?_eq_some_iff.1 hi).1
  have h0 := h.own
  obtain ⟨c1, c2⟩ := lcells_get n z es i r hi
  rcases h0.2 with ⟨_, h0⟩ | ⟨g, cap, cur, hv, _⟩
  · omega
  · injection hv with e1 e2 e3
    subst e1 e2 e3
    exact ⟨g, rfl, (h0.lt g rfl).2, (h0.cellAt (i * 2) (by omega)).trans c1, (h0.cellAt (i * 2 + 1) (by omega)).trans c2, h.r r (List.mem_of_getElem? hi)⟩
end
structure RMat (W : World) (P : Nat → Prop) (gm n z : Nat) (ls : List Ln) : Prop where
  n1 : 1 ≤ n ∧ n ≤ 256
  z1 : 1 ≤ z ∧ z ≤ 16
  p : P gm
  ln : ls.length ≤ n
  at_ : ∃ A c es, W.heap[gm]? = some (.cells #[.int .i64 (n : Int), .int .i64 (z : Int), .slice A es.length c] 94 (0, 0)) ∧ LsW (fun b => P b ∧ b ≠ gm) W (.slice A es.length c) n z es ∧ es.map LR.ln = ls
section
variable {P P' : Nat → Prop} {gm n z : Nat} {ls : List Ln} {W W' : World}
theorem RMat.lt (a : RMat W P gm n z ls) : gm < W.heap.size := by
  obtain ⟨A, c, es, hg, _⟩ := a.at_
  exact (Array.getElem?_eq_some_iff.1 hg).1
theorem RMat.keep (a : RMat W P gm n z ls) (hk : ∀ b, P b → b < W.heap.size → W'.heap[b]? = W.heap[b]?) (hs : W.heap.size ≤ W'.heap.size) : RMat W' P gm n z ls := by
  have hl := a.lt
  obtain ⟨A, c, es, hg, h1, h2⟩ := a.at_
  exact ⟨a.n1, a.z1, a.p, a.ln, A, c, es, (hk gm a.p hl).trans hg, h1.keep (fun b hb => hk b hb.1) hs, h2⟩
theorem RMat.below (a : RMat W P gm n z ls) (hb : Below W.heap.size W W') : RMat W' P gm n z ls := a.keep (fun b _ hl => hb.block b hl) hb.size
theorem RMat.more (a : RMat W P gm n z ls) (hp : ∀ b, P b → P' b) : RMat W P' gm n z ls := by
  obtain ⟨A, c, es, hg, h1, h2⟩ := a.at_
  exact ⟨a.n1, a.z1, hp gm a.p, a.ln, A, c, es, hg, h1.more (fun b hb => ⟨hp b hb.1, hb.2⟩), h2⟩
theorem RMat.cells (a : RMat W P gm n z ls) : W.cell? ⟨gm, 0, none⟩ = some (.int .i64 (n : Int)) ∧ W.cell? ⟨gm, 1, none⟩ = some (.int .i64 (z : Int)) := by
  obtain ⟨A, c, es, hg, _⟩ := a.at_
  constructor <;> (rw [cell_of_row W gm _ _ _ (0, 0) hg]; rfl)
end
end Go.Proofs.YtidcnoejihjgjaaGreatDoor.El
namespace Go.Proofs.YtidcnoejihjgjaaGreatDoor.El
open Go.RowKit
open VecM Vc
def RNewOk (n z : Nat) (w : World) (e : Ending) (w' : World) : Prop :=
  ∃ gm, e = .returned (.pointer (some ⟨gm, 0, none⟩)) ∧ Hid (RMat w' (fun b => w.heap.size ≤ b ∧ b < w'.heap.size) gm n z []) ∧ Hid (Below w.heap.size w w')
theorem rnewM (n z : Nat) (w : World) (hn : 1 ≤ n ∧ n ≤ 256) (hz : 1 ≤ z ∧ z ≤ 16) : Calls Tryz.prog 43 #[.int .i64 (n : Int), .int .i64 (z : Int)] w (RNewOk n z w) := by
  have HN := Lib.hid hn
  have HZ := Lib.hid hz
  have h1 : (1 : Int) ≤ (n : Int) := by omega
  have h2 : (n : Int) ≤ 256 := by omega
  have h3 : (1 : Int) ≤ (z : Int) := by omega
  have h4 : (z : Int) ≤ 16 := by omega
  clear hn hz
  go_enter Tryz.func43, Tryz.ntmps43
  go_wp2_with fail
  go_ret
  exact ⟨w.heap.size, rfl, Lib.hid ⟨HN.out, HZ.out, ⟨Nat.le_refl _, by simp⟩, Nat.zero_le _, none, 0, [], heap_alloc_new w _, LsW.nil _ _ _ _, rfl⟩, Lib.hid ((Below.refl _ _).alloc (Nat.le_refl _) _)⟩
def RowU (A : Option Addr) (n : Nat) (xs : List Value) (w : World) : Prop := Row w w.heap.size A n xs
theorem RowU.below {A : Option Addr} {n : Nat} {xs : List Value} {w w' : World} (h : RowU A n xs w) (hb : Below w.heap.size w w') : RowU A n xs w' := (Row.below h hb).more hb.size
def RRedOk (n z : Nat) (R : Nat × List UInt8) (w : World) (e : Ending) (w' : World) : Prop :=
  ∃ A c A' c', e = .returned (.tuple #[.slice A n c, .slice A' z c']) ∧ Hid (RowU A n (vb R.1 n) w') ∧ Hid (RowU A' z (bv R.2) w') ∧ Hid (R.1 < 2 ^ n) ∧ Hid (Below w.heap.size w w')
theorem take_snoc {α : Type} {l : List α} {i : Nat} {r : α} (h : l[i]? = some r) : l.take (i + 1) = l.take i ++ [r] := by
  have hl := (List.getElem?_eq_some_iff.1 h).1
  rw [List.take_succ_eq_append_getElem hl]
  rw [List.getElem?_eq_getElem hl] at h
  injection h with h
  rw [h]
set_option maxRecDepth 100000 in
set_option maxHeartbeats 3200000 in
theorem rreduce_any (P : Nat → Prop) (gm n z : Nat) (ls : List Ln) (X cv cd : Nat) (AV AD : Option Addr) (l : List UInt8) (w : World) (hm : RMat w P gm n z ls) (hv : Row w w.heap.size AV n (vb X n)) (hd : Row w w.heap.size AD z (bv l)) (hX : X < 2 ^ n) :
    Calls Tryz.prog 68 #[.pointer (some ⟨gm, 0, none⟩), .slice AV n cv, .slice AD z cd] w (RRedOk n z (ls.foldl redStep (X, l)) w) := by
  obtain ⟨hn, hz, _, hln, A, c, es, hh, hls, hes⟩ := hm
  have hel : es.length ≤ 256 := by
    have h := congrArg List.length hes
    rw [List.length_map] at h
    omega
  have heli : (es.length : Int) ≤ 256 := by omega
  have hc2 : w.cell? ⟨gm, 2, none⟩ = some (.slice A es.length c) := by rw [cell_of_row w gm 2 _ _ (0, 0) hh]; rfl
  have HLS := Lib.hid hls
  have HES := Lib.hid hes
  have HV := Lib.hid (show RowU AV n (vb X n) w from hv)
  have HD := Lib.hid (show RowU AD z (bv l) w from hd)
  have HX := Lib.hid hX
  have hni : (n : Int) ≤ 256 := by omega
  have HN := Lib.hid hn
  have HZ : Hid (z ≤ 1000000000) := Lib.hid (by omega)
  obtain ⟨RES, hRES⟩ : ∃ R, ls.foldl redStep (X, l) = R := ⟨_, rfl⟩
  rw [hRES]
  have HRES := Lib.hid hRES
  have HST : Hid ((ls.take 0).foldl redStep (X, l) = (X, l)) := Lib.hid rfl
  clear hh hls hes hv hd hX hn hz hRES
  go_enter Tryz.func68, Tryz.ntmps68
  go_wp2_with fail
  clear hc2
  go_loopw [1, 2, 15] (fun v d t wr => ∃ (i : Nat) (Av : Option Addr) (cv' : Nat) (Ad : Option Addr) (cd' Xi : Nat) (li : List UInt8), i ≤ es.length ∧ v = .slice Av n cv' ∧ d = .slice Ad z cd' ∧ t = .int .i64 i ∧ Hid ((ls.take i).foldl redStep (X, l) = (Xi, li)) ∧ Hid (RowU Av n (vb Xi n) wr) ∧ Hid (RowU Ad z (bv li) wr) ∧ Hid (Xi < 2 ^ n) ∧ Hid (Below w.heap.size w wr)) (fun _ _ t _ => es.length - (intOf t).toNat)
  case atStart => exact ⟨0, AV, cv, AD, cd, X, l, by omega, rfl, rfl, rfl, HST, HV, HD, HX, Lib.hid (Below.refl _ _)⟩
  case round =>
    obtain ⟨i, Av, cv', Ad, cd', Xi, li, hi, rfl, rfl, rfl, HF, HRV, HRD, HXL, HBK⟩ := hrel
    clear HV HD HX HST
    by_cases hlt : i < es.length
    · have hii : (i : Int) < (es.length : Int) := by omega
      obtain ⟨r, hr⟩ : ∃ r, es[i]? = some r := ⟨_, List.getElem?_eq_getElem hlt⟩
      obtain ⟨g, rfl, hgl, c1, c2, hat⟩ := (HLS.out.below HBK.out).at_ hr
      have hlr : ls[i]? = some r.ln := by rw [← HES.out, List.getElem?_map, hr]; rfl
      have hstep : (ls.take (i + 1)).foldl redStep (X, l) = redStep (Xi, li) r.ln := by
        rw [take_snoc hlr, List.foldl_append, HF.out]; rfl
      have hfi : firstI (L r.X n) = (r.f : Int) := firstI_low hat.f.1 hat.f.2.1 hat.f.2.2
      have HFC := Lib.hid (fun W (hW : Below wr.heap.size wr W) => r1first_any wr.heap.size n r.cv r.X (some ⟨r.gv, 0, none⟩) W (hat.v.below hW) (by have := HN.out; omega))
      rw [hfi] at HFC
      obtain ⟨bx, ox, rfl, _, hcx⟩ := HRV.out.cellAt (k := r.f) hat.f.1 (vb_get Xi n r.f hat.f.1)
      have hfn : (r.f : Int) < (n : Int) := by have := hat.f.1; omega
      obtain ⟨T, hT⟩ : ∃ T, Xi.testBit r.f = T := ⟨_, rfl⟩
      have HAT := Lib.hid hat
      have HSTP := Lib.hid hstep
      have HTT := Lib.hid hT
      rw [hT] at hcx
      have hal : Below wr.heap.size wr (wr.alloc (.cells #[.slice (some ⟨r.gv, 0, none⟩) n r.cv, .slice (some ⟨r.gd, 0, none⟩) z r.cd] 124)) := (Below.refl _ _).alloc (Nat.le_refl _) _
      have HAL := Lib.hid hal
      have HBX := Lib.hid (heap_alloc_new wr (.cells #[.slice (some ⟨r.gv, 0, none⟩) n r.cv, .slice (some ⟨r.gd, 0, none⟩) z r.cd] 124))
      clear hat hlr hstep hfi hT hal hr
      go_upto_region 4 with fail
      clear c1 c2
      generalize wr.alloc (.cells #[.slice (some ⟨r.gv, 0, none⟩) n r.cv, .slice (some ⟨r.gd, 0, none⟩) z r.cd] 124) = wa at *
      have b0 : wa.cell? ⟨wr.heap.size, 0, none⟩ = some (.slice (some ⟨r.gv, 0, none⟩) n r.cv) := by rw [cell_of_row wa _ 0 _ _ (0, 0) HBX.out]; rfl
      have hcx2 := (HAL.out.cell (p := ⟨bx, ox + r.f, none⟩) (block_lt_of_cell hcx)).trans hcx
      clear hcx
      go_wp2_with fail
      refine (HFC.out wa HAL.out).mono ?_
      rintro e w5 ⟨rfl, rfl⟩
      cases T with
      | false =>
        have HNX : Hid ((ls.take (i + 1)).foldl redStep (X, l) = (Xi, li)) := Lib.hid (by
          rw [HSTP.out]
          show (if Xi.testBit r.f = true then (Xi ^^^ r.X, xorL li r.l) else (Xi, li)) = _
          rw [HTT.out]; rfl)
        have HRV2 := Lib.hid (HRV.out.below HAL.out)
        have HRD2 := Lib.hid (HRD.out.below HAL.out)
        have HBN := Lib.hid (HBK.out.trans (HAL.out.mono HBK.out.size))
        go_wp2_with fail
        go_roundw
        case rel => exact ⟨i + 1, _, _, _, _, Xi, li, by omega, rfl, rfl, by go_num, HNX, HRV2, HRD2, HXL, HBN⟩
        case measure => simp [intOf]; omega
      | true =>
        have HNX : Hid ((ls.take (i + 1)).foldl redStep (X, l) = (Xi ^^^ r.X, xorL li r.l)) := Lib.hid (by
          rw [HSTP.out]
          show (if Xi.testBit r.f = true then (Xi ^^^ r.X, xorL li r.l) else (Xi, li)) = _
          rw [HTT.out]; rfl)
        have HCL : Hid (∀ W, Below wa.heap.size wa W → W.cell? ⟨wr.heap.size, 0, none⟩ = some (.slice (some ⟨r.gv, 0, none⟩) n r.cv) ∧ W.cell? ⟨wr.heap.size, 1, none⟩ = some (.slice (some ⟨r.gd, 0, none⟩) z r.cd)) := Lib.hid fun W hW => by
          have h := (hW.block _ (Array.getElem?_eq_some_iff.1 HBX.out).1).trans HBX.out
          constructor <;> (rw [cell_of_row W _ _ _ _ (0, 0) h]; rfl)
        have HXO := Lib.hid (fun W (hW : Below wa.heap.size wa W) => r1xor_any wr.heap.size n cv' r.cv Xi r.X (some ⟨bx, ox, none⟩) (some ⟨r.gv, 0, none⟩) W (Row.below HRV.out (HAL.out.trans (hW.mono HAL.out.size))) (HAT.out.v.below (HAL.out.trans (hW.mono HAL.out.size))) HXL.out HAT.out.X (by have := HN.out; omega) (Nat.le_trans HAL.out.size hW.size))
        have HXB := Lib.hid (fun W (hW : Below wa.heap.size wa W) => xorBytes_any wr.heap.size z cd' r.cd Ad (some ⟨r.gd, 0, none⟩) li r.l W (Row.below HRD.out (HAL.out.trans (hW.mono HAL.out.size))) (HAT.out.d.below (HAL.out.trans (hW.mono HAL.out.size))) HZ.out (Nat.le_trans HAL.out.size hW.size))
        have HLL : Hid (li.length = z) := Lib.hid (Row.blen HRD.out)
        have HXL2 : Hid (Xi ^^^ r.X < 2 ^ n) := Lib.hid (Nat.xor_lt_two_pow HXL.out HAT.out.X)
        have HBA := Lib.hid (HBK.out.trans (HAL.out.mono HBK.out.size))
        go_upto_region 5 with fail
        clear b0 hcx2 HXL
        have HXL := HXL2
        clear HXL2 HFC HRV HRD HAL HBX HAT
        refine wp_region_noPanic ?_
        refine wp_region_held_drew (S := (fun W => Below (wa.heap.size) wa W)) (by kernel_rfl) (Below.refl _ _).drew (fun hH0 => ?_)
        have hH0 : Below (wa.heap.size) wa wa.drew := hH0
        generalize wa.drew = wd5000 at *
        refine wpAnyH_take (i := 0) (oi := _) (v := ?tkv5001) rfl (by kernel_rfl) (by kernel_rfl) (by kernel_rfl) (fun _ _ _ h => h) (Or.inl ⟨by rfl, ?tky5001⟩) hH0 ?tkr5001
        case tky5001 => (intro w' hSw; clear hSw; go_simp; try with_reducible rfl)
        try simp only [Act.put, List.setIfInBounds_toArray, List.set_cons_zero, List.set_cons_succ]
        refine wpAnyH_take (i := 1) (oi := _) (v := ?tkv5002) rfl (by kernel_rfl) (by kernel_rfl) (by kernel_rfl) (fun _ _ _ h => h) (Or.inl ⟨by rfl, ?tky5002⟩) hH0 ?tkr5002
        case tky5002 => (intro w' hSw; clear hSw; go_simp; try with_reducible rfl)
        try simp only [Act.put, List.setIfInBounds_toArray, List.set_cons_zero, List.set_cons_succ]
        refine wpAnyH_take (i := 2) (oi := _) (v := ?tkv5003) rfl (by kernel_rfl) (by kernel_rfl) (by kernel_rfl) (fun _ _ _ h => h) (Or.inl ⟨by rfl, ?tky5003⟩) hH0 ?tkr5003
        case tky5003 => (intro w' hSw; have z0 := HCL.out _ hSw; clear hSw; go_simp; try with_reducible rfl)
        try simp only [Act.put, List.setIfInBounds_toArray, List.set_cons_zero, List.set_cons_succ]
        refine wpAnyH_take (i := 4) (oi := _) (v := ?tkv5004) rfl (by kernel_rfl) (by kernel_rfl) (by kernel_rfl) (fun _ _ _ h => h) (Or.inl ⟨by rfl, ?tky5004⟩) hH0 ?tkr5004
        case tky5004 => (intro w' hSw; clear hSw; go_simp; try with_reducible rfl)
        try simp only [Act.put, List.setIfInBounds_toArray, List.set_cons_zero, List.set_cons_succ]
        refine wpAnyH_take (i := 5) (oi := _) (v := ?tkv5005) rfl (by kernel_rfl) (by kernel_rfl) (by kernel_rfl) (fun _ _ _ h => h) (Or.inl ⟨by rfl, ?tky5005⟩) hH0 ?tkr5005
        case tky5005 => (intro w' hSw; clear hSw; go_simp; try with_reducible rfl)
        try simp only [Act.put, List.setIfInBounds_toArray, List.set_cons_zero, List.set_cons_succ]
        refine wpAnyH_take (i := 6) (oi := _) (v := ?tkv5006) rfl (by kernel_rfl) (by kernel_rfl) (by kernel_rfl) (fun _ _ _ h => h) (Or.inl ⟨by rfl, ?tky5006⟩) hH0 ?tkr5006
        case tky5006 => (intro w' hSw; have z0 := HCL.out _ hSw; clear hSw; go_simp; try with_reducible rfl)
        try simp only [Act.put, List.setIfInBounds_toArray, List.set_cons_zero, List.set_cons_succ]
        refine wpAnyH_ready (rs := [3]) (by kernel_rfl) (by simp) ?_
        refine AllReadyH.cons (o := _) rfl (fun K hK => ?_) AllReadyH.nil
        go_simp
        refine (HXO.out wd5000 (hH0)).mono ?_
        rintro e' wn5007 ⟨g5007, rfl, ho5007, hb5007'⟩
        have hb5007 := hb5007'.out
        have RV5007_ : Hid (RowU (some ⟨g5007, 0, none⟩) n (vb (Xi ^^^ r.X) n) wn5007) := Lib.hid (Row.of_own ho5007.out)
        clear hb5007' ho5007
        go_simp
        have hS5007 : Below (wa.heap.size) wa wn5007 := (hH0).trans (hb5007.mono (hH0).size)
        refine hK.out _ _ hS5007 (fun hH5007 => ?_)
        have hH5007 : Below (wa.heap.size) wa wn5007 := hH5007
        clear hK K hS5007
        try simp only [Act.put, List.setIfInBounds_toArray, List.set_cons_zero, List.set_cons_succ]
        refine wpAnyH_ready (rs := [7]) (by kernel_rfl) (by simp) ?_
        refine AllReadyH.cons (o := _) rfl (fun K hK => ?_) AllReadyH.nil
        go_simp
        refine (HXB.out wn5007 (hH5007)).mono ?_
        rintro e' wn5008 ⟨A5008, m5008, c5008, rfl, hm5008, ho5008, hb5008⟩
        have hm5008' : m5008 = z := by rw [hm5008.out, xorL_length]; exact HLL.out
        subst hm5008'
        have RD5008_ : Hid (RowU A5008 m5008 (bv (xorL li r.l)) wn5008) := Lib.hid (Row.of_own ho5008)
        clear ho5008 hm5008
        go_simp
        have RV5007_5008 := Lib.hid (RV5007_.out.below hb5008)
        have hS5008 : Below (wa.heap.size) wa wn5008 := (hH5007).trans (hb5008.mono (hH5007).size)
        refine hK.out _ _ hS5008 (fun hH5008 => ?_)
        have hH5008 : Below (wa.heap.size) wa wn5008 := hH5008
        clear hK K hS5008
        try simp only [Act.put, List.setIfInBounds_toArray, List.set_cons_zero, List.set_cons_succ]
        refine wpAnyH_take (i := 8) (oi := _) (v := ?tkv5009) rfl (by kernel_rfl) (by kernel_rfl) (by kernel_rfl) (fun _ _ _ h => h) (Or.inl ⟨by rfl, ?tky5009⟩) hH5008 ?tkr5009
        case tky5009 => (intro w' hSw; clear hSw; go_simp; try with_reducible rfl)
        try simp only [Act.put, List.setIfInBounds_toArray, List.set_cons_zero, List.set_cons_succ]
        refine wpAnyH_take (i := 9) (oi := _) (v := ?tkv5010) rfl (by kernel_rfl) (by kernel_rfl) (by kernel_rfl) (fun _ _ _ h => h) (Or.inl ⟨by rfl, ?tky5010⟩) hH5008 ?tkr5010
        case tky5010 => (intro w' hSw; clear hSw; go_simp; try with_reducible rfl)
        try simp only [Act.put, List.setIfInBounds_toArray, List.set_cons_zero, List.set_cons_succ]
        refine wpAnyH_done (by kernel_rfl) ?_ _
        refine NoPanic.normal ?_
        have HBN := Lib.hid (HBA.out.trans ((hH5008).mono HBA.out.size))
        have HRV := Lib.hid RV5007_5008.out
        have HRD := Lib.hid RD5008_.out
        go_wp2_with fail
        go_roundw
        case rel => exact ⟨i + 1, _, _, _, _, Xi ^^^ r.X, xorL li r.l, by omega, rfl, rfl, by go_num, HNX, HRV, HRD, HXL, HBN⟩
        case measure => simp [intOf]; omega
    · obtain rfl : es.length = i := by omega
      have hlen : ls.length = es.length := by rw [← HES.out, List.length_map]
      have hF := HF.out
      rw [← hlen, List.take_length, HRES.out] at hF
      subst hF
      clear hlt hlen
      go_wp2_with fail
      go_ret2
      exact ⟨_, _, _, _, rfl, HRV, HRD, HXL, HBK⟩
set_option maxRecDepth 100000 in
set_option maxHeartbeats 1600000 in
theorem rsays_any (P : Nat → Prop) (gm n z X c : Nat) (M : Mx) (A : Option Addr) (w : World) (hm : RMat w P gm n z (rowsTo M n)) (hv : Row w w.heap.size A n (vb X n)) (hX : X < 2 ^ n) :
    Calls Tryz.prog 67 #[.pointer (some ⟨gm, 0, none⟩), .slice A n c] w fun e w' => e = .returned (.bool (decide ((redM M X [] n).1 ≠ 0))) ∧ Hid (Below w.heap.size w w') := by
  have hne : ((n : Int) != (n : Int)) = false := by simp
  obtain ⟨c0, c1⟩ := hm.cells
  have hz := hm.z1
  have hn := hm.n1
  have hmk := mk_bytes z (by omega) w
  have hal : Below w.heap.size w (w.alloc (.cells (Array.replicate z (.int .u8 0)) 5)) := (Below.refl _ _).alloc (Nat.le_refl _) _
  have hrd : Row (w.alloc (.cells (Array.replicate z (.int .u8 0)) 5)) (w.alloc (.cells (Array.replicate z (.int .u8 0)) 5)).heap.size (some ⟨w.heap.size, 0, none⟩) z (bv (List.replicate z 0)) := by
    have := own_lit (w := w) (base := w.heap.size) (g := w.heap.size) (n := z) (e := 5) (Array.replicate z (.int .u8 0)) rfl (Nat.le_refl _) (by simp) (by unfold maxLen; omega)
    refine Row.of_own (c := z) (base := w.heap.size) (e := 5) ?_
    simpa [bv] using this
  have HRE := Lib.hid (rreduce_any P gm n z (rowsTo M n) X c z A (some ⟨w.heap.size, 0, none⟩) (List.replicate z 0) _ (hm.below hal) ((hv.below hal).more hal.size) hrd hX)
  rw [redL_rows] at HRE
  obtain ⟨R, hR⟩ : ∃ R, redM M X (List.replicate z 0) n = R := ⟨_, rfl⟩
  have hR1 : (redM M X [] n).1 = R.1 := by rw [← hR]; exact redM_bits M X [] _ n
  rw [hR] at HRE
  rw [hR1]
  have HAL := Lib.hid hal
  have HN := Lib.hid hn
  clear hm hv hX hal hrd hR hR1 hn hz
  go_enter Tryz.func67, Tryz.ntmps67
  go_wp2_with fail
  refine HRE.out.mono ?_
  rintro e w5 ⟨A5, c5, A6, c6, rfl, hv5, _, hx5, hb5⟩
  have HB5 := Lib.hid (HAL.out.trans (hb5.out.mono HAL.out.size))
  have HFI := Lib.hid (r1first_any w5.heap.size n c5 R.1 A5 w5 hv5.out (by have := HN.out; omega))
  clear hmk c0 c1 hb5
  by_cases h0 : R.1 = 0
  · have e1 : firstI (L R.1 n) = -1 := by
      rw [h0, L_empty (fun j _ => Nat.zero_testBit j)]; rfl
    rw [e1] at HFI
    have hdd : decide (R.1 ≠ 0) = false := by simp [h0]
    have HDD := Lib.hid hdd
    clear h0 e1 hdd hx5 hv5
    go_wp2_with fail
    refine HFI.out.mono ?_
    rintro e w6 ⟨rfl, rfl⟩
    go_wp2_with fail
    go_ret
    exact ⟨by rw [HDD.out]; rfl, HB5⟩
  · obtain ⟨f, hf, hfb, hfl⟩ := low_ex hx5.out h0
    rw [firstI_low hf hfb hfl] at HFI
    have hdd : decide (R.1 ≠ 0) = true := by simp [h0]
    have HDD := Lib.hid hdd
    have hfi : (0 : Int) ≤ (f : Int) := by omega
    clear h0 hdd hx5 hv5 hf hfb hfl
    go_wp2_with fail
    refine HFI.out.mono ?_
    rintro e w6 ⟨rfl, rfl⟩
    go_wp2_with fail
    go_ret
    exact ⟨by rw [HDD.out]; rfl, HB5⟩
end Go.Proofs.YtidcnoejihjgjaaGreatDoor.El
namespace Go.Proofs.YtidcnoejihjgjaaGreatDoor.El
open Go.RowKit
open VecM Vc
theorem infoLine : (Tryz.prog.info? 124).map (fun i => (i.zero, i.size, i.bytes)) = some (some (.agg #[.slice none 0 0, .slice none 0 0]), 2, 48) := by kernel_rfl
theorem Row.lt1 {W : World} {B g n : Nat} {xs : List Value} (h : Row W B (some ⟨g, 0, none⟩) n xs) (hn : 0 < n) : g < B := by
  obtain ⟨b, o, e, hb, _⟩ := h.2 hn
  injection e with e
  injection e with e1 _
  rw [e1]; exact hb
structure AI (B1 : Nat) (w1 : World) (Q : Nat → Prop) (n z : Nat) (v : Value) (os : List LR) (W : World) : Prop where
  ls : LsW Q W v n z os
  b : Below B1 w1 W
  own : ∀ g, v.ownBlock = some g → B1 ≤ g
section
variable {B1 : Nat} {w1 : World} {Q Q' : Nat → Prop} {n z : Nat} {v v' : Value} {os : List LR} {W W' w' : World} {r : LR}
theorem AI.size (h : AI B1 w1 Q n z v os W) (hB : B1 ≤ w1.heap.size) : B1 ≤ W.heap.size := Nat.le_trans hB h.b.size
theorem AI.below (h : AI B1 w1 Q n z v os W) (hB : B1 ≤ w1.heap.size) (hb : Below W.heap.size W W') : AI B1 w1 Q n z v os W' := ⟨h.ls.below hb, h.b.trans (hb.mono (h.size hB)), h.own⟩
theorem LsW.tight (h : LsW Q W v n z os) : LsW (fun b => Q b ∧ b < W.heap.size) W v n z os :=
  ⟨h.own, fun g e => ⟨h.q g e, (h.own.lt g e).2⟩, fun r hr => ⟨⟨⟨(h.r r hr).q.1, (h.r r hr).lt.1⟩, ⟨(h.r r hr).q.2, (h.r r hr).lt.2⟩⟩, (h.r r hr).lt, (h.r r hr).nv, (h.r r hr).v, (h.r r hr).d, (h.r r hr).X, (h.r r hr).f⟩⟩
theorem AI.more (h : AI B1 w1 Q n z v os W) (hq : ∀ b, Q b → b < W.heap.size → Q' b) : AI B1 w1 Q' n z v os W := ⟨h.ls.tight.more (fun b hb => hq b hb.1 hb.2), h.b, h.own⟩
theorem AI.fresh {W0 : World} {f gv cv gd cd X : Nat} {l : List UInt8} (h : AI B1 w1 Q n z v os W0) (hq : ∀ b, W0.heap.size ≤ b → Q b) (hs : W0.heap.size ≤ gv ∧ W0.heap.size ≤ gd ∧ gv < W.heap.size ∧ gd < W.heap.size) (hv : RowU (some ⟨gv, 0, none⟩) n (vb X n) W) (hd : RowU (some ⟨gd, 0, none⟩) z (bv l) W) (hX : X < 2 ^ n)
    (hf : f < n ∧ X.testBit f = true ∧ ∀ j, j < f → X.testBit j = false) : LrAt Q W v n z ⟨f, gv, cv, gd, cd, X, l⟩ :=
  ⟨⟨hq _ hs.1, hq _ hs.2.1⟩, ⟨hs.2.2.1, hs.2.2.2⟩, ⟨fun e => by have := (h.ls.own.lt gv e).2; omega, fun e => by have := (h.ls.own.lt gd e).2; omega⟩, hv, hd, hX, hf⟩
theorem AI.old {w : World} {Qo : Nat → Prop} {vo : Value} (h : AI B1 w1 Q n z v os W) (hr : LrAt Qo w vo n z r) (hw : w.heap.size ≤ B1) (hb : Below w.heap.size w W) (hq : ∀ b, Qo b → b < w.heap.size → Q b) : LrAt Q W v n z r :=
  ⟨⟨hq _ hr.q.1 hr.lt.1, hq _ hr.q.2 hr.lt.2⟩, ⟨Nat.lt_of_lt_of_le hr.lt.1 hb.size, Nat.lt_of_lt_of_le hr.lt.2 hb.size⟩, ⟨fun e => by have := h.own _ e; have := hr.lt.1; omega, fun e => by have := h.own _ e; have := hr.lt.2; omega⟩, (Row.below hr.v hb).more hb.size, (Row.below hr.d hb).more hb.size, hr.X, hr.f⟩
theorem AI.app {W0 : World} (h : AI B1 w1 Q n z v os W0) (hb : Below W0.heap.size W0 W) (hr : LrAt Q W v n z r) (hown : w'.ownsRow 0 124 2 v' (os.length + 1) (lcells n z os ++ r.cells n z)) (hg : W.grownBy w' v.ownBlock) (hv : v'.ownBlock = v.ownBlock ∨ v'.ownBlock = some W.heap.size) (hn : Q W.heap.size) (hB : B1 ≤ w1.heap.size) : AI B1 w1 Q n z v' (os ++ [r]) w' := by
  have h1 := h.below hB hb
  refine ⟨h1.ls.next hr hown hg hv (fun _ => hn), h1.b.grown hg (h1.size hB) h1.own, fun g e => ?_⟩
  rcases hv with q | q
  · exact h.own g (q.symm.trans e)
  · rw [q] at e
    injection e with e
    rw [← e]
    exact h1.size hB
theorem store_line {gb gv cv gd cd X f : Nat} {l : List UInt8} {cs : Array Value} (h : AI B1 w1 Q n z v os W) (hb : Below W.heap.size W W') (hB : B1 ≤ w1.heap.size) (hgb : B1 ≤ gb) (hlt : gb < W.heap.size) (hQ : ¬ Q gb) (h1 : W.heap.size ≤ gv) (h2 : W.heap.size ≤ gd) (hv : RowU (some ⟨gv, 0, none⟩) n (vb X n) W') (hd : RowU (some ⟨gd, 0, none⟩) z (bv l) W') (hn : 0 < n) (hz : 0 < z) (hX : X < 2 ^ n)
    (hf : f < n ∧ X.testBit f = true ∧ ∀ j, j < f → X.testBit j = false) (hq : ∀ b, W.heap.size ≤ b → Q b) : AI B1 w1 Q n z v os (W'.setRow gb cs) ∧ LrAt Q (W'.setRow gb cs) v n z ⟨f, gv, cv, gd, cd, X, l⟩ := by
  have a := h.below hB hb
  have hs : W'.heap.size ≤ (W'.setRow gb cs).heap.size := by simp
  refine ⟨⟨a.ls.keep (fun b hb2 _ => setRow_other _ _ _ _ (fun e => hQ (e ▸ hb2))) hs, below_setRowB a.b hgb cs, a.own⟩, ?_⟩
  have l1 := Row.lt1 hv hn
  have l2 := Row.lt1 hd hz
  exact h.fresh hq ⟨h1, h2, by omega, by omega⟩ (row_same1 hv (setRow_other _ _ _ _ (by omega)) hs) (row_same1 hd (setRow_other _ _ _ _ (by omega)) hs) hX hf
end
theorem insTo_len (f X : Nat) (l : List UInt8) (ls : List Ln) : ∀ i, i ≤ ls.length → (insTo f X l (ls.take i)).1.length ≤ i + 1 ∧ ((insTo f X l (ls.take i)).2 = false → (insTo f X l (ls.take i)).1.length ≤ i)
  | 0, _ => ⟨Nat.zero_le _, fun _ => Nat.le_refl _⟩
  | i + 1, hi => by
    obtain ⟨h1, h2⟩ := insTo_len f X l ls i (by omega)
    have hr := List.getElem?_eq_getElem (l := ls) (i := i) (by omega)
    rw [take_snoc hr, insTo_snoc]
    generalize insTo f X l (ls.take i) = s0 at *
    obtain ⟨o, p⟩ := s0
    unfold insStep
    split
    · rename_i h
      refine ⟨?_, fun e => by cases e⟩
      have := h2 h.1
      simp only [List.length_append, List.length_cons, List.length_nil] at this ⊢
      omega
    · refine ⟨?_, fun e => ?_⟩
      · simp only [List.length_append, List.length_cons, List.length_nil] at h1 ⊢
        omega
      · have := h2 e
        simp only [List.length_append, List.length_cons, List.length_nil] at this ⊢
        omega
def insMid (f X : Nat) (l : List UInt8) (s : List Ln × Bool) (r : Ln) : List Ln × Bool := if s.2 = false ∧ f < r.1 then (s.1 ++ [(f, X, l)], true) else s
theorem insStep_mid (f X : Nat) (l : List UInt8) (s : List Ln × Bool) (r : Ln) : insStep f X l s r = ((insMid f X l s r).1 ++ [chgLn f X l r], (insMid f X l s r).2) := by
  unfold insStep insMid
  split <;> rfl
theorem fin_mat {P : Nat → Prop} {gm n z B1 : Nat} {w w1 W : World} {v : Value} {os : List LR} {A : Option Addr} {k c : Nat} {ls : List Ln} {QQ : Nat → Prop} (h : AI B1 w1 QQ n z v os W) (hn : 1 ≤ n ∧ n ≤ 256) (hz : 1 ≤ z ∧ z ≤ 16) (hp : P gm) (hgm : gm < w.heap.size) (hh : W.heap[gm]? = some (.cells #[.int .i64 (n : Int), .int .i64 (z : Int), .slice A k c] 94 (0, 0)))
    (he : os.map LR.ln = ls) (hl : os.length ≤ n) (hw : Below w.heap.size w w1) (hB : w1.heap.size = B1) (hQ : QQ = fun b => (P b ∧ b ≠ gm) ∨ w.heap.size ≤ b) : RMat (W.setCell ⟨gm, 2, none⟩ v) (fun b => P b ∨ (w.heap.size ≤ b ∧ b < (W.setCell ⟨gm, 2, none⟩ v).heap.size)) gm n z ls ∧ Fr w (W.setCell ⟨gm, 2, none⟩ v) P := by
  subst hQ
  have hb : Below w.heap.size w W := hw.trans (h.b.mono (by rw [← hB]; exact hw.size))
  have hsz : (W.setCell ⟨gm, 2, none⟩ v).heap.size = W.heap.size := by simp
  obtain ⟨A', c', rfl, _⟩ := h.ls.slice
  refine ⟨⟨hn, hz, .inl hp, by rw [← he, List.length_map]; exact hl, A', c', os, heap_setCell_same W gm 2 _ _ _ hh, ?_, he⟩, ?_⟩
  · have h1 := h.ls.tight.more (Q' := fun b => (P b ∨ (w.heap.size ≤ b ∧ b < (W.setCell ⟨gm, 2, none⟩ (.slice A' os.length c')).heap.size)) ∧ b ≠ gm) (fun b hb2 => by
      rw [hsz]
      rcases hb2.1 with h | h
      · exact ⟨.inl h.1, h.2⟩
      · exact ⟨.inr ⟨h, hb2.2⟩, by omega⟩)
    exact h1.keep (fun b hb2 _ => heap_setCell_other W ⟨gm, 2, none⟩ b _ (fun e => hb2.2 e)) (by simp)
  · exact ⟨hb.os, hb.tape, hb.output, by rw [hsz]; exact hb.size, fun b hb2 hp2 => (heap_setCell_other W ⟨gm, 2, none⟩ b _ (fun e => hp2 (by rw [show b = gm from e]; exact hp))).trans (hb.block b hb2)⟩
def RAddI (P : Nat → Prop) (gm n z : Nat) (R : Mx × Bool) (w : World) (e : Ending) (w' : World) : Prop :=
  e = .returned (.bool R.2) ∧ Hid (RMat w' (fun b => P b ∨ (w.heap.size ≤ b ∧ b < w'.heap.size)) gm n z (rowsTo R.1 n)) ∧ Hid (Fr w w' P)
set_option maxRecDepth 100000 in
set_option maxHeartbeats 1600000 in
theorem radd_no (P : Nat → Prop) (gm n z X c cd : Nat) (M : Mx) (AV AD : Option Addr) (l : List UInt8) (w : World) (hm : RMat w P gm n z (rowsTo M n)) (hv : Row w w.heap.size AV n (vb X n)) (hX : X < 2 ^ n) (h0 : (redM M X l n).1 = 0) :
    Calls Tryz.prog 45 #[.pointer (some ⟨gm, 0, none⟩), .slice AV n c, .slice AD z cd] w fun e w' => e = .returned (.bool false) ∧ Hid (Below w.heap.size w w') := by
  have hne : ((z : Int) != (z : Int)) = false := by simp
  obtain ⟨c0, c1⟩ := hm.cells
  have HSY := Lib.hid (rsays_any P gm n z X c M AV w hm hv hX)
  have hd : decide ((redM M X [] n).1 ≠ 0) = false := by rw [redM_bits M X [] l n, h0]; rfl
  rw [hd] at HSY
  clear hm hv hX h0 hd
  go_enter Tryz.func45, Tryz.ntmps45
  go_wp2_with fail
  refine HSY.out.mono ?_
  rintro e w1 ⟨rfl, hb⟩
  go_wp2_with fail
  go_ret
  exact ⟨rfl, hb⟩
set_option maxRecDepth 100000 in
set_option maxHeartbeats 12800000 in
theorem radd_yes (P : Nat → Prop) (gm n z X c0 cd0 f Z : Nat) (M : Mx) (AV AD : Option Addr) (l q : List UInt8) (w : World) (hm : RMat w P gm n z (rowsTo M n)) (hv : Row w w.heap.size AV n (vb X n)) (hd : Row w w.heap.size AD z (bv l)) (hX : X < 2 ^ n) (hz : redM M X l n = (Z, q)) (hf : f < n) (hbit : Z.testBit f = true) (hlow : ∀ j, j < f → Z.testBit j = false) (hlen : M.length = n) (hnone : M.getD f none = none) (hred : ∀ r ∈ rowsTo M n, Z.testBit r.1 = false) :
    Calls Tryz.prog 45 #[.pointer (some ⟨gm, 0, none⟩), .slice AV n c0, .slice AD z cd0] w (RAddI P gm n z (addM M Z q f, true) w) := by
  obtain ⟨i0, hi, hz0, hz1, hz2⟩ := info_parts infoLine
  have hne : ((z : Int) != (z : Int)) = false := by simp
  have hzn : Z ≠ 0 := fun e => by rw [e] at hbit; simp at hbit
  obtain ⟨c00, c01⟩ := hm.cells
  have HSY := Lib.hid (rsays_any P gm n z X c0 M AV w hm hv hX)
  have hdd : decide ((redM M X [] n).1 ≠ 0) = true := by rw [redM_bits M X [] l n, hz]; simp [hzn]
  rw [hdd] at HSY
  have HRE := Lib.hid (fun W (hW : Below w.heap.size w W) => rreduce_any P gm n z (rowsTo M n) X c0 cd0 AV AD l W (hm.below hW) ((hv.below hW).more hW.size) ((hd.below hW).more hW.size) hX)
  rw [redL_rows, hz] at HRE
  have HRES := Lib.hid (insL_rows (X := Z) (l := q) hlen hf hnone)
  have HFZ : Hid (f < n ∧ Z.testBit f = true ∧ ∀ j, j < f → Z.testBit j = false) := Lib.hid ⟨hf, hbit, hlow⟩
  have HFI := Lib.hid (firstI_low hf hbit hlow)
  have HRD0 := Lib.hid hred
  have HLE : (rowsTo (addM M Z q f) n).length ≤ n := rowsTo_le _ n
  obtain ⟨hn, hzz, hpg, hln, A, c, es, hh, hls, hes⟩ := hm
  have HLS := Lib.hid hls
  have HES := Lib.hid hes
  have hel : es.length ≤ 256 := by
    have h := congrArg List.length hes
    rw [List.length_map] at h
    omega
  have heli : (es.length : Int) ≤ 256 := by omega
  have HH := Lib.hid hh
  have HN := Lib.hid hn
  have HZ1 := Lib.hid hzz
  have HPG := Lib.hid hpg
  have HNF : Hid (∀ k, M.getD k none = none → k = f → True) := Lib.hid (fun _ _ _ => trivial)
  have HNO := Lib.hid hnone
  have hni : (n : Int) ≤ 256 := by omega
  have hfi : (0 : Int) ≤ (f : Int) := by omega
  have HGML : Hid (gm < w.heap.size) := Lib.hid (Array.getElem?_eq_some_iff.1 hh).1
  clear hv hd hX hz hf hbit hlow hlen hnone hred hzn hdd hn hzz hpg hln hh hls hes HNF
  go_enter Tryz.func45, Tryz.ntmps45
  go_wp2_with fail
  refine HSY.out.mono ?_
  rintro e w2 ⟨rfl, hb2⟩
  have HB2 := Lib.hid hb2.out
  clear hb2 HSY c00 c01
  go_wp2_with fail
  refine (HRE.out w2 HB2.out).mono ?_
  rintro e w1 ⟨A5, c5, A6, c6, rfl, hv1, hd1, hx1, hb1⟩
  have HW1 := Lib.hid (HB2.out.trans (hb1.out.mono HB2.out.size))
  have HZL := Lib.hid hx1.out
  have HQL : Hid (q.length = z) := Lib.hid (Row.blen hd1.out)
  have HFC := Lib.hid (r1first_any w1.heap.size n c5 Z A5 w1 hv1.out (by have := HN.out; omega))
  rw [HFI.out] at HFC
  obtain ⟨B1, hB1⟩ : ∃ B1, w1.heap.size = B1 := ⟨_, rfl⟩
  have HB1 : Hid (w1.heap.size = B1) := Lib.hid hB1
  have HRV : Hid (∀ W, Below B1 w1 W → RowU A5 n (vb Z n) W) := Lib.hid fun W hW => by rw [← hB1] at hW; exact hv1.out.below hW
  have HRD : Hid (∀ W, Below B1 w1 W → RowU A6 z (bv q) W) := Lib.hid fun W hW => by rw [← hB1] at hW; exact hd1.out.below hW
  have HMF : Hid (∀ W, Below B1 w1 W → W.heap[gm]? = some (.cells #[.int .i64 (n : Int), .int .i64 (z : Int), .slice A es.length c] 94 (0, 0))) := Lib.hid fun W hW => by
    rw [← hB1] at hW
    exact (hW.block gm (Nat.lt_of_lt_of_le HGML.out HW1.out.size)).trans ((HW1.out.block gm HGML.out).trans HH.out)
  have HMC : Hid (∀ W, Below B1 w1 W → W.cell? ⟨gm, 0, none⟩ = some (.int .i64 (n : Int))) := Lib.hid fun W hW => by rw [cell_of_row W gm 0 _ _ (0, 0) (HMF.out W hW)]; rfl
  have HBW : Hid (∀ W, Below B1 w1 W → Below w.heap.size w W) := Lib.hid fun W hW => HW1.out.trans (hW.mono (by rw [← hB1]; exact HW1.out.size))
  have HWB : Hid (w.heap.size ≤ B1) := Lib.hid (by rw [← hB1]; exact HW1.out.size)
  obtain ⟨QQ, hQQ⟩ : ∃ QQ : Nat → Prop, QQ = fun b => (P b ∧ b ≠ gm) ∨ w.heap.size ≤ b := ⟨_, rfl⟩
  have HQQ := Lib.hid hQQ
  have HQF : Hid (∀ b, w.heap.size ≤ b → QQ b) := Lib.hid fun b hb => by rw [hQQ]; exact .inr hb
  have HQO : Hid (∀ b, P b ∧ b ≠ gm → QQ b) := Lib.hid fun b hb => by rw [hQQ]; exact .inl hb
  have hcm2 : w1.cell? ⟨gm, 2, none⟩ = some (.slice A es.length c) := by rw [cell_of_row w1 gm 2 _ _ (0, 0) (HMF.out w1 (Below.refl _ _))]; rfl
  have HA0 : Hid (AI B1 w1 QQ n z (.slice none 0 0) [] w1) := Lib.hid ⟨LsW.nil _ _ _ _, Below.refl _ _, fun g e => by cases e⟩
  have HF0 : Hid (insTo f Z q ((rowsTo M n).take 0) = (([] : List LR).map LR.ln, false)) := Lib.hid rfl
  clear hv1 hd1 hx1 hb1 hB1 hQQ HRE HB2 HFI
  go_wp2_with fail
  refine HFC.out.mono ?_
  rintro e w5 ⟨rfl, rfl⟩
  go_wp2_with fail
  clear hcm2 HFC
  go_loopw [8, 9, 39] (fun v pb t wr => ∃ (i : Nat) (p : Bool) (os : List LR) (vv : Value), i ≤ es.length ∧ v = vv ∧ pb = .bool p ∧ t = .int .i64 i ∧ Hid (insTo f Z q ((rowsTo M n).take i) = (os.map LR.ln, p)) ∧ Hid (AI B1 w1 QQ n z vv os wr)) (fun _ _ t _ => es.length - (intOf t).toNat)
  case atStart => exact ⟨0, false, [], _, by omega, rfl, rfl, rfl, HF0, HA0⟩
  case round =>
    obtain ⟨i, p, os, v, hil, hvv, rfl, rfl, HFE, HAR⟩ := hrel
    have hvw := hvv.symm
    clear hvv
    subst hvw
    clear HA0 HF0
    have hlenr : (rowsTo M n).length = es.length := by rw [← HES.out, List.length_map]
    have hol := insTo_len f Z q (rowsTo M n) i (by omega)
    rw [HFE.out, List.length_map] at hol
    have HOLP := Lib.hid hol.2
    have HOL1 := Lib.hid hol.1
    have HLR := Lib.hid hlenr
    clear hol hlenr
    by_cases hlt : i < es.length
    · have hii : (i : Int) < (es.length : Int) := by omega
      obtain ⟨r, hr⟩ : ∃ r, es[i]? = some r := ⟨_, List.getElem?_eq_getElem hlt⟩
      obtain ⟨g, rfl, hgl, c1, c2, hat⟩ := (HLS.out.below (HBW.out wr HAR.out.b)).at_ hr
      have hlr : (rowsTo M n)[i]? = some r.ln := by rw [← HES.out, List.getElem?_map, hr]; rfl
      have HSTP : Hid (insTo f Z q ((rowsTo M n).take (i + 1)) = ((insMid f Z q (os.map LR.ln, p) r.ln).1 ++ [chgLn f Z q r.ln], (insMid f Z q (os.map LR.ln, p) r.ln).2)) := Lib.hid (by
        rw [take_snoc hlr, insTo_snoc, HFE.out, insStep_mid])
      have HATW := Lib.hid (HLS.out.r r (List.mem_of_getElem? hr))
      have HATWL : Hid (w.heap.size ≤ wr.heap.size) := Lib.hid (HBW.out wr HAR.out.b).size
      have hrm : r.ln ∈ rowsTo M n := List.mem_of_getElem? hlr
      have HZR : Hid (Z.testBit r.f = false) := Lib.hid (HRD0.out r.ln hrm)
      have HRNF : Hid (r.f ≠ f) := Lib.hid (fun e => by
        have h := HZR.out
        rw [e, HFZ.out.2.1] at h; cases h)
      have hfr : firstI (L r.X n) = (r.f : Int) := firstI_low hat.f.1 hat.f.2.1 hat.f.2.2
      have HAT := Lib.hid hat
      have hfn : (f : Int) < (n : Int) := by have := HFZ.out.1; omega
      obtain ⟨gb, hgb⟩ : ∃ gb, wr.heap.size = gb := ⟨_, rfl⟩
      have hal : Below wr.heap.size wr (wr.alloc (.cells #[.slice (some ⟨r.gv, 0, none⟩) n r.cv, .slice (some ⟨r.gd, 0, none⟩) z r.cd] 124)) := (Below.refl _ _).alloc (Nat.le_refl _) _
      have HBOX0 := Lib.hid (heap_alloc_new wr (.cells #[.slice (some ⟨r.gv, 0, none⟩) n r.cv, .slice (some ⟨r.gd, 0, none⟩) z r.cd] 124))
      have HGL0 : Hid (wr.heap.size < (wr.alloc (.cells #[.slice (some ⟨r.gv, 0, none⟩) n r.cv, .slice (some ⟨r.gd, 0, none⟩) z r.cd] 124)).heap.size) := Lib.hid (by simp)
      have HSZ0 : Hid ((wr.alloc (.cells #[.slice (some ⟨r.gv, 0, none⟩) n r.cv, .slice (some ⟨r.gd, 0, none⟩) z r.cd] 124)).heap.size = wr.heap.size + 1) := Lib.hid (by simp)
      have HAA := Lib.hid ((HAR.out.more (Q' := fun b => QQ b ∧ b ≠ wr.heap.size) (fun b hb hl => ⟨hb, by omega⟩)).below (Nat.le_of_eq HB1.out.symm) hal)
      rw [hgb] at HBOX0 HGL0 HSZ0 HAA
      have HGBB : Hid (B1 ≤ gb) := Lib.hid (by rw [← hgb, ← HB1.out]; exact HAR.out.b.size)
      clear hat hlr hrm hr hal
      go_upto_region 10 with fail
      clear c1 c2
      try rw [hgb]
      clear hgb
      generalize (wr.alloc (.cells #[.slice (some ⟨r.gv, 0, none⟩) n r.cv, .slice (some ⟨r.gd, 0, none⟩) z r.cd] 124)) = wa at *
      have b0 : wa.cell? ⟨gb, 0, none⟩ = some (.slice (some ⟨r.gv, 0, none⟩) n r.cv) := by rw [cell_of_row wa _ 0 _ _ (0, 0) HBOX0.out]; rfl
      have HFC := Lib.hid (r1first_any w.heap.size n r.cv r.X (some ⟨r.gv, 0, none⟩) wa (Row.below HATW.out.v (HBW.out wa HAA.out.b)) (by have := HN.out; omega))
      rw [hfr] at HFC
      obtain ⟨ins, hins⟩ : ∃ ins : Bool, ins = decide (p = false ∧ f < r.f) := ⟨_, rfl⟩
      have HINS0 := Lib.hid hins
      clear hins
      go_cut [51] (fun b wx => b = .bool ins ∧ wx = wa)
      case first =>
        cases p with
        | true =>
          have hins2 : ins = false := by rw [HINS0.out]; exact decide_eq_false (fun h => by cases h.1)
          subst hins2
          go_wp2_with fail
          go_meet
          exact ⟨rfl, rfl⟩
        | false =>
          by_cases hc : f < r.f
          · have hins2 : ins = true := by rw [HINS0.out]; exact decide_eq_true ⟨rfl, hc⟩
            subst hins2
            have hci : (f : Int) < (r.f : Int) := by omega
            go_wp2_with fail
            refine HFC.out.mono ?_
            rintro e w9 ⟨rfl, rfl⟩
            go_wp2_with fail
            go_meet
            exact ⟨rfl, rfl⟩
          · have hins2 : ins = false := by rw [HINS0.out]; exact decide_eq_false (fun h => hc h.2)
            subst hins2
            have hci : ¬ (f : Int) < (r.f : Int) := by omega
            go_wp2_with fail
            refine HFC.out.mono ?_
            rintro e w9 ⟨rfl, rfl⟩
            go_wp2_with fail
            go_meet
            exact ⟨rfl, rfl⟩
      case rest =>
        obtain ⟨rfl, hwa⟩ := hcut
        obtain ⟨W0, rfl⟩ : ∃ x : World, x = wc := ⟨_, rfl⟩
        subst hwa
        clear b0 HFC
        have HAI := HAA
        have HBOX := HBOX0
        have HQI : Hid (∀ b, W0.heap.size ≤ b → QQ b ∧ b ≠ gb) := Lib.hid fun b hb => ⟨HQF.out b (by have := HWB.out; have := HGBB.out; have := HSZ0.out; omega), by have := HSZ0.out; omega⟩
        have HGLT : Hid (gb < W0.heap.size) := HGL0
        have hok : os.length ≤ 300 := by have := HOL1.out; omega
        go_upto_if 51 with fail
        go_cut [8, 9] (fun v9 p9 wx => ∃ (v2 : Value) (p2 : Bool) (os2 : List LR), v9 = v2 ∧ p9 = .bool p2 ∧ Hid (AI B1 w1 (fun b => QQ b ∧ b ≠ gb) n z v2 os2 wx) ∧ Hid (wx.heap[gb]? = some (.cells #[.slice (some ⟨r.gv, 0, none⟩) n r.cv, .slice (some ⟨r.gd, 0, none⟩) z r.cd] 124 (0, 0))) ∧ Hid (W0.heap.size ≤ wx.heap.size) ∧ Hid ((os2.map LR.ln, p2) = insMid f Z q (os.map LR.ln, p) r.ln) ∧ Hid (os2.length ≤ i + 1))
        case first =>
          cases ins with
          | false =>
            have HMD : Hid ((os.map LR.ln, p) = insMid f Z q (os.map LR.ln, p) r.ln) := Lib.hid (by
              unfold insMid
              rw [if_neg (by
                intro h
                have h2 := HINS0.out
                rw [decide_eq_true (show p = false ∧ f < r.f from h)] at h2
                cases h2)])
            have HSL0 : Hid (W0.heap.size ≤ W0.heap.size) := Lib.hid (Nat.le_refl _)
            go_wp2_with fail
            go_meet
            exact ⟨_, p, os, rfl, rfl, HAI, HBOX, HSL0, HMD, HOL1⟩
          | true =>
            have HINS : Hid (p = false ∧ f < r.f) := Lib.hid (by
              have h2 := HINS0.out
              exact of_decide_eq_true h2.symm)
            have HOL : Hid (os.length ≤ 300) := Lib.hid hok
            have hmkb := madeBool n (by have := HN.out; omega) W0
            have hzo := vb_own W0 n (by have := HN.out; omega)
            have hzb : Below W0.heap.size W0 (W0.alloc (.cells (Array.replicate n (.bool false)) 4)) := (Below.refl _ _).alloc (Nat.le_refl _) _
            have HV0 := Lib.hid (HRV.out W0 HAI.out.b)
            have HD0 := Lib.hid (HRD.out W0 HAI.out.b)
            have HXO := Lib.hid (r1xor_any _ n c5 n Z 0 A5 (some ⟨W0.heap.size, 0, none⟩) _ (HV0.out.below hzb) (Row.of_own hzo) HZL.out (Nat.two_pow_pos n) (by have := HN.out; omega) (Nat.le_refl _))
            rw [Nat.xor_zero] at HXO
            have HZB := Lib.hid hzb
            have ck0 := HMC.out W0 HAI.out.b
            clear hzo hzb
            go_wp2_with fail
            clear ck0
            refine HXO.out.mono ?_
            rintro e wC ⟨gv, rfl, hov, hbv⟩
            have HBC := Lib.hid (HZB.out.trans (hbv.out.mono HZB.out.size))
            have HGV := Lib.hid (hov.out.lt gv rfl)
            have HRVC := Lib.hid (show RowU (some ⟨gv, 0, none⟩) n (vb Z n) wC from Row.of_own hov.out)
            have hal : Below wC.heap.size wC (wC.alloc (.cells #[.slice A6 z c6] 22)) := (Below.refl _ _).alloc (Nat.le_refl _) _
            have hdu := (HD0.out.below HBC.out).below hal
            have hr2 : Rows2 (wC.alloc (.cells #[.slice A6 z c6] 22)) (wC.alloc (.cells #[.slice A6 z c6] 22)).heap.size (some ⟨wC.heap.size, 0, none⟩) 1 [(⟨A6, z, c6, q⟩ : BRow)] := ⟨(row_new wC #[.slice A6 z c6] 22 (0, 0)).more (by simp), fun r hr => by
              obtain rfl := List.mem_singleton.1 hr
              exact hdu⟩
            have HJN := Lib.hid (join_any _ 1 1 (some ⟨wC.heap.size, 0, none⟩) [(⟨A6, z, c6, q⟩ : BRow)] _ hr2 (by omega) (by have h1 := HQL.out; have h2 := HZ1.out; simp [flat]; omega) (Nat.le_refl _))
            have hfl : flat [(⟨A6, z, c6, q⟩ : BRow)] = q := by simp [flat]
            rw [hfl] at HJN
            have HAJ := Lib.hid hal
            clear hov hbv hal hdu hr2 hfl HXO hmkb
            go_wp2_with fail
            refine HJN.out.mono ?_
            rintro e wE ⟨A7, m7, c7, rfl, hm7, ho7, hb7⟩
            have hm7z : m7 = z := hm7.out.trans HQL.out
            obtain ⟨gd, c7', hv7, hg7, _⟩ := ho7.form (by rw [hm7z]; have := HZ1.out; omega)
            injection hv7 with e1 e2 e3
            subst e1 e3
            have HBE := Lib.hid (HAJ.out.trans (hb7.mono HAJ.out.size))
            have HGD := Lib.hid (ho7.lt gd rfl)
            have HRDE : Hid (RowU (some ⟨gd, 0, none⟩) z (bv q) wE) := Lib.hid (by rw [← hm7z]; exact Row.of_own ho7)
            have HRVE := Lib.hid (HRVC.out.below HBE.out)
            rw [hm7z]
            have hbl : Below wE.heap.size wE (wE.alloc (.cells #[.slice (some ⟨gv, 0, none⟩) n n, .slice (some ⟨gd, 0, none⟩) z c7] 124)) := (Below.refl _ _).alloc (Nat.le_refl _) _
            have HBX := Lib.hid (heap_alloc_new wE (.cells #[.slice (some ⟨gv, 0, none⟩) n n, .slice (some ⟨gd, 0, none⟩) z c7] 124))
            have HB0L := Lib.hid (HBC.out.trans ((HBE.out.trans (hbl.mono HBE.out.size)).mono HBC.out.size))
            have HSL : Hid (W0.heap.size ≤ gv ∧ W0.heap.size ≤ gd ∧ gv < (wE.alloc (.cells #[.slice (some ⟨gv, 0, none⟩) n n, .slice (some ⟨gd, 0, none⟩) z c7] 124)).heap.size ∧ gd < (wE.alloc (.cells #[.slice (some ⟨gv, 0, none⟩) n n, .slice (some ⟨gd, 0, none⟩) z c7] 124)).heap.size) := Lib.hid (by
              have a1 := HBC.out.size
              have a2 := HBE.out.size
              have a3 := HGV.out
              have a4 := HGD.out
              have a5 := HZB.out.size
              have a6 := HAJ.out.size
              have a7 := hbl.size
              omega)
            have HNW : Hid (LrAt (fun b => QQ b ∧ b ≠ gb) (wE.alloc (.cells #[.slice (some ⟨gv, 0, none⟩) n n, .slice (some ⟨gd, 0, none⟩) z c7] 124)) v n z ⟨f, gv, n, gd, c7, Z, q⟩) := Lib.hid (HAI.out.fresh HQI.out HSL.out (HRVE.out.below hbl) (HRDE.out.below hbl) HZL.out HFZ.out)
            have hown0 := (HAI.out.ls.below HB0L.out).own
            have hkl := HOL.out
            clear hm7 hm7z ho7 hb7 hg7 HJN HGV HGD hbl HRVC HRVE HRDE HBE HBC HAJ HZB HV0 HD0 HSL
            obtain ⟨kk, hkk⟩ : ∃ k, os.length = k := ⟨_, rfl⟩
            have HKK := Lib.hid hkk
            rw [hkk] at hown0 hkl
            clear hkk
            go_wp2_with (at_builtin; refine wpList_app2 rfl (.tmp 52) (.tmp 64) 92 rfl 0 124 i0 _ 48 Tryz.underlying92 hi hz0 hz1 hz2 rfl v kk _ rfl hown0 wE.heap.size 1 _ _ _ rfl HBX.out rfl rfl (by unfold maxLen; omega) (by omega) (Nat.zero_le _) ?_; intro vI wI howI hgI hatI)
            rw [← HKK.out] at howI
            have HAN := Lib.hid (HAI.out.app HB0L.out HNW.out howI hgI hatI (HQI.out _ HB0L.out.size) (Nat.le_of_eq HB1.out.symm))
            have HUN : Hid (∀ b, b < W0.heap.size → v.ownBlock ≠ some b → wI.heap[b]? = W0.heap[b]?) := Lib.hid (fun b hb hv => (hgI.block b (Nat.lt_of_lt_of_le hb HB0L.out.size) (fun h => hv h.symm)).trans (HB0L.out.block b hb))
            have HSI : Hid (W0.heap.size ≤ wI.heap.size) := Lib.hid (Nat.le_trans HB0L.out.size hgI.size)
            clear howI hgI hatI hown0 HNW HBX HB0L
            have hnb : v.ownBlock ≠ some gb := fun e => by have := (HAI.out.ls.q gb e).2; exact this rfl
            have HBXI : Hid (wI.heap[gb]? = some (.cells #[.slice (some ⟨r.gv, 0, none⟩) n r.cv, .slice (some ⟨r.gd, 0, none⟩) z r.cd] 124 (0, 0))) := Lib.hid ((HUN.out gb HGLT.out hnb).trans HBOX.out)
            have HMD : Hid (((os ++ [(⟨f, gv, n, gd, c7, Z, q⟩ : LR)]).map LR.ln, true) = insMid f Z q (os.map LR.ln, p) r.ln) := Lib.hid (by
              unfold insMid
              rw [if_pos ⟨HINS.out.1, HINS.out.2⟩, List.map_append]; rfl)
            have HOL2 : Hid ((os ++ [(⟨f, gv, n, gd, c7, Z, q⟩ : LR)]).length ≤ i + 1) := Lib.hid (by rw [List.length_append]; have := HOLP.out HINS.out.1; exact Nat.succ_le_succ this)
            clear hnb
            go_wp2_with fail
            go_meet
            exact ⟨_, true, _, rfl, rfl, HAN, HBXI, HSI, HMD, HOL2⟩
        case rest =>
          obtain ⟨v2, p2, os2, hvv, rfl, HA2, HBX2, HSZ2, HMD, HOL2⟩ := hcut
          have hvw := hvv.symm
          clear hvv
          subst hvw
          obtain ⟨W2, rfl⟩ : ∃ x : World, x = wc := ⟨_, rfl⟩
          have b0 : W2.cell? ⟨gb, 0, none⟩ = some (.slice (some ⟨r.gv, 0, none⟩) n r.cv) := by rw [cell_of_row W2 gb 0 _ _ (0, 0) HBX2.out]; rfl
          obtain ⟨T, hT⟩ : ∃ T, r.X.testBit f = T := ⟨_, rfl⟩
          have hcx : W2.cell? ⟨r.gv, f, none⟩ = some (.bool T) := by
            obtain ⟨bx, ox, e, _, hc⟩ := (Row.below HATW.out.v (HBW.out W2 HA2.out.b)).cellAt (k := f) HFZ.out.1 (vb_get r.X n f HFZ.out.1)
            injection e with e
            injection e with e1 e2
            subst e1 e2
            rw [Nat.zero_add, hT] at hc
            exact hc
          have HTT := Lib.hid hT
          clear hT HAI HBOX HQI HAA HBOX0
          go_upto_if 70 with fail
          clear b0 hcx
          go_cut [] (fun wx => ∃ (gv cv gd cd X' : Nat) (l' : List UInt8), Hid (wx.heap[gb]? = some (.cells #[.slice (some ⟨gv, 0, none⟩) n cv, .slice (some ⟨gd, 0, none⟩) z cd] 124 (0, 0))) ∧ Hid (AI B1 w1 (fun b => QQ b ∧ b ≠ gb) n z v2 os2 wx ∧ LrAt (fun b => QQ b ∧ b ≠ gb) wx v2 n z ⟨r.f, gv, cv, gd, cd, X', l'⟩) ∧ Hid ((r.f, X', l') = chgLn f Z q r.ln) ∧ Hid (W0.heap.size ≤ wx.heap.size))
          case first =>
            cases T with
            | false =>
              have HOLD : Hid (LrAt (fun b => QQ b ∧ b ≠ gb) W2 v2 n z ⟨r.f, r.gv, r.cv, r.gd, r.cd, r.X, r.l⟩) := Lib.hid (HA2.out.old HATW.out HWB.out (HBW.out W2 HA2.out.b) (fun b hb hl => ⟨HQO.out b hb, by have := HWB.out; have := HGBB.out; omega⟩))
              have HCG : Hid ((r.f, r.X, r.l) = chgLn f Z q r.ln) := Lib.hid (by
                show _ = (if r.X.testBit f = true then (r.f, r.X ^^^ Z, xorL r.l q) else (r.f, r.X, r.l))
                rw [HTT.out]; rfl)
              have HPR := Lib.hid (And.intro HA2.out HOLD.out)
              go_wp2_with fail
              go_meet
              exact ⟨_, _, _, _, _, _, HBX2, HPR, HCG, HSZ2⟩
            | true =>
              have HCG : Hid ((r.f, r.X ^^^ Z, xorL r.l q) = chgLn f Z q r.ln) := Lib.hid (by
                show _ = (if r.X.testBit f = true then (r.f, r.X ^^^ Z, xorL r.l q) else (r.f, r.X, r.l))
                rw [HTT.out]; rfl)
              have hrf : r.f < f := by
                have h1 := HATW.out.f
                rcases Nat.lt_trichotomy r.f f with h | h | h
                · exact h
                · exact absurd h HRNF.out
                · have := h1.2.2 f h
                  rw [HTT.out] at this; cases this
              have HRF : Hid (r.f < n ∧ (r.X ^^^ Z).testBit r.f = true ∧ ∀ j, j < r.f → (r.X ^^^ Z).testBit j = false) := Lib.hid ⟨HATW.out.f.1, by rw [Nat.testBit_xor, HATW.out.f.2.1, HZR.out]; rfl, fun j hj => by rw [Nat.testBit_xor, HATW.out.f.2.2 j hj, HFZ.out.2.2 j (by omega)]; rfl⟩
              have HXR := Lib.hid (fun W (hW : Below W2.heap.size W2 W) => r1xor_any W2.heap.size n r.cv c5 r.X Z (some ⟨r.gv, 0, none⟩) A5 W ((Row.more (Row.below HATW.out.v (HBW.out W2 HA2.out.b)) (HBW.out W2 HA2.out.b).size).below hW) (Row.below (HRV.out W2 HA2.out.b) hW) HATW.out.X HZL.out (by have := HN.out; omega) hW.size)
              have HXS := Lib.hid (fun W (hW : Below W2.heap.size W2 W) => xorBytes_any W2.heap.size z r.cd c6 (some ⟨r.gd, 0, none⟩) A6 r.l q W ((Row.more (Row.below HATW.out.d (HBW.out W2 HA2.out.b)) (HBW.out W2 HA2.out.b).size).below hW) (Row.below (HRD.out W2 HA2.out.b) hW) (by have := HZ1.out; omega) hW.size)
              have HRLL : Hid (r.l.length = z) := Lib.hid (Row.blen HATW.out.d)
              have HAI := HA2
              have BX0_ := HBX2
              have LX0_ : Hid (gb < W2.heap.size) := Lib.hid (Nat.lt_of_lt_of_le HGL0.out HSZ2.out)
              have HGLE : Hid (gb ≤ W2.heap.size) := Lib.hid (Nat.le_of_lt LX0_.out)
              have HGLT : Hid (gb < W2.heap.size) := LX0_
              clear hrf
              go_upto_region 13 with fail
              refine wp_region_noPanic ?_
              refine wp_region_held_drew (S := (fun W => Below (gb) W2 W)) (by kernel_rfl) (Below.refl _ _).drew (fun hH0 => ?_)
              have hH0 : Below (gb) W2 W2.drew := hH0
              have BX0_d := Lib.hid (show W2.drew.heap[gb]? = _ from BX0_.out)
              have LX0_d := Lib.hid (show gb < W2.drew.heap.size from LX0_.out)
              have ST0 : Hid (Below W2.heap.size W2 W2.drew) := Lib.hid (Below.refl _ _).drew
              generalize W2.drew = wd3000 at *
              refine wpAnyH_take (i := 0) (oi := _) (v := ?tkv3001) rfl (by kernel_rfl) (by kernel_rfl) (by kernel_rfl) (fun _ _ _ h => h) (Or.inl ⟨by rfl, ?tky3001⟩) hH0 ?tkr3001
              case tky3001 => (intro w' hSw; clear hSw; go_simp; try with_reducible rfl)
              try simp only [Act.put, List.setIfInBounds_toArray, List.set_cons_zero, List.set_cons_succ]
              refine wpAnyH_take (i := 2) (oi := _) (v := ?tkv3002) rfl (by kernel_rfl) (by kernel_rfl) (by kernel_rfl) (fun _ _ _ h => h) (Or.inl ⟨by rfl, ?tky3002⟩) hH0 ?tkr3002
              case tky3002 => (intro w' hSw; clear hSw; go_simp; try with_reducible rfl)
              try simp only [Act.put, List.setIfInBounds_toArray, List.set_cons_zero, List.set_cons_succ]
              refine wpAnyH_take (i := 4) (oi := _) (v := ?tkv3003) rfl (by kernel_rfl) (by kernel_rfl) (by kernel_rfl) (fun _ _ _ h => h) (Or.inl ⟨by rfl, ?tky3003⟩) hH0 ?tkr3003
              case tky3003 => (intro w' hSw; clear hSw; go_simp; try with_reducible rfl)
              try simp only [Act.put, List.setIfInBounds_toArray, List.set_cons_zero, List.set_cons_succ]
              refine wpAnyH_take (i := 6) (oi := _) (v := ?tkv3004) rfl (by kernel_rfl) (by kernel_rfl) (by kernel_rfl) (fun _ _ _ h => h) (Or.inl ⟨by rfl, ?tky3004⟩) hH0 ?tkr3004
              case tky3004 => (intro w' hSw; clear hSw; go_simp; try with_reducible rfl)
              try simp only [Act.put, List.setIfInBounds_toArray, List.set_cons_zero, List.set_cons_succ]
              refine wpAnyH_ready (rs := [1, 5]) (by kernel_rfl) (by simp) ?_
              refine AllReadyH.cons (o := _) rfl (fun K hK => ?_) (AllReadyH.cons (o := _) rfl (fun K hK => ?_) AllReadyH.nil)
              · have b3005 : wd3000.cell? ⟨gb, 0, none⟩ = some (.slice (some ⟨r.gv, 0, none⟩) n r.cv) := by rw [cell_of_row wd3000 gb 0 _ _ (0, 0) BX0_d.out]; rfl
                go_simp
                clear b3005
                have hS3005 : Below (gb) W2 wd3000 := hH0
                refine hK.out _ _ hS3005 (fun hH3005 => ?_)
                have hH3005 : Below (gb) W2 wd3000 := hH3005
                clear hK K hS3005
                try simp only [Act.put, List.setIfInBounds_toArray, List.set_cons_zero, List.set_cons_succ]
                refine wpAnyH_ready (rs := [3, 5]) (by kernel_rfl) (by simp) ?_
                refine AllReadyH.cons (o := _) rfl (fun K hK => ?_) (AllReadyH.cons (o := _) rfl (fun K hK => ?_) AllReadyH.nil)
                · go_simp
                  refine (HXR.out wd3000 ST0.out).mono ?_
                  rintro e' wn3006 ⟨g3006, rfl, ho3006, hb3006'⟩
                  have hb3006 := hb3006'.out
                  have RV3006_ : Hid (RowU (some ⟨g3006, 0, none⟩) n (vb (r.X ^^^ Z) n) wn3006) := Lib.hid (Row.of_own ho3006.out)
                  have LV3006 := Lib.hid (And.intro (show W2.heap.size ≤ g3006 from Nat.le_trans ST0.out.size (ho3006.out.lt g3006 rfl).1) (ho3006.out.lt g3006 rfl).2)
                  have ST3006 := Lib.hid (ST0.out.trans (hb3006.mono ST0.out.size))
                  clear hb3006' ho3006
                  go_simp
                  have BX0_3006 := Lib.hid ((hb3006.block gb LX0_d.out).trans BX0_d.out)
                  have LX0_3006 := Lib.hid (Nat.lt_of_lt_of_le LX0_d.out hb3006.size)
                  have hS3006 : Below (gb) W2 wn3006 := (hH3005).trans (hb3006.mono (Nat.le_trans HGLE.out (hH3005).size))
                  refine hK.out _ _ hS3006 (fun hH3006 => ?_)
                  have hH3006 : Below (gb) W2 wn3006 := hH3006
                  clear hK K hS3006
                  try simp only [Act.put, List.setIfInBounds_toArray, List.set_cons_zero, List.set_cons_succ]
                  refine wpAnyH_ready (rs := [5]) (by kernel_rfl) (by simp) ?_
                  refine AllReadyH.cons (o := _) rfl (fun K hK => ?_) AllReadyH.nil
                  have b3007 : wn3006.cell? ⟨gb, 1, none⟩ = some (.slice (some ⟨r.gd, 0, none⟩) z r.cd) := by rw [cell_of_row wn3006 gb 1 _ _ (0, 0) BX0_3006.out]; rfl
                  go_simp
                  clear b3007
                  have hS3007 : Below (gb) W2 wn3006 := hH3006
                  refine hK.out _ _ hS3007 (fun hH3007 => ?_)
                  have hH3007 : Below (gb) W2 wn3006 := hH3007
                  clear hK K hS3007
                  try simp only [Act.put, List.setIfInBounds_toArray, List.set_cons_zero, List.set_cons_succ]
                  refine wpAnyH_ready (rs := [7]) (by kernel_rfl) (by simp) ?_
                  refine AllReadyH.cons (o := _) rfl (fun K hK => ?_) AllReadyH.nil
                  go_simp
                  refine (HXS.out wn3006 ST3006.out).mono ?_
                  rintro e' wn3008 ⟨A3008, m3008, c3008, rfl, hm3008, ho3008, hb3008⟩
                  have hm3008' : m3008 = z := by rw [hm3008.out, xorL_length]; exact HRLL.out
                  obtain ⟨g3008, c3008', hv3008, hg3008, _⟩ := ho3008.form (by rw [hm3008']; have := HZ1.out; omega)
                  injection hv3008 with e1 e2 e3
                  subst e1 e3
                  have RD3008_ : Hid (RowU (some ⟨g3008, 0, none⟩) z (bv (xorL r.l q)) wn3008) := Lib.hid (by rw [← hm3008']; exact Row.of_own ho3008)
                  have LD3008 := Lib.hid (And.intro (show W2.heap.size ≤ g3008 from Nat.le_trans ST3006.out.size (ho3008.lt g3008 rfl).1) (ho3008.lt g3008 rfl).2)
                  have ST3008 := Lib.hid (ST3006.out.trans (hb3008.mono ST3006.out.size))
                  rw [hm3008']
                  clear ho3008 hm3008 hm3008' hg3008
                  go_simp
                  have BX0_3008 := Lib.hid ((hb3008.block gb LX0_3006.out).trans BX0_3006.out)
                  have LX0_3008 := Lib.hid (Nat.lt_of_lt_of_le LX0_3006.out hb3008.size)
                  have RV3006_3008 := Lib.hid (RV3006_.out.below hb3008)
                  have hS3008 : Below (gb) W2 wn3008 := (hH3007).trans (hb3008.mono (Nat.le_trans HGLE.out (hH3007).size))
                  refine hK.out _ _ hS3008 (fun hH3008 => ?_)
                  have hH3008 : Below (gb) W2 wn3008 := hH3008
                  clear hK K hS3008
                  try simp only [Act.put, List.setIfInBounds_toArray, List.set_cons_zero, List.set_cons_succ]
                  refine wpAnyH_take (i := 8) (oi := _) (v := ?tkv3009) rfl (by kernel_rfl) (by kernel_rfl) (by kernel_rfl) (fun _ _ _ h => h) (Or.inl ⟨by rfl, ?tky3009⟩) hH3008 ?tkr3009
                  case tky3009 => (intro w' hSw; clear hSw; go_simp; try with_reducible rfl)
                  try simp only [Act.put, List.setIfInBounds_toArray, List.set_cons_zero, List.set_cons_succ]
                  refine wpAnyH_ready (rs := [9]) (by kernel_rfl) (by simp) ?_
                  refine AllReadyH.cons (o := _) rfl (fun K hK => ?_) AllReadyH.nil
                  rw [if_pos (by rfl)]
                  refine wp_store_row _ _ _ rfl gb #[.slice (some ⟨g3006, 0, none⟩) n n, .slice (some ⟨g3008, 0, none⟩) z c3008] rfl rfl _ _ BX0_3008.out (by kernel_rfl) (by rfl) (by kernel_rfl) ?_
                  have hS3010 : Below (gb) W2 (wn3008.setRow gb #[.slice (some ⟨g3006, 0, none⟩) n n, .slice (some ⟨g3008, 0, none⟩) z c3008]) := (below_setRowB (hH3008) (Nat.le_refl _) _)
                  refine hK.out _ _ hS3010 (fun hH3010 => ?_)
                  have hH3010 : Below (gb) W2 (wn3008.setRow gb #[.slice (some ⟨g3006, 0, none⟩) n n, .slice (some ⟨g3008, 0, none⟩) z c3008]) := hH3010
                  clear hK K hS3010
                  refine wpAnyH_done (by kernel_rfl) ?_ _
                  refine NoPanic.normal ?_
                  have HROW := Lib.hid (setRow_heap _ _ _ #[.slice (some ⟨g3006, 0, none⟩) n n, .slice (some ⟨g3008, 0, none⟩) z c3008] _ _ BX0_3008.out)
                  have HFIN := Lib.hid (store_line (gb := gb) (cs := #[.slice (some ⟨g3006, 0, none⟩) n n, .slice (some ⟨g3008, 0, none⟩) z c3008]) (cv := n) (cd := c3008) HAI.out ST3008.out (Nat.le_of_eq HB1.out.symm) HGBB.out HGLT.out (fun h => h.2 rfl) LV3006.out.1 LD3008.out.1 RV3006_3008.out RD3008_.out (by have := HN.out; omega) (by have := HZ1.out; omega) (Nat.xor_lt_two_pow HATW.out.X HZL.out) HRF.out (fun b hb => ⟨HQF.out b (by have h1 := HWB.out; have h2 := HGBB.out; have h3 := HGLT.out; omega), by have h3 := HGLT.out; omega⟩))
                  have HSZF : Hid (W0.heap.size ≤ (wn3008.setRow gb #[.slice (some ⟨g3006, 0, none⟩) n n, .slice (some ⟨g3008, 0, none⟩) z c3008]).heap.size) := Lib.hid (by
                    have h1 := HSZ2.out
                    have h2 := ST3008.out.size
                    simp; omega)
                  go_wp2_with fail
                  go_meet
                  exact ⟨_, _, _, _, _, _, HROW, HFIN, HCG, HSZF⟩
                · have b3011 : wd3000.cell? ⟨gb, 1, none⟩ = some (.slice (some ⟨r.gd, 0, none⟩) z r.cd) := by rw [cell_of_row wd3000 gb 1 _ _ (0, 0) BX0_d.out]; rfl
                  go_simp
                  clear b3011
                  have hS3011 : Below (gb) W2 wd3000 := hH3005
                  refine hK.out _ _ hS3011 (fun hH3011 => ?_)
                  have hH3011 : Below (gb) W2 wd3000 := hH3011
                  clear hK K hS3011
                  try simp only [Act.put, List.setIfInBounds_toArray, List.set_cons_zero, List.set_cons_succ]
                  refine wpAnyH_ready (rs := [3]) (by kernel_rfl) (by simp) ?_
                  refine AllReadyH.cons (o := _) rfl (fun K hK => ?_) AllReadyH.nil
                  go_simp
                  refine (HXR.out wd3000 ST0.out).mono ?_
                  rintro e' wn3012 ⟨g3012, rfl, ho3012, hb3012'⟩
                  have hb3012 := hb3012'.out
                  have RV3012_ : Hid (RowU (some ⟨g3012, 0, none⟩) n (vb (r.X ^^^ Z) n) wn3012) := Lib.hid (Row.of_own ho3012.out)
                  have LV3012 := Lib.hid (And.intro (show W2.heap.size ≤ g3012 from Nat.le_trans ST0.out.size (ho3012.out.lt g3012 rfl).1) (ho3012.out.lt g3012 rfl).2)
                  have ST3012 := Lib.hid (ST0.out.trans (hb3012.mono ST0.out.size))
                  clear hb3012' ho3012
                  go_simp
                  have BX0_3012 := Lib.hid ((hb3012.block gb LX0_d.out).trans BX0_d.out)
                  have LX0_3012 := Lib.hid (Nat.lt_of_lt_of_le LX0_d.out hb3012.size)
                  have hS3012 : Below (gb) W2 wn3012 := (hH3011).trans (hb3012.mono (Nat.le_trans HGLE.out (hH3011).size))
                  refine hK.out _ _ hS3012 (fun hH3012 => ?_)
                  have hH3012 : Below (gb) W2 wn3012 := hH3012
                  clear hK K hS3012
                  try simp only [Act.put, List.setIfInBounds_toArray, List.set_cons_zero, List.set_cons_succ]
                  refine wpAnyH_ready (rs := [7]) (by kernel_rfl) (by simp) ?_
                  refine AllReadyH.cons (o := _) rfl (fun K hK => ?_) AllReadyH.nil
                  go_simp
                  refine (HXS.out wn3012 ST3012.out).mono ?_
                  rintro e' wn3013 ⟨A3013, m3013, c3013, rfl, hm3013, ho3013, hb3013⟩
                  have hm3013' : m3013 = z := by rw [hm3013.out, xorL_length]; exact HRLL.out
                  obtain ⟨g3013, c3013', hv3013, hg3013, _⟩ := ho3013.form (by rw [hm3013']; have := HZ1.out; omega)
                  injection hv3013 with e1 e2 e3
                  subst e1 e3
                  have RD3013_ : Hid (RowU (some ⟨g3013, 0, none⟩) z (bv (xorL r.l q)) wn3013) := Lib.hid (by rw [← hm3013']; exact Row.of_own ho3013)
                  have LD3013 := Lib.hid (And.intro (show W2.heap.size ≤ g3013 from Nat.le_trans ST3012.out.size (ho3013.lt g3013 rfl).1) (ho3013.lt g3013 rfl).2)
                  have ST3013 := Lib.hid (ST3012.out.trans (hb3013.mono ST3012.out.size))
                  rw [hm3013']
                  clear ho3013 hm3013 hm3013' hg3013
                  go_simp
                  have BX0_3013 := Lib.hid ((hb3013.block gb LX0_3012.out).trans BX0_3012.out)
                  have LX0_3013 := Lib.hid (Nat.lt_of_lt_of_le LX0_3012.out hb3013.size)
                  have RV3012_3013 := Lib.hid (RV3012_.out.below hb3013)
                  have hS3013 : Below (gb) W2 wn3013 := (hH3012).trans (hb3013.mono (Nat.le_trans HGLE.out (hH3012).size))
                  refine hK.out _ _ hS3013 (fun hH3013 => ?_)
                  have hH3013 : Below (gb) W2 wn3013 := hH3013
                  clear hK K hS3013
                  try simp only [Act.put, List.setIfInBounds_toArray, List.set_cons_zero, List.set_cons_succ]
                  refine wpAnyH_take (i := 8) (oi := _) (v := ?tkv3014) rfl (by kernel_rfl) (by kernel_rfl) (by kernel_rfl) (fun _ _ _ h => h) (Or.inl ⟨by rfl, ?tky3014⟩) hH3013 ?tkr3014
                  case tky3014 => (intro w' hSw; clear hSw; go_simp; try with_reducible rfl)
                  try simp only [Act.put, List.setIfInBounds_toArray, List.set_cons_zero, List.set_cons_succ]
                  refine wpAnyH_ready (rs := [9]) (by kernel_rfl) (by simp) ?_
                  refine AllReadyH.cons (o := _) rfl (fun K hK => ?_) AllReadyH.nil
                  rw [if_pos (by rfl)]
                  refine wp_store_row _ _ _ rfl gb #[.slice (some ⟨g3012, 0, none⟩) n n, .slice (some ⟨g3013, 0, none⟩) z c3013] rfl rfl _ _ BX0_3013.out (by kernel_rfl) (by rfl) (by kernel_rfl) ?_
                  have hS3015 : Below (gb) W2 (wn3013.setRow gb #[.slice (some ⟨g3012, 0, none⟩) n n, .slice (some ⟨g3013, 0, none⟩) z c3013]) := (below_setRowB (hH3013) (Nat.le_refl _) _)
                  refine hK.out _ _ hS3015 (fun hH3015 => ?_)
                  have hH3015 : Below (gb) W2 (wn3013.setRow gb #[.slice (some ⟨g3012, 0, none⟩) n n, .slice (some ⟨g3013, 0, none⟩) z c3013]) := hH3015
                  clear hK K hS3015
                  refine wpAnyH_done (by kernel_rfl) ?_ _
                  refine NoPanic.normal ?_
                  have HROW := Lib.hid (setRow_heap _ _ _ #[.slice (some ⟨g3012, 0, none⟩) n n, .slice (some ⟨g3013, 0, none⟩) z c3013] _ _ BX0_3013.out)
                  have HFIN := Lib.hid (store_line (gb := gb) (cs := #[.slice (some ⟨g3012, 0, none⟩) n n, .slice (some ⟨g3013, 0, none⟩) z c3013]) (cv := n) (cd := c3013) HAI.out ST3013.out (Nat.le_of_eq HB1.out.symm) HGBB.out HGLT.out (fun h => h.2 rfl) LV3012.out.1 LD3013.out.1 RV3012_3013.out RD3013_.out (by have := HN.out; omega) (by have := HZ1.out; omega) (Nat.xor_lt_two_pow HATW.out.X HZL.out) HRF.out (fun b hb => ⟨HQF.out b (by have h1 := HWB.out; have h2 := HGBB.out; have h3 := HGLT.out; omega), by have h3 := HGLT.out; omega⟩))
                  have HSZF : Hid (W0.heap.size ≤ (wn3013.setRow gb #[.slice (some ⟨g3012, 0, none⟩) n n, .slice (some ⟨g3013, 0, none⟩) z c3013]).heap.size) := Lib.hid (by
                    have h1 := HSZ2.out
                    have h2 := ST3013.out.size
                    simp; omega)
                  go_wp2_with fail
                  go_meet
                  exact ⟨_, _, _, _, _, _, HROW, HFIN, HCG, HSZF⟩
              · have b3016 : wd3000.cell? ⟨gb, 1, none⟩ = some (.slice (some ⟨r.gd, 0, none⟩) z r.cd) := by rw [cell_of_row wd3000 gb 1 _ _ (0, 0) BX0_d.out]; rfl
                go_simp
                clear b3016
                have hS3016 : Below (gb) W2 wd3000 := hH0
                refine hK.out _ _ hS3016 (fun hH3016 => ?_)
                have hH3016 : Below (gb) W2 wd3000 := hH3016
                clear hK K hS3016
                try simp only [Act.put, List.setIfInBounds_toArray, List.set_cons_zero, List.set_cons_succ]
                refine wpAnyH_ready (rs := [1]) (by kernel_rfl) (by simp) ?_
                refine AllReadyH.cons (o := _) rfl (fun K hK => ?_) AllReadyH.nil
                have b3017 : wd3000.cell? ⟨gb, 0, none⟩ = some (.slice (some ⟨r.gv, 0, none⟩) n r.cv) := by rw [cell_of_row wd3000 gb 0 _ _ (0, 0) BX0_d.out]; rfl
                go_simp
                clear b3017
                have hS3017 : Below (gb) W2 wd3000 := hH3016
                refine hK.out _ _ hS3017 (fun hH3017 => ?_)
                have hH3017 : Below (gb) W2 wd3000 := hH3017
                clear hK K hS3017
                try simp only [Act.put, List.setIfInBounds_toArray, List.set_cons_zero, List.set_cons_succ]
                refine wpAnyH_ready (rs := [3]) (by kernel_rfl) (by simp) ?_
                refine AllReadyH.cons (o := _) rfl (fun K hK => ?_) AllReadyH.nil
                go_simp
                refine (HXR.out wd3000 ST0.out).mono ?_
                rintro e' wn3018 ⟨g3018, rfl, ho3018, hb3018'⟩
                have hb3018 := hb3018'.out
                have RV3018_ : Hid (RowU (some ⟨g3018, 0, none⟩) n (vb (r.X ^^^ Z) n) wn3018) := Lib.hid (Row.of_own ho3018.out)
                have LV3018 := Lib.hid (And.intro (show W2.heap.size ≤ g3018 from Nat.le_trans ST0.out.size (ho3018.out.lt g3018 rfl).1) (ho3018.out.lt g3018 rfl).2)
                have ST3018 := Lib.hid (ST0.out.trans (hb3018.mono ST0.out.size))
                clear hb3018' ho3018
                go_simp
                have BX0_3018 := Lib.hid ((hb3018.block gb LX0_d.out).trans BX0_d.out)
                have LX0_3018 := Lib.hid (Nat.lt_of_lt_of_le LX0_d.out hb3018.size)
                have hS3018 : Below (gb) W2 wn3018 := (hH3017).trans (hb3018.mono (Nat.le_trans HGLE.out (hH3017).size))
                refine hK.out _ _ hS3018 (fun hH3018 => ?_)
                have hH3018 : Below (gb) W2 wn3018 := hH3018
                clear hK K hS3018
                try simp only [Act.put, List.setIfInBounds_toArray, List.set_cons_zero, List.set_cons_succ]
                refine wpAnyH_ready (rs := [7]) (by kernel_rfl) (by simp) ?_
                refine AllReadyH.cons (o := _) rfl (fun K hK => ?_) AllReadyH.nil
                go_simp
                refine (HXS.out wn3018 ST3018.out).mono ?_
                rintro e' wn3019 ⟨A3019, m3019, c3019, rfl, hm3019, ho3019, hb3019⟩
                have hm3019' : m3019 = z := by rw [hm3019.out, xorL_length]; exact HRLL.out
                obtain ⟨g3019, c3019', hv3019, hg3019, _⟩ := ho3019.form (by rw [hm3019']; have := HZ1.out; omega)
                injection hv3019 with e1 e2 e3
                subst e1 e3
                have RD3019_ : Hid (RowU (some ⟨g3019, 0, none⟩) z (bv (xorL r.l q)) wn3019) := Lib.hid (by rw [← hm3019']; exact Row.of_own ho3019)
                have LD3019 := Lib.hid (And.intro (show W2.heap.size ≤ g3019 from Nat.le_trans ST3018.out.size (ho3019.lt g3019 rfl).1) (ho3019.lt g3019 rfl).2)
                have ST3019 := Lib.hid (ST3018.out.trans (hb3019.mono ST3018.out.size))
                rw [hm3019']
                clear ho3019 hm3019 hm3019' hg3019
                go_simp
                have BX0_3019 := Lib.hid ((hb3019.block gb LX0_3018.out).trans BX0_3018.out)
                have LX0_3019 := Lib.hid (Nat.lt_of_lt_of_le LX0_3018.out hb3019.size)
                have RV3018_3019 := Lib.hid (RV3018_.out.below hb3019)
                have hS3019 : Below (gb) W2 wn3019 := (hH3018).trans (hb3019.mono (Nat.le_trans HGLE.out (hH3018).size))
                refine hK.out _ _ hS3019 (fun hH3019 => ?_)
                have hH3019 : Below (gb) W2 wn3019 := hH3019
                clear hK K hS3019
                try simp only [Act.put, List.setIfInBounds_toArray, List.set_cons_zero, List.set_cons_succ]
                refine wpAnyH_take (i := 8) (oi := _) (v := ?tkv3020) rfl (by kernel_rfl) (by kernel_rfl) (by kernel_rfl) (fun _ _ _ h => h) (Or.inl ⟨by rfl, ?tky3020⟩) hH3019 ?tkr3020
                case tky3020 => (intro w' hSw; clear hSw; go_simp; try with_reducible rfl)
                try simp only [Act.put, List.setIfInBounds_toArray, List.set_cons_zero, List.set_cons_succ]
                refine wpAnyH_ready (rs := [9]) (by kernel_rfl) (by simp) ?_
                refine AllReadyH.cons (o := _) rfl (fun K hK => ?_) AllReadyH.nil
                rw [if_pos (by rfl)]
                refine wp_store_row _ _ _ rfl gb #[.slice (some ⟨g3018, 0, none⟩) n n, .slice (some ⟨g3019, 0, none⟩) z c3019] rfl rfl _ _ BX0_3019.out (by kernel_rfl) (by rfl) (by kernel_rfl) ?_
                have hS3021 : Below (gb) W2 (wn3019.setRow gb #[.slice (some ⟨g3018, 0, none⟩) n n, .slice (some ⟨g3019, 0, none⟩) z c3019]) := (below_setRowB (hH3019) (Nat.le_refl _) _)
                refine hK.out _ _ hS3021 (fun hH3021 => ?_)
                have hH3021 : Below (gb) W2 (wn3019.setRow gb #[.slice (some ⟨g3018, 0, none⟩) n n, .slice (some ⟨g3019, 0, none⟩) z c3019]) := hH3021
                clear hK K hS3021
                refine wpAnyH_done (by kernel_rfl) ?_ _
                refine NoPanic.normal ?_
                have HROW := Lib.hid (setRow_heap _ _ _ #[.slice (some ⟨g3018, 0, none⟩) n n, .slice (some ⟨g3019, 0, none⟩) z c3019] _ _ BX0_3019.out)
                have HFIN := Lib.hid (store_line (gb := gb) (cs := #[.slice (some ⟨g3018, 0, none⟩) n n, .slice (some ⟨g3019, 0, none⟩) z c3019]) (cv := n) (cd := c3019) HAI.out ST3019.out (Nat.le_of_eq HB1.out.symm) HGBB.out HGLT.out (fun h => h.2 rfl) LV3018.out.1 LD3019.out.1 RV3018_3019.out RD3019_.out (by have := HN.out; omega) (by have := HZ1.out; omega) (Nat.xor_lt_two_pow HATW.out.X HZL.out) HRF.out (fun b hb => ⟨HQF.out b (by have h1 := HWB.out; have h2 := HGBB.out; have h3 := HGLT.out; omega), by have h3 := HGLT.out; omega⟩))
                have HSZF : Hid (W0.heap.size ≤ (wn3019.setRow gb #[.slice (some ⟨g3018, 0, none⟩) n n, .slice (some ⟨g3019, 0, none⟩) z c3019]).heap.size) := Lib.hid (by
                  have h1 := HSZ2.out
                  have h2 := ST3019.out.size
                  simp; omega)
                go_wp2_with fail
                go_meet
                exact ⟨_, _, _, _, _, _, HROW, HFIN, HCG, HSZF⟩
          case rest =>
            obtain ⟨gv, cv, gd, cd, X', l', HBX3, HPR, HCG, HSZ3⟩ := hcut
            obtain ⟨W3, rfl⟩ : ∃ x : World, x = wc := ⟨_, rfl⟩
            have d0 : W3.cell? ⟨gb, 0, none⟩ = some (.slice (some ⟨gv, 0, none⟩) n cv) := by rw [cell_of_row W3 gb 0 _ _ (0, 0) HBX3.out]; rfl
            have d1 : W3.cell? ⟨gb, 1, none⟩ = some (.slice (some ⟨gd, 0, none⟩) z cd) := by rw [cell_of_row W3 gb 1 _ _ (0, 0) HBX3.out]; rfl
            have hbl : Below W3.heap.size W3 (W3.alloc (.cells #[.slice (some ⟨gv, 0, none⟩) n cv, .slice (some ⟨gd, 0, none⟩) z cd] 124)) := (Below.refl _ _).alloc (Nat.le_refl _) _
            have HBX := Lib.hid (heap_alloc_new W3 (.cells #[.slice (some ⟨gv, 0, none⟩) n cv, .slice (some ⟨gd, 0, none⟩) z cd] 124))
            have HNW : Hid (LrAt (fun b => QQ b ∧ b ≠ gb) (W3.alloc (.cells #[.slice (some ⟨gv, 0, none⟩) n cv, .slice (some ⟨gd, 0, none⟩) z cd] 124)) v2 n z ⟨r.f, gv, cv, gd, cd, X', l'⟩) := Lib.hid (HPR.out.2.keep (fun b _ hl => hbl.block b hl) hbl.size)
            have hown0 := (HPR.out.1.ls.below hbl).own
            have HB0L := Lib.hid hbl
            have hk2 : os2.length ≤ 300 := by have := HOL2.out; omega
            obtain ⟨kk, hkk⟩ : ∃ k, os2.length = k := ⟨_, rfl⟩
            have HKK := Lib.hid hkk
            rw [hkk] at hown0 hk2
            have HSZW : Hid (gb < W3.heap.size) := Lib.hid (Nat.lt_of_lt_of_le HGL0.out HSZ3.out)
            clear hbl hkk
            go_wp2_with (at_builtin; refine wpList_app2 rfl (.tmp 80) (.tmp 82) 92 rfl 0 124 i0 _ 48 Tryz.underlying92 hi hz0 hz1 hz2 rfl v2 kk _ rfl hown0 W3.heap.size 1 _ _ _ rfl HBX.out rfl rfl (by unfold maxLen; omega) (by omega) (Nat.zero_le _) ?_; intro vI wI howI hgI hatI)
            rw [← HKK.out] at howI
            have hAN := HPR.out.1.app HB0L.out HNW.out howI hgI hatI ⟨HQF.out _ (by have h1 := HWB.out; have h2 := HGBB.out; have h3 := HSZW.out; have h4 := HB0L.out.size; omega), by have h3 := HSZW.out; have h4 := HB0L.out.size; omega⟩ (Nat.le_of_eq HB1.out.symm)
            have HNX := Lib.hid (hAN.more (Q' := QQ) (fun b hb _ => hb.1))
            have HFX : Hid (insTo f Z q ((rowsTo M n).take (i + 1)) = ((os2 ++ [(⟨r.f, gv, cv, gd, cd, X', l'⟩ : LR)]).map LR.ln, p2)) := Lib.hid (by
              rw [HSTP.out, ← HMD.out, ← HCG.out, List.map_append]; rfl)
            clear howI hgI hatI hAN d0 d1 hown0
            go_wp2_with fail
            go_roundw
            case rel => exact ⟨i + 1, p2, _, _, by omega, rfl, rfl, by go_num, HFX, HNX⟩
            case measure => simp [intOf]; omega
    · obtain rfl : es.length = i := by omega
      have HFF : Hid (insTo f Z q (rowsTo M n) = (os.map LR.ln, p)) := Lib.hid (by
        have h := HFE.out
        rw [← HLR.out, List.take_length] at h
        exact h)
      cases p with
      | true =>
        have HFIN : Hid (os.map LR.ln = rowsTo (addM M Z q f) n) := Lib.hid (by
          rw [← HRES.out]
          unfold insL
          rw [HFF.out]; rfl)
        have HAN := HAR
        obtain ⟨os', hos'⟩ : ∃ x, os = x := ⟨_, rfl⟩
        rw [hos'] at HAN HFIN
        clear hos' hlt
        obtain ⟨Ax, cx, hvx, _⟩ := HAN.out.ls.slice
        subst hvx
        have hmc := HMF.out _ HAN.out.b
        have hfz := frozen_of_row _ gm 2 _ _ hmc
        have hc2 : wr.cell? ⟨gm, 2, none⟩ = some (.slice A es.length c) := by rw [cell_of_row wr gm 2 _ _ (0, 0) hmc]; rfl
        have HMS := Lib.hid (fin_mat HAN.out HN.out HZ1.out HPG.out HGML.out hmc HFIN.out (by have h := HLE; rw [← HFIN.out, List.length_map] at h; exact h) HW1.out HB1.out HQQ.out)
        clear hmc
        go_wp2_with fail
        go_ret
        exact ⟨rfl, HMS.out.1, HMS.out.2⟩
      | false =>
        have HFE2 := HFF
        obtain ⟨W0, rfl⟩ : ∃ W : World, W = wr := ⟨_, rfl⟩
        have HAI := HAR
        have HQI : Hid (∀ b, W0.heap.size ≤ b → QQ b) := Lib.hid fun b hb => HQF.out b (by have h1 := HWB.out; have h2 := HAR.out.b.size; have h3 := HB1.out; omega)
        have HOL : Hid (os.length ≤ 300) := Lib.hid (by have := HOL1.out; omega)
        clear hlt
        have hmkb := madeBool n (by have := HN.out; omega) W0
        have hzo := vb_own W0 n (by have := HN.out; omega)
        have hzb : Below W0.heap.size W0 (W0.alloc (.cells (Array.replicate n (.bool false)) 4)) := (Below.refl _ _).alloc (Nat.le_refl _) _
        have HV0 := Lib.hid (HRV.out W0 HAI.out.b)
        have HD0 := Lib.hid (HRD.out W0 HAI.out.b)
        have HXO := Lib.hid (r1xor_any _ n c5 n Z 0 A5 (some ⟨W0.heap.size, 0, none⟩) _ (HV0.out.below hzb) (Row.of_own hzo) HZL.out (Nat.two_pow_pos n) (by have := HN.out; omega) (Nat.le_refl _))
        rw [Nat.xor_zero] at HXO
        have HZB := Lib.hid hzb
        have ck0 := HMC.out W0 HAI.out.b
        clear hzo hzb
        go_wp2_with fail
        clear ck0
        refine HXO.out.mono ?_
        rintro e wC ⟨gv, rfl, hov, hbv⟩
        have HBC := Lib.hid (HZB.out.trans (hbv.out.mono HZB.out.size))
        have HGV := Lib.hid (hov.out.lt gv rfl)
        have HRVC := Lib.hid (show RowU (some ⟨gv, 0, none⟩) n (vb Z n) wC from Row.of_own hov.out)
        have hal : Below wC.heap.size wC (wC.alloc (.cells #[.slice A6 z c6] 22)) := (Below.refl _ _).alloc (Nat.le_refl _) _
        have hdu := (HD0.out.below HBC.out).below hal
        have hr2 : Rows2 (wC.alloc (.cells #[.slice A6 z c6] 22)) (wC.alloc (.cells #[.slice A6 z c6] 22)).heap.size (some ⟨wC.heap.size, 0, none⟩) 1 [(⟨A6, z, c6, q⟩ : BRow)] := ⟨(row_new wC #[.slice A6 z c6] 22 (0, 0)).more (by simp), fun r hr => by
          obtain rfl := List.mem_singleton.1 hr
          exact hdu⟩
        have HJN := Lib.hid (join_any _ 1 1 (some ⟨wC.heap.size, 0, none⟩) [(⟨A6, z, c6, q⟩ : BRow)] _ hr2 (by omega) (by have h1 := HQL.out; have h2 := HZ1.out; simp [flat]; omega) (Nat.le_refl _))
        have hfl : flat [(⟨A6, z, c6, q⟩ : BRow)] = q := by simp [flat]
        rw [hfl] at HJN
        have HAJ := Lib.hid hal
        clear hov hbv hal hdu hr2 hfl HXO hmkb
        go_wp2_with fail
        refine HJN.out.mono ?_
        rintro e wE ⟨A7, m7, c7, rfl, hm7, ho7, hb7⟩
        have hm7z : m7 = z := hm7.out.trans HQL.out
        obtain ⟨gd, c7', hv7, hg7, _⟩ := ho7.form (by rw [hm7z]; have := HZ1.out; omega)
        injection hv7 with e1 e2 e3
        subst e1 e3
        have HBE := Lib.hid (HAJ.out.trans (hb7.mono HAJ.out.size))
        have HGD := Lib.hid (ho7.lt gd rfl)
        have HRDE : Hid (RowU (some ⟨gd, 0, none⟩) z (bv q) wE) := Lib.hid (by rw [← hm7z]; exact Row.of_own ho7)
        have HRVE := Lib.hid (HRVC.out.below HBE.out)
        rw [hm7z]
        have hbl : Below wE.heap.size wE (wE.alloc (.cells #[.slice (some ⟨gv, 0, none⟩) n n, .slice (some ⟨gd, 0, none⟩) z c7] 124)) := (Below.refl _ _).alloc (Nat.le_refl _) _
        have HBX := Lib.hid (heap_alloc_new wE (.cells #[.slice (some ⟨gv, 0, none⟩) n n, .slice (some ⟨gd, 0, none⟩) z c7] 124))
        have HB0L := Lib.hid (HBC.out.trans ((HBE.out.trans (hbl.mono HBE.out.size)).mono HBC.out.size))
        have HSL : Hid (W0.heap.size ≤ gv ∧ W0.heap.size ≤ gd ∧ gv < (wE.alloc (.cells #[.slice (some ⟨gv, 0, none⟩) n n, .slice (some ⟨gd, 0, none⟩) z c7] 124)).heap.size ∧ gd < (wE.alloc (.cells #[.slice (some ⟨gv, 0, none⟩) n n, .slice (some ⟨gd, 0, none⟩) z c7] 124)).heap.size) := Lib.hid (by
          have a1 := HBC.out.size
          have a2 := HBE.out.size
          have a3 := HGV.out
          have a4 := HGD.out
          have a5 := HZB.out.size
          have a6 := HAJ.out.size
          have a7 := hbl.size
          omega)
        have HNW : Hid (LrAt QQ (wE.alloc (.cells #[.slice (some ⟨gv, 0, none⟩) n n, .slice (some ⟨gd, 0, none⟩) z c7] 124)) v n z ⟨f, gv, n, gd, c7, Z, q⟩) := Lib.hid (HAI.out.fresh HQI.out HSL.out (HRVE.out.below hbl) (HRDE.out.below hbl) HZL.out HFZ.out)
        have hown0 := (HAI.out.ls.below HB0L.out).own
        have hkl := HOL.out
        clear hm7 hm7z ho7 hb7 hg7 HJN HGV HGD hbl HRVC HRVE HRDE HBE HBC HAJ HZB HV0 HD0 HSL
        obtain ⟨kk, hkk⟩ : ∃ k, os.length = k := ⟨_, rfl⟩
        have HKK := Lib.hid hkk
        rw [hkk] at hown0 hkl
        clear hkk
        go_upto_region 18 with (at_builtin; refine wpList_app2 rfl (.tmp 87) (.tmp 99) 92 rfl 0 124 i0 _ 48 Tryz.underlying92 hi hz0 hz1 hz2 rfl v kk _ rfl hown0 wE.heap.size 1 _ _ _ rfl HBX.out rfl rfl (by unfold maxLen; omega) (by omega) (Nat.zero_le _) ?_; intro vI wI howI hgI hatI)
        rw [← HKK.out] at howI
        have HAN := Lib.hid (HAI.out.app HB0L.out HNW.out howI hgI hatI (HQI.out _ HB0L.out.size) (Nat.le_of_eq HB1.out.symm))
        have HUN : Hid (∀ b, b < W0.heap.size → v.ownBlock ≠ some b → wI.heap[b]? = W0.heap[b]?) := Lib.hid (fun b hb hv => (hgI.block b (Nat.lt_of_lt_of_le hb HB0L.out.size) (fun h => hv h.symm)).trans (HB0L.out.block b hb))
        have HSI : Hid (W0.heap.size ≤ wI.heap.size) := Lib.hid (Nat.le_trans HB0L.out.size hgI.size)
        clear howI hgI hatI hown0 HNW HBX HB0L
        have HFIN : Hid ((os ++ [(⟨f, gv, n, gd, c7, Z, q⟩ : LR)]).map LR.ln = rowsTo (addM M Z q f) n) := Lib.hid (by
          rw [← HRES.out]
          unfold insL
          rw [HFE2.out, List.map_append]; rfl)
        obtain ⟨os', hos'⟩ : ∃ x, os ++ [(⟨f, gv, n, gd, c7, Z, q⟩ : LR)] = x := ⟨_, rfl⟩
        rw [hos'] at HAN HFIN
        clear hos'
        obtain ⟨Ax, cx, hvx, _⟩ := HAN.out.ls.slice
        subst hvx
        have hmc := HMF.out _ HAN.out.b
        have hfz := frozen_of_row _ gm 2 _ _ hmc
        have hc2 : wI.cell? ⟨gm, 2, none⟩ = some (.slice A es.length c) := by rw [cell_of_row wI gm 2 _ _ (0, 0) hmc]; rfl
        have HMS := Lib.hid (fin_mat HAN.out HN.out HZ1.out HPG.out HGML.out hmc HFIN.out (by have h := HLE; rw [← HFIN.out, List.length_map] at h; exact h) HW1.out HB1.out HQQ.out)
        clear hmc
        go_wp2_with fail
        go_ret
        exact ⟨rfl, HMS.out.1, HMS.out.2⟩
end Go.Proofs.YtidcnoejihjgjaaGreatDoor.El
