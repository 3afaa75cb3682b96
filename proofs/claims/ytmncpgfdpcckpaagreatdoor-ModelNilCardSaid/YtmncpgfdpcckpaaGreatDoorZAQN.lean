/- CRC: plain facts on shift registers over lists of bytes; nothing of the program. -/
import Derived.WalkKit
import Derived.Below
import Derived.Laws.OwnMore
import Derived.Laws.Rows
import Derived.Lib.Hide
import Derived.OpenShut
import Derived.Deep.Draws
import Derived.IntWalk
import Derived.Laws.IdiomStrings
import Derived.Laws.BytesArg
import Derived.Lib.SlBytesConst
import Derived.Maps.AppendAt
import Derived.RegionTactic
import Derived.OwnWalk
import Derived.Deep.AppendLies
import Derived.WalkSpells
import Derived.WalkLawsBesides
import Derived.Deep.RegionWith
import Derived.Deep.DeepCutAuto
import Derived.Lib.SliceRun
import Derived.Deep.RegionHeld3
import Derived.BigQuiet
import Derived.Deep.QuietTactic
import Derived.Test.YtmncpgfdpcckpaaGreatDoorRows
set_option maxRecDepth 100000
namespace Go.Proofs.YtmncpgfdpcckpaaGreatDoor
namespace CrcM
theorem xor_div2 (a b : Nat) : (a ^^^ b) / 2 = a / 2 ^^^ b / 2 := by
 apply Nat.eq_of_testBit_eq; intro i
 rw [Nat.testBit_div_two, Nat.testBit_xor, Nat.testBit_xor, Nat.testBit_div_two, Nat.testBit_div_two]
theorem xor_mod2 (a b : Nat) : (a ^^^ b) % 2 = (a + b) % 2 := by
 have h : (a ^^^ b) % 2 ^ 1 = (a % 2 ^ 1) ^^^ (b % 2 ^ 1) := Nat.xor_mod_two_pow
 simp only [Nat.pow_one] at h
 rw [h]
 have ha : a % 2 = 0 ∨ a % 2 = 1 := by omega
 have hb : b % 2 = 0 ∨ b % 2 = 1 := by omega
 rcases ha with ha | ha <;> rcases hb with hb | hb <;> rw [ha, hb, Nat.add_mod, ha, hb] <;> rfl
theorem xor_lt (a b n : Nat) (ha : a < 2 ^ n) (hb : b < 2 ^ n) : a ^^^ b < 2 ^ n := Nat.xor_lt_two_pow ha hb
def poly : Nat := 3988292384
def bit1 (c : Nat) : Nat := c / 2 ^^^ (if c % 2 = 1 then poly else 0)
theorem bit1_lt (c : Nat) (h : c < 2 ^ 32) : bit1 c < 2 ^ 32 := by
 unfold bit1
 apply xor_lt
 ·omega
 ·split <;> simp [poly]
def rounds : Nat → Nat → Nat | 0, c => c | k + 1, c => bit1 (rounds k c)
theorem rounds_lt (k c : Nat) (h : c < 2 ^ 32) : rounds k c < 2 ^ 32 := by
 induction k with
 | zero => exact h
 | succ k ih => exact bit1_lt _ ih
def step (c : Nat) : Nat := rounds 8 c
theorem step_lt (c : Nat) (h : c < 2 ^ 32) : step c < 2 ^ 32 := rounds_lt 8 c h
def reg (c : Nat) : List UInt8 → Nat | [] => c | x :: l => reg (step (c ^^^ x.toNat)) l
theorem byte_lt (x : UInt8) : x.toNat < 2 ^ 32 := by have := x.toNat_lt; omega
theorem reg_lt (c : Nat) (l : List UInt8) (h : c < 2 ^ 32) : reg c l < 2 ^ 32 := by
 induction l generalizing c with
 | nil => exact h
 | cons x l ih => exact ih _ (step_lt _ (xor_lt _ _ _ h (byte_lt x)))
theorem reg_append (c : Nat) (l m : List UInt8) : reg c (l ++ m) = reg (reg c l) m := by
 induction l generalizing c with
 | nil => rfl
 | cons x l ih => exact ih _
def full : Nat := 4294967295
theorem full_lt : full < 2 ^ 32 := by decide
def add (s : Nat) (l : List UInt8) : Nat := reg (s ^^^ full) l ^^^ full
def sum (l : List UInt8) : Nat := add 0 l
theorem xor_back (a b : Nat) : a ^^^ b ^^^ b = a := by rw [Nat.xor_assoc, Nat.xor_self, Nat.xor_zero]
theorem add_lt (s : Nat) (l : List UInt8) (h : s < 2 ^ 32) : add s l < 2 ^ 32 := xor_lt _ _ _ (reg_lt _ _ (xor_lt _ _ _ h full_lt)) full_lt
theorem sum_lt (l : List UInt8) : sum l < 2 ^ 32 := add_lt 0 l (by decide)
theorem b_lt (x : UInt8) : x.toNat < 256 := by have := x.toNat_lt; omega
def number (l : List UInt8) : Nat := l.foldl (fun n x => n * 256 + x.toNat) 0
def four (n : Nat) : List UInt8 := [UInt8.ofNat (n / 16777216), UInt8.ofNat (n / 65536), UInt8.ofNat (n / 256), UInt8.ofNat n]
theorem number_four (n : Nat) (h : n < 2 ^ 32) : number (four n) = n := by
 simp [number, four]
 omega
end CrcM
theorem zqa {α : Type} (l : List α) (i : Nat) (a : α) : l.toArray.setIfInBounds i a = (l.set i a).toArray := by simp
theorem zqb {α : Type} (x a : α) (l : List α) : (x :: l).set 0 a = a :: l := rfl
theorem zqc {α : Type} (x a : α) (l : List α) (n : Nat) : (x :: l).set (n + 1) a = x :: l.set n a := rfl
end Go.Proofs.YtmncpgfdpcckpaaGreatDoor
namespace Go.Proofs.YtmncpgfdpcckpaaGreatDoor
open Go.RowKit
def Row (w : World) (B : Nat) (A : Option Addr) (n : Nat) (xs : List Value) : Prop :=
 xs.length = n ∧ (0 < n → ∃ b o, A = some ⟨b, o, none⟩ ∧ b < B ∧ ∀ j u, xs[j]? = some u → w.cell? ⟨b, o + j, none⟩ = some u)
def bv (l : List UInt8) : List Value := l.map fun x => .int .u8 (x.toNat : Int)
theorem bv_length (l : List UInt8) : (bv l).length = l.length := by simp [bv]
theorem bv_get (l : List UInt8) (k : Nat) (h : k < l.length) : (bv l)[k]? = some (.int .u8 (l[k].toNat : Int)) := by
 simp [bv, h]
theorem bv_append (l m : List UInt8) : bv (l ++ m) = bv l ++ bv m := by simp [bv]
theorem bv_take (l : List UInt8) (k : Nat) : (bv l).take k = bv (l.take k) := by simp [bv]
theorem bv_drop (l : List UInt8) (k : Nat) : (bv l).drop k = bv (l.drop k) := by simp [bv]
section
variable {w w' : World} {B B' n : Nat} {A A' : Option Addr} {xs : List Value}
theorem Row.nil (w : World) (B : Nat) (A : Option Addr) : Row w B A 0 [] := ⟨rfl, fun h => absurd h (by omega)⟩
theorem Row.cellAt (h : Row w B A n xs) {k : Nat} (hk : k < n) {u : Value} (hu : xs[k]? = some u) : ∃ b o, A = some ⟨b, o, none⟩ ∧ b < B ∧ w.cell? ⟨b, o + k, none⟩ = some u := by
 obtain ⟨b, o, e, hb, hc⟩ := h.2 (by omega)
 exact ⟨b, o, e, hb, hc k u hu⟩
theorem Row.byteAt {l : List UInt8} (h : Row w B A n (bv l)) {k : Nat} (hk : k < n) : ∃ b o, A = some ⟨b, o, none⟩ ∧ b < B ∧ ∃ hl : k < l.length, w.cell? ⟨b, o + k, none⟩ = some (.int .u8 (l[k].toNat : Int)) := by
 have hl : k < l.length := by have := h.1; rw [bv_length] at this; omega
 obtain ⟨b, o, e, hb, hc⟩ := h.cellAt hk (bv_get l k hl)
 exact ⟨b, o, e, hb, hl, hc⟩
theorem Row.keep (h : Row w B A n xs) (hk : ∀ p : Addr, p.block < B → w'.cell? p = w.cell? p) : Row w' B A n xs :=
 ⟨h.1, fun hn => by
  obtain ⟨b, o, e, hb, hc⟩ := h.2 hn
  exact ⟨b, o, e, hb, fun j u hu => (hk _ hb).trans (hc j u hu)⟩⟩
theorem Row.more (h : Row w B A n xs) (hB : B ≤ B') : Row w B' A n xs :=
 ⟨h.1, fun hn => by
  obtain ⟨b, o, e, hb, hc⟩ := h.2 hn
  exact ⟨b, o, e, by omega, hc⟩⟩
theorem Row.below (h : Row w B A n xs) (hb : Below B w w') : Row w' B A n xs := h.keep fun _ hp => hb.cell hp
theorem Row.drewN (h : Row w B A n xs) (k : Nat) : Row (w.drewN k) B A n xs := h
theorem Row.grown (h : Row w B A n xs) {row : Option Nat} (hg : w.grownBy w' row) (hB : B ≤ w.heap.size) (hr : ∀ g, row = some g → B ≤ g) : Row w' B A n xs :=
 h.below ((Below.refl _ _).grown hg hB hr)
theorem Row.blen {l : List UInt8} (h : Row w B A n (bv l)) : l.length = n := by have := h.1; rwa [bv_length] at this
theorem Row.alloc (h : Row w B A n xs) (hB : B ≤ w.heap.size) (o : Obj) : Row (w.alloc o) B A n xs := h.below ((Below.refl _ _).alloc hB o)
theorem Row.sub (h : Row w B A n xs) {k m : Nat} (hk : k + m ≤ n) (hA : ∀ b o, A = some ⟨b, o, none⟩ → 0 < m → A' = some ⟨b, o + k, none⟩) : Row w B A' m ((xs.drop k).take m) := by
 refine ⟨by rw [List.length_take, List.length_drop, h.1]; omega, fun hn => ?_⟩
 obtain ⟨b, o, e, hb, hc⟩ := h.2 (by omega)
 refine ⟨b, o + k, hA b o e hn, hb, fun j u hu => ?_⟩
 rw [show o + k + j = o + (k + j) by omega]
 refine hc _ u ?_
 by_cases hj : j < m
 ·rw [List.getElem?_take_of_lt hj, List.getElem?_drop] at hu; exact hu
 ·rw [List.getElem?_take_eq_none (by omega)] at hu; cases hu
theorem Row.cut (h : Row w B A n xs) {k m : Nat} (hk : k + m ≤ n) : Row w B (A.map fun x => x.add k) m ((xs.drop k).take m) := by
 refine h.sub hk fun b o e _ => ?_
 subst e
 show some (Addr.add ⟨b, o, none⟩ k) = _
 congr 1
 unfold Addr.add; split <;> simp_all
theorem Row.tail (h : Row w B A n xs) {k cap : Nat} (hk : k ≤ n) (hn : n ≤ cap) : Row w B (if cap = k then A else A.map fun x => x.add k) (n - k) (xs.drop k) := by
 have e : (xs.drop k).take (n - k) = xs.drop k := List.take_of_length_le (by rw [List.length_drop, h.1]; omega)
 by_cases hc : cap = k
 ·rw [if_pos hc]
  have h0 : n - k = 0 := by omega
  have h1 : xs.drop k = [] := List.drop_of_length_le (by rw [h.1]; omega)
  rw [h0, h1]
  exact Row.nil _ _ _
 ·rw [if_neg hc]
  have := h.cut (k := k) (m := n - k) (by omega)
  rwa [e] at this
theorem Row.head (h : Row w B A n xs) {k : Nat} (hk : k ≤ n) : Row w B A k (xs.take k) := by
 have := h.sub (k := 0) (m := k) (A' := A) (by omega) fun b o e _ => by simpa using e
 simpa using this
theorem Row.of_own {base e c : Nat} (h : w.ownsRow base e 1 (.slice A n c) n xs) : Row w w.heap.size A n xs := by
 refine ⟨by simpa using h.1, fun hn => ?_⟩
 rcases h.2 with ⟨hv, h0⟩ | ⟨g, cap, cur, hv, _, hg, _, _, _, ht⟩
 ·omega
 ·injection hv with e1 e2 e3
  refine ⟨g, 0, e1, (Array.getElem?_eq_some_iff.1 hg).1, fun j u hu => ?_⟩
  rw [Nat.zero_add, cell_of_row w g j cur e (0, 0) hg]
  rw [← ht] at hu
  have hl := (List.getElem?_eq_some_iff.1 hu).1
  rw [List.getElem?_take_of_lt (by simp at hl; omega)] at hu
  simpa using hu
end
theorem row_of_ints {w : World} {a : Addr} {len : Nat} {zs : List Int} (hlen : len ≤ zs.length)
  (hc : ∀ i, i < zs.length → w.cell? (a.add i) = some (.int .u8 (zs.getD i 0))) (hwf : ∀ n ∈ zs, (Lit.int .u8 n).wf = true) (ha : a.block < w.heap.size ∨ len = 0) :
  Row w w.heap.size (some a) len (bv ((zs.take len).map fun z => UInt8.ofNat z.toNat)) := by
 refine ⟨by simp [bv]; omega, fun hn => ?_⟩
 obtain ⟨b, o, rfl, hcell⟩ := ints_at hc (by omega)
 have hB : b < w.heap.size := by
  rcases ha with h | h
  ·exact h
  ·omega
 refine ⟨b, o, rfl, hB, fun j u hu => ?_⟩
 simp only [bv, List.map_map] at hu
 rw [List.getElem?_map] at hu
 cases hz : (zs.take len)[j]? with
 | none => rw [hz] at hu; cases hu
 | some z =>
  rw [hz] at hu
  have hjl := (List.getElem?_eq_some_iff.1 hz).1
  have hj : j < len := by simp at hjl; omega
  rw [List.getElem?_take_of_lt hj] at hz
  have hm : z ∈ zs := List.mem_of_getElem? hz
  have hz2 := hwf z hm
  have hb : 0 ≤ z ∧ z ≤ 255 := by simpa [Lit.wf, IntKind.min, IntKind.max, IntKind.signed, IntKind.bits] using hz2
  rw [hcell j (by omega)]
  simp only [Option.map_some, Function.comp] at hu
  rw [← hu, show zs.getD j 0 = z by simp [hz]]
  congr 2
  simp
  omega
theorem row_new (w : World) (cs : Array Value) (t : TypeId) (fr : Nat × Nat) : Row (w.alloc (.cells cs t fr)) (w.heap.size + 1) (some ⟨w.heap.size, 0, none⟩) cs.size cs.toList := by
 refine ⟨by simp, fun _ => ⟨_, 0, rfl, by omega, fun j u hu => ?_⟩⟩
 rw [Nat.zero_add, World.cell?_alloc_mark]
 simpa using hu
section
variable {P : Program}
theorem run_string_row {w : World} {B n : Nat} {A : Option Addr} {l : List UInt8} (h : Row w B A n (bv l)) (cap : Nat) (src dst e : TypeId) (hs : P.underlying src = some (.slice e)) (he : P.underlying e = some (.int .u8)) (hd : P.underlying dst = some .string) :
  (convert src dst (.slice A n cap)).run P w = .ok (.string ⟨l.toArray⟩) w := by
 have hl := h.blen
 cases A with
 | none =>
  have h0 : n = 0 := by
   rcases Nat.eq_zero_or_pos n with h0 | h0
   ·exact h0
   ·obtain ⟨b, o, e, _⟩ := h.2 h0
    cases e
  have hl0 : l = [] := List.eq_nil_of_length_eq_zero (by omega)
  subst hl0
  exact run_convert_bytes_nil w src e hs he n cap dst hd
 | some a =>
  subst hl
  refine run_convert_bytes_back w src dst e a cap l hs he hd fun j hj => ?_
  obtain ⟨b, o, e, _, hl, hc⟩ := h.byteAt hj
  injection e with e
  subst e
  rw [← hc]
  congr 1
  unfold Addr.add; split <;> simp_all
end
end Go.Proofs.YtmncpgfdpcckpaaGreatDoor
namespace Go.Proofs.YtmncpgfdpcckpaaGreatDoor
open Go.RowKit
theorem app_nil {P : Program} (w : World) (base : Nat) (t ty e : TypeId) (i : TypeInfo) (ht : P.underlying t = some (.slice e)) (hi : P.info? e = some i)
  (v : Value) (n : Nat) (xs : List Value) (hown : w.ownsRow base e 1 v n xs) (c : Nat) : (Builtin.append_ #[t, t] ty #[v, .slice none 0 c]).run P w = .ok v w := by
 rcases hown.2 with ⟨rfl, rfl⟩ | ⟨g, cap, cur, rfl, _, _, hnc, _⟩
 ·simp [Builtin.append_, run_underlying ht, sizeOf, typeInfo, hi, Builtin.lenOf, Builtin.firstCells]
 ·simp [Builtin.append_, run_underlying ht, sizeOf, typeInfo, hi, Builtin.lenOf, Builtin.firstCells, hnc, storeCells]
theorem plain_add (b o j : Nat) : (⟨b, o, none⟩ : Addr).add j = ⟨b, o + j, none⟩ := by unfold Addr.add; split <;> simp_all
theorem app_run {P : Program} (w : World) (base : Nat) (t ty e : TypeId) (i : TypeInfo) (z : Value) (bytes : Nat) (ht : P.underlying t = some (.slice e)) (hi : P.info? e = some i) (hz : i.zero = some z)
  (hsize : i.size = 1) (hby : i.bytes = bytes) (hzs : z.cells.size = 1)
  (v : Value) (n : Nat) (xs : List Value) (hown : w.ownsRow base e 1 v n xs)
  (B : Nat) (A : Option Addr) (m c : Nat) (news : List Value) (hr : Row w B A m news) (h1 : ∀ u ∈ news, u.oneCell' = true)
  (h63 : n + m ≤ maxLen) (hbytes : (n + m) * bytes ≤ 140737488355328) (hbase : base ≤ w.heap.size) :
  ∃ v' w', (Builtin.append_ #[t, t] ty #[v, .slice A m c]).run P w = .ok v' w' ∧ w'.ownsRow base e 1 v' (n + m) (xs ++ news) ∧ w.grownBy w' v.ownBlock ∧
   (v'.ownBlock = v.ownBlock ∨ v'.ownBlock = some w.heap.size) := by
 cases A with
 | none =>
  have hm : m = 0 := by
   rcases Nat.eq_zero_or_pos m with h0 | h0
   ·exact h0
   ·obtain ⟨_, _, h, _⟩ := hr.2 h0
    cases h
  subst hm
  obtain rfl : news = [] := List.eq_nil_of_length_eq_zero hr.1
  exact ⟨v, w, app_nil w base t ty e i ht hi v n xs hown c, by simpa using hown, ⟨rfl, rfl, rfl, Nat.le_refl _, fun _ _ _ => rfl⟩, .inl rfl⟩
 | some ad =>
  have hc : ∀ j u, news[j]? = some u → w.cell? (ad.add j) = some u := by
   intro j u hu
   have hj : j < m := by have := (List.getElem?_eq_some_iff.1 hu).1; rw [hr.1] at this; exact this
   obtain ⟨b, o, h, _, hc⟩ := hr.2 (by omega)
   injection h with h
   subst h
   rw [plain_add]
   exact hc j u hu
  obtain ⟨v', w', hrun, h2, h3, _, h5⟩ := run_append_own_at (P := P) w base t ty e i z 1 bytes ht hi hz hsize hby hzs (by omega) v n xs hown ad m c news (by rw [hr.1]; omega) hc h1 h63 hbytes hbase
  exact ⟨v', w', hrun, h2, h3, h5⟩
theorem wp_app {P : Program} {w : World} {o : Oper} {a : Act} {K : Act → World → Prop} {Q : Exit → Act → World → Prop} (s x : Operand) (t : TypeId)
  (ho : o.op = .call { callee := .builtin .append, args := #[s, x], argTypes := #[t, t] })
  (base : Nat) (e : TypeId) (i : TypeInfo) (z : Value) (bytes : Nat) (ht : P.underlying t = some (.slice e)) (hi : P.info? e = some i) (hz : i.zero = some z)
  (hsize : i.size = 1) (hby : i.bytes = bytes) (hzs : z.cells.size = 1)
  (v : Value) (n : Nat) (xs : List Value) (hs : a.eval s = v) (hown : w.ownsRow base e 1 v n xs)
  (B : Nat) (A : Option Addr) (m c : Nat) (news : List Value) (hx : a.eval x = .slice A m c) (hr : Row w B A m news) (h1 : ∀ u ∈ news, u.oneCell' = true)
  (h63 : n + m ≤ maxLen) (hbytes : (n + m) * bytes ≤ 140737488355328) (hbase : base ≤ w.heap.size)
  (h : ∀ v' w', w'.ownsRow base e 1 v' (n + m) (xs ++ news) → w.grownBy w' v.ownBlock → (v'.ownBlock = v.ownBlock ∨ v'.ownBlock = some w.heap.size) → K (a.put o.dst v') w') : o.wp P a w K Q := by
 obtain ⟨v', w', hrun, h2, h3, h4⟩ := app_run (P := P) w base t o.type e i z bytes ht hi hz hsize hby hzs v n xs hown B A m c news hr h1 h63 hbytes hbase
 unfold Oper.wp execOp
 simp only [ho, resolve, invoke, builtin, Sem.run_bind, Sem.run_pure, Result.andThen_ok, List.map_toArray, List.map_cons, List.map_nil, hs, hx, hrun]
 exact h v' w' h2 h3 h4
theorem wpList_app {P : Program} {w : World} {ops : Array Oper} {rest : List Oper} {o : Oper} {a : Act} {Q : Exit → Act → World → Prop} (hgd : o.guard = none) (s x : Operand) (t : TypeId)
  (ho : o.op = .call { callee := .builtin .append, args := #[s, x], argTypes := #[t, t] })
  (base : Nat) (e : TypeId) (i : TypeInfo) (z : Value) (bytes : Nat) (ht : P.underlying t = some (.slice e)) (hi : P.info? e = some i) (hz : i.zero = some z)
  (hsize : i.size = 1) (hby : i.bytes = bytes) (hzs : z.cells.size = 1)
  (v : Value) (n : Nat) (xs : List Value) (hs : a.eval s = v) (hown : w.ownsRow base e 1 v n xs)
  (B : Nat) (A : Option Addr) (m c : Nat) (news : List Value) (hx : a.eval x = .slice A m c) (hr : Row w B A m news) (h1 : ∀ u ∈ news, u.oneCell' = true)
  (h63 : n + m ≤ maxLen) (hbytes : (n + m) * bytes ≤ 140737488355328) (hbase : base ≤ w.heap.size)
  (h : ∀ v' w', w'.ownsRow base e 1 v' (n + m) (xs ++ news) → w.grownBy w' v.ownBlock → (v'.ownBlock = v.ownBlock ∨ v'.ownBlock = some w.heap.size) → wpList P ops Q rest (a.put o.dst v') w') : wpList P ops Q (o :: rest) a w :=
 wpList_plain hgd fun _ hK => wp_app s x t ho base e i z bytes ht hi hz hsize hby hzs v n xs hs hown B A m c news hx hr h1 h63 hbytes hbase fun v' w' h2 h3 h4 => hK _ _ (h v' w' h2 h3 h4)
theorem bv_one (l : List UInt8) : ∀ u ∈ bv l, u.oneCell' = true := by
 intro u hu
 simp only [bv, List.mem_map] at hu
 obtain ⟨x, _, rfl⟩ := hu
 rfl
theorem own_slice {w : World} {base : Nat} {e : TypeId} {v : Value} {n : Nat} {xs : List Value} (h : w.ownsRow base e 1 v n xs) : ∃ A cap, v = .slice A n cap ∧ n ≤ cap ∧ cap ≤ maxLen ∧ (A = none ∨ ∃ g, A = some ⟨g, 0, none⟩ ∧ base ≤ g) := by
 rcases h.2 with ⟨rfl, rfl⟩ | ⟨g, cap, cur, rfl, hb, _, h1, h2, _⟩
 ·exact ⟨none, 0, rfl, Nat.le_refl _, by unfold maxLen; omega, .inl rfl⟩
 ·exact ⟨_, cap, rfl, h1, h2, .inr ⟨g, rfl, hb⟩⟩
theorem own_lit {w : World} {base g n : Nat} {e : TypeId} (cs : Array Value) (hg : g = w.heap.size) (hb : base ≤ g) (hn : cs.size = n) (hm : n ≤ maxLen) : (w.alloc (.cells cs e)).ownsRow base e 1 (.slice (some ⟨g, 0, none⟩) n n) n cs.toList := by
 subst hg
 exact World.ownsRow_lit w cs n hb hm (by omega)
theorem own_cap {w : World} {base : Nat} {e : TypeId} {A : Option Addr} {n c : Nat} {xs : List Value} (h : w.ownsRow base e 1 (.slice A n c) n xs) : n ≤ c ∧ c ≤ 9223372036854775807 := by
 obtain ⟨_, _, hv, h1, h2, _⟩ := own_slice h
 injection hv with _ _ e
 subst e
 unfold maxLen at h2
 exact ⟨h1, by omega⟩
theorem own_below {w w' : World} {base : Nat} {e : TypeId} {v : Value} {n : Nat} {xs : List Value} (h : w.ownsRow base e 1 v n xs) (hb : Below w.heap.size w w') : w'.ownsRow base e 1 v n xs := by
 refine ⟨h.1, ?_⟩
 rcases h.2 with h0 | ⟨g, cap, cur, hv, hbg, hg, r⟩
 ·exact .inl h0
 ·exact .inr ⟨g, cap, cur, hv, hbg, by rw [hb.block g (Array.getElem?_eq_some_iff.1 hg).1]; exact hg, r⟩
theorem own_base {w : World} {base base' : Nat} {e : TypeId} {v : Value} {n : Nat} {xs : List Value} (h : w.ownsRow base e 1 v n xs) (hb : base' ≤ base) : w.ownsRow base' e 1 v n xs :=
 ⟨h.1, h.2.elim .inl fun ⟨g, cap, cur, hv, hg, r⟩ => .inr ⟨g, cap, cur, hv, Nat.le_trans hb hg, r⟩⟩
theorem below_app {B base : Nat} {w0 w w' : World} {e : TypeId} {v : Value} {n : Nat} {xs : List Value} (h : Below B w0 w) (hB : B ≤ w.heap.size) (hown : w.ownsRow base e 1 v n xs) (hb : B ≤ base) (hg : w.grownBy w' v.ownBlock) : Below B w0 w' :=
 h.grown hg hB fun k hk => Nat.le_trans hb (hown.lt k hk).1
end Go.Proofs.YtmncpgfdpcckpaaGreatDoor
namespace Go.Proofs.YtmncpgfdpcckpaaGreatDoor
open Go.RowKit
theorem Tryz.info5 : (Tryz.prog.info? 5).map (fun i => (i.zero, i.size, i.bytes)) = some (some (.int .u8 0), 1, 1) := by kernel_rfl
theorem four_cells (s : Nat) (h : s < 4294967296) : [Value.int .u8 ((s : Int) / 16777216), Value.int .u8 ((s : Int) / 65536 % 256), Value.int .u8 ((s : Int) / 256 % 256), Value.int .u8 ((s : Int) % 256)] = bv (CrcM.four s) := by
 simp [bv, CrcM.four]
 omega
theorem bv_getD (l : List UInt8) (i : Nat) (h : i < l.length) : (bv l)[i]? = some (.int .u8 ((l.getD i 0).toNat : Int)) := by
 rw [bv_get l i h]; simp [List.getD, h]
theorem below_drewN {B : Nat} {a w : World} (h : Below B a w) (n : Nat) : Below B a (w.drewN n) := ⟨h.os, h.tape, h.output, h.size, h.block⟩
def FreshBytes (B : Nat) (l : List UInt8) (w : World) (e : Ending) (w' : World) : Prop :=
 ∃ A n cap, e = .returned (.slice A n cap) ∧ Hid (n = l.length) ∧ w'.ownsRow B 5 1 (.slice A n cap) n (bv l) ∧ Below B w w'
end Go.Proofs.YtmncpgfdpcckpaaGreatDoor
namespace Go.Proofs.YtmncpgfdpcckpaaGreatDoor
open Go.RowKit
theorem four_any (s : Nat) (hs : s < 2 ^ 32) (w : World) : Calls Tryz.prog 81 #[.int .u32 (s : Int)] w (FreshBytes w.heap.size (CrcM.four s) w) := by
 have hs' : (s : Int) < 4294967296 := by omega
 go_enter Tryz.func81, Tryz.ntmps81
 go_wp2
 go_ret
 refine ⟨some ⟨w.heap.size, 0, none⟩, 4, 4, rfl, rfl, ?_, (Below.refl _ _).alloc (Nat.le_refl _) _⟩
 rw [← four_cells s (by omega)]
 exact own_lit _ rfl (Nat.le_refl _) rfl (by unfold maxLen; omega)
structure BRow where
 A : Option Addr
 n : Nat
 c : Nat
 l : List UInt8
def BRow.val (r : BRow) : Value := .slice r.A r.n r.c
def flat (es : List BRow) : List UInt8 := es.flatMap (·.l)
theorem flat_snoc (es : List BRow) (r : BRow) : flat (es ++ [r]) = flat es ++ r.l := by simp [flat]
def Rows2 (w : World) (B : Nat) (A : Option Addr) (n : Nat) (es : List BRow) : Prop :=
 Row w B A n (es.map BRow.val) ∧ ∀ r ∈ es, Row w B r.A r.n (bv r.l)
theorem Rows2.below {w w' : World} {B n : Nat} {A : Option Addr} {es : List BRow} (h : Rows2 w B A n es) (hb : Below B w w') : Rows2 w' B A n es :=
 ⟨h.1.below hb, fun r hr => (h.2 r hr).below hb⟩
theorem Rows2.at_ {w : World} {B n : Nat} {A : Option Addr} {es : List BRow} (h : Rows2 w B A n es) {k : Nat} (hk : k < n) :
  ∃ b o, A = some ⟨b, o, none⟩ ∧ ∃ r, es[k]? = some r ∧ w.cell? ⟨b, o + k, none⟩ = some (.slice r.A r.n r.c) ∧ Row w B r.A r.n (bv r.l) := by
 have hl : k < es.length := by have := h.1.1; simp at this; omega
 obtain ⟨b, o, e, _, hc⟩ := h.1.cellAt hk (u := es[k].val) (by simp [hl])
 exact ⟨b, o, e, es[k], by simp [hl], hc, h.2 _ (List.getElem_mem hl)⟩
set_option maxHeartbeats 400000 in
theorem join_any (B n cap : Nat) (A : Option Addr) (es : List BRow) (w : World) (hl : Rows2 w B A n es) (hn : n ≤ 1000000000) (hm : (flat es).length ≤ 1000000000) (hB : B ≤ w.heap.size) :
  Calls Tryz.prog 85 #[.slice A n cap] w (FreshBytes w.heap.size (flat es) w) := by
 obtain ⟨i0, hi, hz0, hz1, hz2⟩ := info_parts Tryz.info5
 have hN : es.length = n := by have := hl.1.1; simpa using this
 have HN := Lib.hid hN
 clear hN
 have HM := Lib.hid hm
 clear hm
 go_enter Tryz.func85, Tryz.ntmps85
 go_wp2
 go_loopw [3, 8] (fun v i wr => ∃ k : Nat, k ≤ n ∧ i = .int .i64 k ∧ wr.ownsRow w.heap.size 5 1 v (flat (es.take k)).length (bv (flat (es.take k))) ∧ Below w.heap.size w wr) (fun _ i _ => n - (intOf i).toNat)
 case atStart => exact ⟨0, by omega, rfl, World.ownsRow_nil _ _ _ _, Below.refl _ _⟩
 case round =>
  obtain ⟨k, hk, rfl, hown, hbk⟩ := hrel
  by_cases hlt : k < n
  ·obtain ⟨b, o, rfl, r, hr, hcell, hrow⟩ := (hl.below (hbk.mono hB)).at_ hlt
   have hle : (flat (es.take k)).length + r.n ≤ 1000000000 := by
    have h1 : es.take (k + 1) = es.take k ++ [r] := by
     have hlk := (List.getElem?_eq_some_iff.1 hr).1
     rw [List.take_succ_eq_append_getElem hlk]
     rw [List.getElem?_eq_getElem hlk] at hr
     injection hr with hr
     rw [hr]
    have h2 : (flat (es.take (k + 1))).length ≤ (flat es).length := by
     have : flat es = flat (es.take (k + 1)) ++ flat (es.drop (k + 1)) := by simp only [flat, ← List.flatMap_append, List.take_append_drop]
     rw [this, List.length_append]; omega
    rw [h1, flat_snoc, List.length_append, hrow.blen] at h2
    have := HM.out
    omega
   go_wp2_with (at_builtin; refine wpList_app rfl (.tmp 12) (.tmp 13) 22 rfl w.heap.size 5 i0 (.int .u8 0) 1 Tryz.underlying22 hi hz0 hz1 hz2 rfl _ _ _ rfl hown B r.A r.n r.c (bv r.l) rfl hrow (bv_one _) (by unfold maxLen; omega) (by omega) hbk.size ?_; intro v2 w2 hown2 hg2 hat2)
   have hb2 := below_app hbk hbk.size hown (Nat.le_refl _) hg2
   have hown3 : w2.ownsRow w.heap.size 5 1 v2 (flat (es.take (k + 1))).length (bv (flat (es.take (k + 1)))) := by
    have hlk := (List.getElem?_eq_some_iff.1 hr).1
    rw [List.getElem?_eq_getElem hlk] at hr
    injection hr with hr
    rw [List.take_succ_eq_append_getElem hlk, hr, flat_snoc, bv_append, List.length_append, hrow.blen]
    exact hown2
   clear hown hown2 hg2 hat2
   go_roundw
   case rel => exact ⟨k + 1, by omega, by go_num, hown3, hb2⟩
   case measure => simp [intOf]; omega
  ·have : k = n := by omega
   subst this
   rw [List.take_of_length_le (by rw [HN.out]; omega)] at hown
   obtain ⟨A4, c4, rfl, _⟩ := own_slice hown
   go_wp2
   go_ret
   exact ⟨A4, _, c4, rfl, rfl, hown, hbk⟩
end Go.Proofs.YtmncpgfdpcckpaaGreatDoor
namespace Go.Proofs.YtmncpgfdpcckpaaGreatDoor
namespace BlkM
def piece (l : List UInt8) (s j : Nat) : List UInt8 := (l.drop (j * s)).take s ++ List.replicate (s - ((l.drop (j * s)).take s).length) 0
theorem piece_length (l : List UInt8) (s j : Nat) : (piece l s j).length = s := by
 simp [piece]; omega
def count (length size : Int) : Nat :=
 if length < 1 ∨ 512 < length ∨ size < 1 ∨ 16 < size then 0 else if 64 < (length + size - 1) / size then 0 else ((length + size - 1) / size).toNat
end BlkM
end Go.Proofs.YtmncpgfdpcckpaaGreatDoor
namespace Go.Proofs.YtmncpgfdpcckpaaGreatDoor
open Go.RowKit
set_option maxHeartbeats 400000 in
theorem clone_any (B n cap : Nat) (A : Option Addr) (l : List UInt8) (w : World) (hl : Row w B A n (bv l)) (hn : n ≤ 1000000000) (hB : B ≤ w.heap.size) :
  Calls Tryz.prog 27 #[.slice A n cap] w (FreshBytes w.heap.size l w) := by
 obtain ⟨i0, hi, hz0, hz1, hz2⟩ := info_parts Tryz.info5
 have HB := Lib.hid hl.blen
 have hq : ∀ (w : World) (a : Option Addr) (n c : Nat), (binOp .eql 22 (.slice a n c) (.slice none 0 0)).run Tryz.prog w = .ok (.bool a.isNone) w := fun w a n c => Lib.run_eql_slice_nil w _ _ a n c 0 0 Tryz.underlying22
 cases A with
 | none =>
  have hn0 : n = 0 := by
   rcases Nat.eq_zero_or_pos n with h | h
   ·exact h
   ·obtain ⟨b, o, e, _⟩ := hl.cellAt (k := 0) h (u := (bv l)[0]'(by rw [hl.1]; omega)) (by simp)
    nomatch e
  subst hn0
  obtain rfl : l = [] := List.eq_nil_of_length_eq_zero HB.out
  go_enter Tryz.func27, Tryz.ntmps27
  go_wp2
  go_ret
  exact ⟨none, 0, 0, rfl, rfl, World.ownsRow_nil _ _ _ _, Below.refl _ _⟩
 | some a =>
  go_enter Tryz.func27, Tryz.ntmps27
  have hown0 : (w.alloc (.cells #[] 5)).ownsRow w.heap.size 5 1 (.slice (some ⟨w.heap.size, 0, none⟩) 0 0) 0 [] := own_lit (cs := #[]) rfl (Nat.le_refl _) rfl (by unfold maxLen; omega)
  go_wp2_with (at_builtin; refine wpList_app rfl (.tmp 5) (.tmp 6) 22 rfl w.heap.size 5 i0 (.int .u8 0) 1 Tryz.underlying22 hi hz0 hz1 hz2 rfl _ 0 [] rfl hown0 B (some a) n cap (bv l) rfl (hl.alloc hB _) (bv_one l) (by unfold maxLen; omega) (by omega) (by simp) ?_; intro v2 w2 hown2 hg2 hat2)
  obtain ⟨A2, c2, rfl, _⟩ := own_slice hown2
  have hb := below_app ((Below.refl w.heap.size w).alloc (Nat.le_refl _) (.cells #[] 5)) (by simp) hown0 (Nat.le_refl _) hg2
  go_ret
  exact ⟨A2, 0 + n, c2, rfl, (by show 0 + n = l.length; rw [HB.out]; omega), hown2, hb⟩
end Go.Proofs.YtmncpgfdpcckpaaGreatDoor
namespace Go.Proofs.YtmncpgfdpcckpaaGreatDoor
open Go.RowKit
theorem Tryz.info22 : (Tryz.prog.info? 22).map (fun i => (i.zero, i.size, i.bytes)) = some (some (.slice none 0 0), 1, 24) := by kernel_rfl
theorem count_no (a b : Int) (h : a < 1 ∨ 512 < a ∨ b < 1 ∨ 16 < b) (w : World) : Calls Tryz.prog 66 #[.int .i64 a, .int .i64 b] w fun e w' => e = .returned (.int .i64 0) ∧ w = w' := by
 by_cases h1 : a < 1
 ·go_enter Tryz.func66, Tryz.ntmps66
  go_wp2
  go_ret
  exact ⟨rfl, rfl⟩
 by_cases h2 : 512 < a
 ·go_enter Tryz.func66, Tryz.ntmps66
  go_wp2
  go_ret
  exact ⟨rfl, rfl⟩
 by_cases h3 : b < 1
 ·go_enter Tryz.func66, Tryz.ntmps66
  go_wp2
  go_ret
  exact ⟨rfl, rfl⟩
 have h4 : 16 < b := by omega
 go_enter Tryz.func66, Tryz.ntmps66
 go_wp2
 go_ret
 exact ⟨rfl, rfl⟩
theorem quo_bounds (a b : Int) (ha : 1 ≤ a) (ha2 : a ≤ 512) (hb : 1 ≤ b) (hb2 : b ≤ 16) : 1 ≤ (a + b - 1) / b ∧ (a + b - 1) / b ≤ 527 ∧ a ≤ (a + b - 1) / b * b ∧ ((a + b - 1) / b - 1) * b < a := by
 obtain ⟨n, rfl⟩ : ∃ n : Nat, b = n := ⟨b.toNat, by omega⟩
 have : n = 1 ∨ n = 2 ∨ n = 3 ∨ n = 4 ∨ n = 5 ∨ n = 6 ∨ n = 7 ∨ n = 8 ∨ n = 9 ∨ n = 10 ∨ n = 11 ∨ n = 12 ∨ n = 13 ∨ n = 14 ∨ n = 15 ∨ n = 16 := by omega
 rcases this with rfl | rfl | rfl | rfl | rfl | rfl | rfl | rfl | rfl | rfl | rfl | rfl | rfl | rfl | rfl | rfl <;> omega
theorem count_in (a b : Int) (h1 : 1 ≤ a) (h2 : a ≤ 512) (h3 : 1 ≤ b) (h4 : b ≤ 16) (w : World) : Calls Tryz.prog 66 #[.int .i64 a, .int .i64 b] w fun e w' => e = .returned (.int .i64 (if 64 < (a + b - 1) / b then 0 else (a + b - 1) / b)) ∧ w = w' := by
 obtain ⟨q1, q2, _, _⟩ := quo_bounds a b h1 h2 h3 h4
 by_cases hq : 64 < (a + b - 1) / b
 ·go_enter Tryz.func66, Tryz.ntmps66
  go_wp2
  go_ret
  exact ⟨by simp , rfl⟩
 ·go_enter Tryz.func66, Tryz.ntmps66
  go_wp2
  go_ret
  exact ⟨by simp , rfl⟩
theorem count_any (a b : Int) (w : World) : Calls Tryz.prog 66 #[.int .i64 a, .int .i64 b] w fun e w' => e = .returned (.int .i64 (BlkM.count a b : Nat)) ∧ w = w' := by
 by_cases h : a < 1 ∨ 512 < a ∨ b < 1 ∨ 16 < b
 ·refine (count_no a b h w).mono ?_
  rintro e w' ⟨rfl, rfl⟩
  exact ⟨by simp [BlkM.count, h], rfl⟩
 ·obtain ⟨q1, q2, _, _⟩ := quo_bounds a b (by omega) (by omega) (by omega) (by omega)
  refine (count_in a b (by omega) (by omega) (by omega) (by omega) w).mono ?_
  rintro e w' ⟨rfl, rfl⟩
  refine ⟨?_, rfl⟩
  unfold BlkM.count
  rw [if_neg h]
  split
  ·rfl
  ·congr 2; omega
theorem count_facts (a b : Int) (c : Nat) (h : BlkM.count a b = c) (hc : 0 < c) : 1 ≤ a ∧ a ≤ 512 ∧ 1 ≤ b ∧ b ≤ 16 ∧ c ≤ 64 ∧ a ≤ (c : Int) * b ∧ ((c : Int) - 1) * b < a := by
 unfold BlkM.count at h
 split at h
 ·omega
 ·rename_i h0
  split at h
  ·omega
  ·obtain ⟨q1, q2, q3, q4⟩ := quo_bounds a b (by omega) (by omega) (by omega) (by omega)
   have e : (c : Int) = (a + b - 1) / b := by omega
   rw [e]
   exact ⟨by omega, by omega, by omega, by omega, by omega, q3, q4⟩
end Go.Proofs.YtmncpgfdpcckpaaGreatDoor
namespace Go.Proofs.YtmncpgfdpcckpaaGreatDoor
open Go.RowKit
theorem wpAnyH_grow {P : Program} {md : Region.Mode} {ops : Array Oper} {Q : Exit → Act → World → Prop} {S S' : World → Prop} (h : ∀ w, S' w → S w) :
  ∀ (fuel : Nat) (listed : Array Bool) (a : Act) (w : World), wpAnyH P md ops Q S' fuel listed a w → wpAnyH P md ops Q S fuel listed a w
 | 0, _, _, _, hh => hh
 | fuel + 1, _, _, _, hh => ⟨hh.1, fun i hi => wpOp_mono (fun a' w' h' => ⟨h _ h'.1, wpAnyH_grow h fuel _ a' w' h'.2⟩) (hh.2 i hi)⟩
theorem conv_row {w : World} {B n : Nat} {A : Option Addr} {l : List UInt8} (c : Nat) (h : Row w B A n (bv l)) (hB : B ≤ w.heap.size) : ∀ W, Below w.heap.size w W → (convert 22 9 (.slice A n c)).run Tryz.prog W = .ok (.string ⟨l.toArray⟩) W := fun _W hW =>
 run_string_row (h.below (hW.mono hB)) c 22 9 5 Tryz.underlying22 Tryz.underlying5 Tryz.underlying9
end Go.Proofs.YtmncpgfdpcckpaaGreatDoor
namespace Go.Proofs.YtmncpgfdpcckpaaGreatDoor
namespace CrcM
def put (l : List UInt8) : List UInt8 := l ++ four (sum l)
def right (l : List UInt8) : Prop := 4 ≤ l.length ∧ sum (l.take (l.length - 4)) = number (l.drop (l.length - 4))
theorem put_length (l : List UInt8) : (put l).length = l.length + 4 := by simp [put, four]
theorem put_take (l : List UInt8) : (put l).take ((put l).length - 4) = l := by
 rw [put_length, show l.length + 4 - 4 = l.length by omega, put, List.take_left]
theorem put_right (l : List UInt8) : right (put l) := by
 refine ⟨by rw [put_length]; omega, ?_⟩
 rw [put_take, put_length, show l.length + 4 - 4 = l.length by omega, put, List.drop_left, number_four _ (sum_lt l)]
end CrcM
end Go.Proofs.YtmncpgfdpcckpaaGreatDoor
namespace Go.Proofs.YtmncpgfdpcckpaaGreatDoor
open Go.RowKit
def isNum (k x : Nat) (l : List UInt8) : Prop := x = CrcM.number (l.take k) ∧ x < 2 ^ (8 * k)
theorem isNum_next {k x : Nat} {l : List UInt8} (h : isNum k x l) (hk : k < l.length) (h4 : k < 4) :
  ∃ y : Nat, Value.int .u32 (bits .or .u32 (IntKind.u32.wrap ((x : Int) * 256)) (l[k].toNat : Int)) = .int .u32 (y : Int) ∧ isNum (k + 1) y l := by
 obtain ⟨e, hx⟩ := h
 have hb := CrcM.b_lt l[k]
 have hx24 : x < 2 ^ 24 := Nat.lt_of_lt_of_le hx (Nat.pow_le_pow_right (by omega) (by omega))
 have hw : IntKind.u32.wrap ((x : Int) * 256) = ((x * 256 : Nat) : Int) := by rw [IntKind.wrap_u32]; omega
 have ho : x * 256 ||| l[k].toNat = x * 256 + l[k].toNat := nat_join 8 _ _ (by omega) (by omega)
 refine ⟨x * 256 + l[k].toNat, ?_, ?_, ?_⟩
 ·rw [hw, u32_or_nat _ _ (by omega) (by omega), ho]
 ·rw [List.take_succ_eq_append_getElem hk, CrcM.number, List.foldl_append, ← CrcM.number, ← e]; rfl
 ·rw [show 8 * (k + 1) = 8 * k + 8 by omega, Nat.pow_add]; omega
theorem row_drop4 {w : World} {B k : Nat} {A : Option Addr} {xs : List Value} (h : Row w B A (k + 4) xs) : Row w B (A.map fun x => x.add k) 4 (xs.drop k) := by
 have := h.cut (k := k) (m := 4) (Nat.le_refl _)
 rwa [List.take_of_length_le (by rw [List.length_drop, h.1]; omega)] at this
end Go.Proofs.YtmncpgfdpcckpaaGreatDoor
namespace Go.Proofs.YtmncpgfdpcckpaaGreatDoor
open Go.RowKit
def fill (n : Nat) (f : Nat → UInt8) (k : Nat) : List UInt8 := (List.range n).map fun j => if j < k then f j else 0
theorem fill_length (n : Nat) (f : Nat → UInt8) (k : Nat) : (fill n f k).length = n := by simp [fill]
theorem fill_zero (n : Nat) (f : Nat → UInt8) : fill n f 0 = List.replicate n 0 := by
 apply List.ext_getElem
 ·simp [fill]
 ·intro i h1 h2; simp [fill]
theorem fill_get (n : Nat) (f : Nat → UInt8) (k j : Nat) (h : j < n) : (fill n f k)[j]? = some (if j < k then f j else 0) := by
 simp [fill, h]
theorem fill_set (n : Nat) (f : Nat → UInt8) (k : Nat) (h : k < n) : (fill n f k).set k (f k) = fill n f (k + 1) := by
 apply List.ext_getElem?
 intro j
 rw [List.getElem?_set]
 by_cases hj : j < n
 ·rw [fill_get n f k j hj, fill_get n f (k + 1) j hj]
  by_cases e : k = j
  ·subst e; simp [fill_length, h]
  ·rw [if_neg e]
   congr 1
   by_cases h1 : j < k
   ·rw [if_pos h1, if_pos (by omega)]
   ·rw [if_neg h1, if_neg (by omega)]
 ·have h1 : (fill n f k)[j]? = none := List.getElem?_eq_none (by rw [fill_length]; omega)
  have h2 : (fill n f (k + 1))[j]? = none := List.getElem?_eq_none (by rw [fill_length]; omega)
  rw [h1, h2]
  split
  ·split
   ·rename_i h3; rw [fill_length] at h3; omega
   ·rfl
  ·rfl
theorem bv_fill_set (n : Nat) (f : Nat → UInt8) (k : Nat) (h : k < n) : (bv (fill n f k)).set k (.int .u8 ((f k).toNat : Int)) = bv (fill n f (k + 1)) := by
 rw [← fill_set n f k h]; simp [bv, List.map_set]
end Go.Proofs.YtmncpgfdpcckpaaGreatDoor
namespace Go.Proofs.YtmncpgfdpcckpaaGreatDoor
open Go.RowKit
theorem bits_odd (x : Nat) (h : x < 4294967296) : (bits .and .u32 (x : Int) 1 == 1) = decide (x % 2 = 1) := by
 rw [show (1 : Int) = ((1 : Nat) : Int) from rfl, u32_and_nat x 1 h (by decide), Nat.and_one_is_mod]
 by_cases h2 : x % 2 = 1
 ·rw [h2]; rfl
 ·have : x % 2 = 0 := by omega
  rw [this]; rfl
theorem bits_poly (x : Nat) (h : x < 4294967296) : bits .xor .u32 ((x : Int) / 2) 3988292384 = ((x / 2 ^^^ CrcM.poly : Nat) : Int) := by
 have e : ((x : Int) / 2) = ((x / 2 : Nat) : Int) := by omega
 rw [e]
 exact u32_xor_nat (x / 2) CrcM.poly (by omega) (by decide)
def isRounds (c k x : Nat) : Prop := x = CrcM.rounds k c ∧ x < 4294967296
theorem isRounds_odd {c k x : Nat} (h : isRounds c k x) (ho : (bits .and .u32 (x : Int) 1 == 1) = true) :
  ∃ y : Nat, Value.int .u32 (bits .xor .u32 ((x : Int) / 2) 3988292384) = .int .u32 (y : Int) ∧ isRounds c (k + 1) y := by
 obtain ⟨hx, hl⟩ := h
 rw [bits_odd x hl] at ho
 have h1 : x % 2 = 1 := of_decide_eq_true ho
 refine ⟨_, by rw [bits_poly x hl], ?_, ?_⟩
 ·show _ = CrcM.bit1 (CrcM.rounds k c)
  rw [← hx]; unfold CrcM.bit1; rw [if_pos h1]
 ·have := CrcM.bit1_lt x hl
  unfold CrcM.bit1 at this; rwa [if_pos h1] at this
theorem isRounds_even {c k x : Nat} (h : isRounds c k x) (ho : (bits .and .u32 (x : Int) 1 == 1) = false) :
  ∃ y : Nat, Value.int .u32 ((x : Int) / 2) = .int .u32 (y : Int) ∧ isRounds c (k + 1) y := by
 obtain ⟨hx, hl⟩ := h
 rw [bits_odd x hl] at ho
 have h1 : ¬ x % 2 = 1 := of_decide_eq_false ho
 refine ⟨x / 2, by rw [show ((x : Int) / 2) = ((x / 2 : Nat) : Int) by omega], ?_, by omega⟩
 show _ = CrcM.bit1 (CrcM.rounds k c)
 rw [← hx]; unfold CrcM.bit1; rw [if_neg h1, Nat.xor_zero]
set_option maxHeartbeats 400000 in
theorem step_any (c : Nat) (hc : c < 2 ^ 32) (w : World) :
  Calls Tryz.prog 130 #[.int .u32 (c : Int)] w fun e w' => e = .returned (.int .u32 (CrcM.step c : Nat)) ∧ w = w' := by
 have HC : Hid (isRounds c 0 c) := ⟨rfl, by omega⟩
 clear hc
 go_enter Tryz.func130, Tryz.ntmps130
 go_wp2
 go_loop [0, 4] (fun v i => ∃ (k x : Nat), k ≤ 8 ∧ Hid (isRounds c k x) ∧ i = .int .i64 k ∧ v = .int .u32 x) (fun _ i => 8 - (intOf i).toNat)
 case atStart => exact ⟨0, c, by omega, HC, rfl, rfl⟩
 case round =>
  obtain ⟨k, x, hk, hx, rfl, rfl⟩ := hrel
  go_wp2
  ·obtain ⟨y, hy, hr⟩ := isRounds_odd hx.out ‹_›
   go_round
   case rel => exact ⟨k + 1, y, by omega, hr, by go_num, hy⟩
   case measure => simp [intOf]; omega
  ·obtain ⟨y, hy, hr⟩ := isRounds_even hx.out ‹_›
   go_round
   case rel => exact ⟨k + 1, y, by omega, hr, by go_num, hy⟩
   case measure => simp [intOf]; omega
  ·have h8 : k = 8 := by omega
   subst h8
   have hx' := hx.out.1
   subst hx'
   go_ret
   exact ⟨rfl, rfl⟩
theorem xor_full (c : Nat) (h : c < 2 ^ 32) : bits .xor .u32 IntKind.u32.max (c : Int) = ((c ^^^ CrcM.full : Nat) : Int) := by
 rw [show IntKind.u32.max = ((4294967295 : Nat) : Int) from rfl, u32_xor_nat 4294967295 c (by decide) h, Nat.xor_comm]; rfl
theorem xor_byte (c : Nat) (x : UInt8) (h : c < 2 ^ 32) : bits .xor .u32 (c : Int) (x.toNat : Int) = ((c ^^^ x.toNat : Nat) : Int) :=
 u32_xor_nat c x.toNat h (CrcM.byte_lt x)
def isReg (s k r : Nat) (l : List UInt8) : Prop := r = CrcM.reg (s ^^^ CrcM.full) (l.take k) ∧ r < 2 ^ 32
theorem isReg_next {s k r : Nat} {l : List UInt8} (h : isReg s k r l) (hk : k < l.length) : isReg s (k + 1) (CrcM.step (r ^^^ l[k].toNat)) l := by
 obtain ⟨e, hl⟩ := h
 refine ⟨?_, CrcM.step_lt _ (CrcM.xor_lt _ _ _ hl (CrcM.byte_lt _))⟩
 rw [List.take_succ_eq_append_getElem hk, CrcM.reg_append, ← e]; rfl
set_option maxHeartbeats 400000 in
theorem add_any (s : Nat) (hs : s < 2 ^ 32) (B n cap : Nat) (A : Option Addr) (l : List UInt8) (w : World) (hl : Row w B A n (bv l)) (hn : n ≤ 9223372036854775807) :
  Calls Tryz.prog 96 #[.int .u32 (s : Int), .slice A n cap] w fun e w' => e = .returned (.int .u32 (CrcM.add s l : Nat)) ∧ w = w' := by
 have HS : Hid (isReg s 0 (s ^^^ CrcM.full) l) := ⟨rfl, CrcM.xor_lt _ _ _ hs CrcM.full_lt⟩
 have HX := Lib.hid (xor_full s hs)
 have HN := Lib.hid hl.blen
 clear hs
 go_enter Tryz.func96, Tryz.ntmps96
 go_wp2
 go_loop [5, 12] (fun v i => ∃ (k r : Nat), k ≤ n ∧ Hid (isReg s k r l) ∧ i = .int .i64 k ∧ v = .int .u32 r) (fun _ i => n - (intOf i).toNat)
 case atStart => exact ⟨0, s ^^^ CrcM.full, by omega, HS, rfl, by rw [HX.out]⟩
 case round =>
  obtain ⟨k, r, hk, hr, rfl, rfl⟩ := hrel
  by_cases hlt : k < n
  ·obtain ⟨b, o, rfl, _, hkl, hcell⟩ := hl.byteAt hlt
   have HY := Lib.hid (xor_byte r l[k] hr.out.2)
   have HZ : Hid (r ^^^ l[k].toNat < 2 ^ 32) := CrcM.xor_lt _ _ _ hr.out.2 (CrcM.byte_lt _)
   have hb : (l[k].toNat : Int) ≤ 255 := by have := CrcM.b_lt l[k]; omega
   go_wp2_with fail
   rw [HY.out]
   refine (step_any _ HZ.out _).mono ?_
   rintro e w' ⟨rfl, rfl⟩
   go_wp2
   go_round
   case rel => exact ⟨k + 1, _, by omega, isReg_next hr.out hkl, by go_num, rfl⟩
   case measure => simp [intOf]; omega
  ·have : k = n := by omega
   subst this
   have HY := Lib.hid (xor_full r hr.out.2)
   go_wp2
   go_ret
   refine ⟨?_, rfl⟩
   rw [HY.out]
   have e := hr.out.1
   rw [List.take_of_length_le (by rw [HN.out]; omega)] at e
   rw [e]; rfl
theorem sum_any (B n cap : Nat) (A : Option Addr) (l : List UInt8) (w : World) (hl : Row w B A n (bv l)) (hn : n ≤ 9223372036854775807) :
  Calls Tryz.prog 60 #[.slice A n cap] w fun e w' => e = .returned (.int .u32 (CrcM.sum l : Nat)) ∧ w = w' := by
 go_enter Tryz.func60, Tryz.ntmps60
 go_wp2_with fail
 refine (add_any 0 (by decide) B n cap A l _ hl hn).mono ?_
 rintro e w' ⟨rfl, rfl⟩
 go_wp2
 go_ret
 exact ⟨rfl, rfl⟩
end Go.Proofs.YtmncpgfdpcckpaaGreatDoor
namespace Go.Proofs.YtmncpgfdpcckpaaGreatDoor
open Go.RowKit
set_option maxHeartbeats 400000 in
theorem number_any (B cap : Nat) (A : Option Addr) (l : List UInt8) (w : World) (hl : Row w B A 4 (bv l)) :
  Calls Tryz.prog 61 #[.slice A 4 cap] w fun e w' => e = .returned (.int .u32 (CrcM.number l : Nat)) ∧ w = w' := by
 have HS : Hid (isNum 0 0 l) := ⟨rfl, by decide⟩
 have HN := Lib.hid hl.blen
 go_enter Tryz.func61, Tryz.ntmps61
 go_wp2
 go_loop [3, 8] (fun v i => ∃ (k x : Nat), k ≤ 4 ∧ Hid (isNum k x l) ∧ i = .int .i64 k ∧ v = .int .u32 x) (fun _ i => 4 - (intOf i).toNat)
 case atStart => exact ⟨0, 0, by omega, HS, rfl, rfl⟩
 case round =>
  obtain ⟨k, x, hk, hx, rfl, rfl⟩ := hrel
  by_cases hlt : k < 4
  ·obtain ⟨b, o, rfl, _, hkl, hcell⟩ := hl.byteAt hlt
   obtain ⟨y, hy, hr⟩ := isNum_next hx.out hkl hlt
   have HY := Lib.hid hy
   clear hy
   have hb : (l[k].toNat : Int) ≤ 255 := by have := CrcM.b_lt l[k]; omega
   go_wp2
   go_round
   case rel => exact ⟨k + 1, y, by omega, hr, by go_num, HY.out⟩
   case measure => simp [intOf]; omega
  ·have : k = 4 := by omega
   subst this
   go_wp2
   go_ret
   refine ⟨?_, rfl⟩
   have e := hx.out.1
   rw [List.take_of_length_le (by rw [HN.out]; omega)] at e
   rw [e]; rfl
def RightNo (w : World) (e : Ending) (w' : World) : Prop := e = .returned (.tuple #[.slice none 0 0, .bool false]) ∧ Below w.heap.size w w'
def RightYes (m : List UInt8) (w : World) (e : Ending) (w' : World) : Prop :=
 ∃ A n cap, e = .returned (.tuple #[.slice A n cap, .bool true]) ∧ Hid (n = m.length) ∧ w'.ownsRow w.heap.size 5 1 (.slice A n cap) n (bv m) ∧ Below w.heap.size w w'
set_option maxHeartbeats 400000 in
abbrev isRight (l : List UInt8) : Prop := CrcM.right l
theorem right_no (B n cap : Nat) (A : Option Addr) (l : List UInt8) (w : World) (hl : Row w B A n (bv l)) (hn : n ≤ cap) (hcap : cap ≤ 9223372036854775807) (_ : B ≤ w.heap.size) (hR : ¬ isRight l) :
  Calls Tryz.prog 39 #[.slice A n cap] w (RightNo w) := by
 have HR := Lib.hid hR
 clear hR
 by_cases h4 : n < 4
 ·go_enter Tryz.func39, Tryz.ntmps39
  go_wp2
  go_ret2
  exact ⟨rfl, Below.refl _ _⟩
 ·have hbl := hl.blen
  obtain ⟨k, rfl⟩ : ∃ k, n = k + 4 := ⟨n - 4, by omega⟩
  have hne : CrcM.sum (l.take k) ≠ CrcM.number (l.drop k) := by
   intro h
   refine HR.out ⟨by omega, ?_⟩
   rw [hbl]; exact h
  have HL := Lib.hid hbl
  have HNE : Hid (((CrcM.sum (l.take k) : Nat) : Int) != ((CrcM.number (l.drop k) : Nat) : Int)) := by
   exact bne_iff_ne.2 fun h => hne (Int.ofNat.inj h)
  have hk : (k : Int) ≤ cap := by omega
  clear hbl hne
  go_enter Tryz.func39, Tryz.ntmps39
  go_wp2
  go_quiet (fail)
  go_wp2_with fail
  refine (sum_any B k cap A (l.take k) _ (show Row _ B A k (bv (l.take k)) by rw [← bv_take]; exact (hl.head (by omega)).drewN nq) (by omega)).mono ?_
  rintro e w' ⟨rfl, rfl⟩
  go_wp2_with fail
  refine (number_any B _ _ (l.drop k) _ (show Row _ B _ 4 (bv (l.drop k)) by rw [← bv_drop]; exact (row_drop4 hl).drewN nq)).mono ?_
  rintro e w' ⟨rfl, rfl⟩
  have hne := HNE.out
  go_wp2
  go_ret2
  exact ⟨rfl, below_drewN (Below.refl _ _) nq⟩
set_option maxHeartbeats 400000 in
theorem right_yes (B n cap : Nat) (A : Option Addr) (l : List UInt8) (w : World) (hl : Row w B A n (bv l)) (hn : n ≤ cap) (_ : cap ≤ 9223372036854775807) (hs : n ≤ 1000000000000) (_ : B ≤ w.heap.size) (hR : isRight l) :
  Calls Tryz.prog 39 #[.slice A n cap] w (RightYes (l.take (l.length - 4)) w) := by
 obtain ⟨i0, hi, hz0, hz1, hz2⟩ := info_parts Tryz.info5
 obtain ⟨hR1, hR2⟩ := hR
 have hbl := hl.blen
 obtain ⟨k, rfl⟩ : ∃ k, n = k + 4 := ⟨n - 4, by omega⟩
 rw [hbl, show k + 4 - 4 = k by omega] at hR2 ⊢
 have HL := Lib.hid hbl
 have HNE : Hid ((((CrcM.sum (l.take k) : Nat) : Int) != ((CrcM.number (l.drop k) : Nat) : Int)) = false) := by
  rw [hR2]; exact bne_self_eq_false _
 have hk : (k : Int) ≤ cap := by omega
 clear hbl hR1 hR2
 go_enter Tryz.func39, Tryz.ntmps39
 go_wp2
 go_quiet (fail)
 go_wp2_with fail
 have hrow : Row (w.drewN nq) B A k (bv (l.take k)) := by rw [← bv_take]; exact (hl.head (by omega)).drewN nq
 refine (sum_any B k cap A (l.take k) _ hrow (by omega)).mono ?_
 rintro e w' ⟨rfl, rfl⟩
 go_wp2_with fail
 refine (number_any B _ _ (l.drop k) _ (show Row _ B _ 4 (bv (l.drop k)) by rw [← bv_drop]; exact (row_drop4 hl).drewN nq)).mono ?_
 rintro e w' ⟨rfl, rfl⟩
 have hne := HNE.out
 have hb0 : Below w.heap.size w (w.drewN nq) := below_drewN (Below.refl _ _) nq
 have hs0 : w.heap.size ≤ (w.drewN nq).heap.size := hb0.size
 go_wp2_with (at_builtin; refine wpList_app rfl _ _ 22 rfl w.heap.size 5 i0 (.int .u8 0) 1 Tryz.underlying22 hi hz0 hz1 hz2 rfl _ 0 [] rfl (World.ownsRow_nil _ _ _ _) B A k cap (bv (l.take k)) rfl hrow (bv_one _) (by unfold maxLen; omega) (by omega) hs0 ?_; intro v2 w2 hown2 hg2 hat2)
 obtain ⟨A2, c2, rfl, _⟩ := own_slice hown2
 go_ret2
 have el : 0 + k = (l.take k).length := by rw [List.length_take, HL.out]; omega
 have hb2 : Below w.heap.size w w2 := hb0.grown hg2 hb0.size (by intro g h; nomatch h)
 rw [List.nil_append] at hown2
 exact ⟨A2, 0 + k, c2, rfl, el, hown2, hb2⟩
end Go.Proofs.YtmncpgfdpcckpaaGreatDoor
