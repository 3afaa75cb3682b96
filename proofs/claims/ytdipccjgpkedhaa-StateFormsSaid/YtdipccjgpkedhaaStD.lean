/- A state, a manifest as data. -/
import Derived.Test.YtdipccjgpkedhaaHeavy
import Derived.Test.YtdipccjgpkedhaaManPlain
namespace Go.Proofs.Ytdipccjgpkedhaa
open Go.RowKit
structure LMan where
  s : Nat
  v : Nat
  l : Int
  z : Int
  p : Int
  h : List UInt8
structure LSt where
  act : Int
  trial : Int
  flo : Nat
  gen : Nat
  v0 : Nat
  l0 : Int
  h0 : List UInt8
  v1 : Nat
  l1 : Int
  h1 : List UInt8
  on : Bool
  m : LMan
def LMan.cells (M : LMan) (A : Option Addr) (c : Nat) : Array Value := #[.int .u32 (M.s : Int), .int .u32 (M.v : Int), .int .i64 M.l, .int .i64 M.z, .int .i64 M.p, .slice A M.h.length c]
def LSt.cells (L : LSt) (A0 : Option Addr) (c0 : Nat) (A1 : Option Addr) (c1 : Nat) (A : Option Addr) (c : Nat) : Array Value :=
  #[.int .i64 L.act, .int .i64 L.trial, .int .u32 (L.flo : Int), .int .u32 (L.gen : Int), .int .u32 (L.v0 : Int), .int .i64 L.l0, .slice A0 L.h0.length c0, .int .u32 (L.v1 : Int), .int .i64 L.l1, .slice A1 L.h1.length c1, .bool L.on, .int .u32 (L.m.s : Int), .int .u32 (L.m.v : Int), .int .i64 L.m.l, .int .i64 L.m.z, .int .i64 L.m.p, .slice A L.m.h.length c]
/-- as Row; its block is one of which P says so -/
def RowP (w : World) (P : Nat → Prop) (A : Option Addr) (n : Nat) (xs : List Value) : Prop :=
  xs.length = n ∧ (0 < n → ∃ b o, A = some ⟨b, o, none⟩ ∧ b < w.heap.size ∧ P b ∧ ∀ j v, xs[j]? = some v → w.cell? ⟨b, o + j, none⟩ = some v)
section
variable {w w' : World} {P P' : Nat → Prop} {n : Nat} {A : Option Addr} {xs : List Value}
theorem RowP.keep (h : RowP w P A n xs) (hs : w.heap.size ≤ w'.heap.size) (hk : ∀ b, P b → b < w.heap.size → w'.heap[b]? = w.heap[b]?) : RowP w' P A n xs :=
  ⟨h.1, fun hn => by
    obtain ⟨b, o, e, hlt, h1, hc⟩ := h.2 hn
    exact ⟨b, o, e, Nat.lt_of_lt_of_le hlt hs, h1, fun j v hv => (World.cell?_of_block (a := ⟨b, o + j, none⟩) (hk b h1 hlt)).trans (hc j v hv)⟩⟩
theorem RowP.below (h : RowP w P A n xs) (hb : Below w.heap.size w w') : RowP w' P A n xs := h.keep hb.size fun b _ hb2 => hb.block b hb2
theorem RowP.imp (h : RowP w P A n xs) (hp : ∀ b, b < w.heap.size → P b → P' b) : RowP w P' A n xs :=
  ⟨h.1, fun hn => by obtain ⟨b, o, e, hb, h1, hc⟩ := h.2 hn; exact ⟨b, o, e, hb, hp b hb h1, hc⟩⟩
theorem RowP.row (h : RowP w P A n xs) : Row w w.heap.size A n xs :=
  ⟨h.1, fun hn => by obtain ⟨b, o, e, hb, _, hc⟩ := h.2 hn; exact ⟨b, o, e, hb, hc⟩⟩
theorem RowP.of_row (h : Row w w.heap.size A n xs) : RowP w (fun _ => True) A n xs :=
  ⟨h.1, fun hn => by obtain ⟨b, o, e, hb, hc⟩ := h.2 hn; exact ⟨b, o, e, hb, trivial, hc⟩⟩
theorem RowP.nil (w : World) (P : Nat → Prop) (A : Option Addr) : RowP w P A 0 (bv []) := ⟨rfl, fun h => absurd h (Nat.lt_irrefl _)⟩
theorem RowP.of_f {lo : Nat} (h : RowF w lo A n xs) : RowP w (fun b => lo ≤ b) A n xs := h
end
/-- these cells are the manifest M, its bytes lie in blocks of which P says so -/
def IsMan (w : World) (P : Nat → Prop) (cs : Array Value) (M : LMan) : Prop := ∃ A c, cs = M.cells A c ∧ RowP w P A M.h.length (bv M.h)
/-- these cells are the state L, its bytes lie in blocks of which P says so -/
def IsSt (w : World) (P : Nat → Prop) (cs : Array Value) (L : LSt) : Prop :=
  ∃ A0 c0 A1 c1 A c, cs = L.cells A0 c0 A1 c1 A c ∧ RowP w P A0 L.h0.length (bv L.h0) ∧ RowP w P A1 L.h1.length (bv L.h1) ∧ RowP w P A L.m.h.length (bv L.m.h)
section
variable {w w' : World} {P P' : Nat → Prop} {cs : Array Value} {L : LSt} {M : LMan}
theorem IsMan.below (h : IsMan w P cs M) (hb : Below w.heap.size w w') : IsMan w' P cs M := by
  obtain ⟨A, c, e, r⟩ := h; exact ⟨A, c, e, r.below hb⟩
theorem IsMan.imp (h : IsMan w P cs M) (hp : ∀ b, b < w.heap.size → P b → P' b) : IsMan w P' cs M := by
  obtain ⟨A, c, e, r⟩ := h; exact ⟨A, c, e, r.imp hp⟩
theorem IsMan.keep (h : IsMan w P cs M) (hs : w.heap.size ≤ w'.heap.size) (hk : ∀ b, P b → b < w.heap.size → w'.heap[b]? = w.heap[b]?) : IsMan w' P cs M := by
  obtain ⟨A, c, e, r⟩ := h; exact ⟨A, c, e, r.keep hs hk⟩
theorem IsSt.below (h : IsSt w P cs L) (hb : Below w.heap.size w w') : IsSt w' P cs L := by
  obtain ⟨A0, c0, A1, c1, A, c, e, r0, r1, r2⟩ := h; exact ⟨A0, c0, A1, c1, A, c, e, r0.below hb, r1.below hb, r2.below hb⟩
theorem IsSt.imp (h : IsSt w P cs L) (hp : ∀ b, b < w.heap.size → P b → P' b) : IsSt w P' cs L := by
  obtain ⟨A0, c0, A1, c1, A, c, e, r0, r1, r2⟩ := h; exact ⟨A0, c0, A1, c1, A, c, e, r0.imp hp, r1.imp hp, r2.imp hp⟩
theorem IsSt.keep (h : IsSt w P cs L) (hs : w.heap.size ≤ w'.heap.size) (hk : ∀ b, P b → b < w.heap.size → w'.heap[b]? = w.heap[b]?) : IsSt w' P cs L := by
  obtain ⟨A0, c0, A1, c1, A, c, e, r0, r1, r2⟩ := h; exact ⟨A0, c0, A1, c1, A, c, e, r0.keep hs hk, r1.keep hs hk, r2.keep hs hk⟩
theorem IsSt.size (h : IsSt w P cs L) : cs.size = 17 := by obtain ⟨A0, c0, A1, c1, A, c, rfl, _⟩ := h; rfl
theorem IsMan.size (h : IsMan w P cs M) : cs.size = 6 := by obtain ⟨A, c, rfl, _⟩ := h; rfl
theorem IsSt.one (h : IsSt w P cs L) : cs.all (·.oneCell') = true := by obtain ⟨A0, c0, A1, c1, A, c, rfl, _⟩ := h; simp [LSt.cells, Value.oneCell']
theorem IsMan.one (h : IsMan w P cs M) : cs.all (·.oneCell') = true := by obtain ⟨A, c, rfl, _⟩ := h; simp [LMan.cells, Value.oneCell']
theorem IsSt.inf (h : IsSt w P cs L) : (Try.prog.info? 30).map (·.size) = some cs.size := by rw [h.size]; kernel_rfl
theorem IsMan.inf (h : IsMan w P cs M) : (Try.prog.info? 28).map (·.size) = some cs.size := by rw [h.size]; kernel_rfl
theorem IsSt.c0 (h : IsSt w P cs L) : cs[0]? = some (.int .i64 L.act) := by obtain ⟨A0, c0, A1, c1, A, c, rfl, _⟩ := h; rfl
theorem IsSt.c1 (h : IsSt w P cs L) : cs[1]? = some (.int .i64 L.trial) := by obtain ⟨A0, c0, A1, c1, A, c, rfl, _⟩ := h; rfl
theorem IsSt.c2 (h : IsSt w P cs L) : cs[2]? = some (.int .u32 (L.flo : Int)) := by obtain ⟨A0, c0, A1, c1, A, c, rfl, _⟩ := h; rfl
theorem IsSt.c3 (h : IsSt w P cs L) : cs[3]? = some (.int .u32 (L.gen : Int)) := by obtain ⟨A0, c0, A1, c1, A, c, rfl, _⟩ := h; rfl
theorem IsSt.c4 (h : IsSt w P cs L) : cs[4]? = some (.int .u32 (L.v0 : Int)) := by obtain ⟨A0, c0, A1, c1, A, c, rfl, _⟩ := h; rfl
theorem IsSt.c5 (h : IsSt w P cs L) : cs[5]? = some (.int .i64 L.l0) := by obtain ⟨A0, c0, A1, c1, A, c, rfl, _⟩ := h; rfl
theorem IsSt.c7 (h : IsSt w P cs L) : cs[7]? = some (.int .u32 (L.v1 : Int)) := by obtain ⟨A0, c0, A1, c1, A, c, rfl, _⟩ := h; rfl
theorem IsSt.c8 (h : IsSt w P cs L) : cs[8]? = some (.int .i64 L.l1) := by obtain ⟨A0, c0, A1, c1, A, c, rfl, _⟩ := h; rfl
theorem IsSt.c10 (h : IsSt w P cs L) : cs[10]? = some (.bool L.on) := by obtain ⟨A0, c0, A1, c1, A, c, rfl, _⟩ := h; rfl
theorem IsSt.c12 (h : IsSt w P cs L) : cs[12]? = some (.int .u32 (L.m.v : Int)) := by obtain ⟨A0, c0, A1, c1, A, c, rfl, _⟩ := h; rfl
end
theorem st_in {W : World} {act trial : Int} {flo gen v0 : Nat} {l0 : Int} {A0 : Option Addr} {n0 c0 : Nat} {v1 : Nat} {l1 : Int} {A1 : Option Addr} {n1 c1 : Nat} {on : Bool} {s v : Nat} {l z p : Int} {A : Option Addr} {n c : Nat} {h0 h1 h : List UInt8} (r0 : Row W W.heap.size A0 n0 (bv h0)) (r1 : Row W W.heap.size A1 n1 (bv h1)) (r : Row W W.heap.size A n (bv h)) :
    IsSt W (fun _ => True) #[.int .i64 act, .int .i64 trial, .int .u32 (flo : Int), .int .u32 (gen : Int), .int .u32 (v0 : Int), .int .i64 l0, .slice A0 n0 c0, .int .u32 (v1 : Int), .int .i64 l1, .slice A1 n1 c1, .bool on, .int .u32 (s : Int), .int .u32 (v : Int), .int .i64 l, .int .i64 z, .int .i64 p, .slice A n c] ⟨act, trial, flo, gen, v0, l0, h0, v1, l1, h1, on, ⟨s, v, l, z, p, h⟩⟩ := by
  have e0 := r0.blen; have e1 := r1.blen; have e := r.blen
  subst e0 e1 e
  exact ⟨A0, c0, A1, c1, A, c, rfl, .of_row r0, .of_row r1, .of_row r⟩
theorem man_in {W : World} {s v : Nat} {l z p : Int} {A : Option Addr} {n c : Nat} {h : List UInt8} (r : Row W W.heap.size A n (bv h)) : IsMan W (fun _ => True) #[.int .u32 (s : Int), .int .u32 (v : Int), .int .i64 l, .int .i64 z, .int .i64 p, .slice A n c] ⟨s, v, l, z, p, h⟩ := by
  have e := r.blen
  subst e
  exact ⟨A, c, rfl, .of_row r⟩
def LMan.zero : LMan := ⟨0, 0, 0, 0, 0, []⟩
def LSt.zero : LSt := ⟨0, 0, 0, 0, 0, 0, [], 0, 0, [], false, LMan.zero⟩
theorem zero_is (w : World) (P : Nat → Prop) : IsSt w P zState LSt.zero := ⟨none, 0, none, 0, none, 0, rfl, .nil _ _ _, .nil _ _ _, .nil _ _ _⟩
def LMan.may (M : LMan) : Bool := manB M.l M.z M.p M.h.length
def LMan.eqb (M N : LMan) : Bool := decide (M.s = N.s ∧ M.v = N.v ∧ M.l = N.l ∧ M.z = N.z ∧ M.p = N.p ∧ M.h = N.h)
def LSt.may (L : LSt) : Bool := mayB2 L.act L.trial L.v0 L.l0 L.h0 L.v1 L.l1 L.h1 L.on L.m.s L.m.v L.m.l L.m.z L.m.p L.m.h
def LSt.drop (L : LSt) : LSt := if L.may then { L with on := false, m := LMan.zero } else LSt.zero
def LSt.light (L : LSt) : Prop := L.h0.length ≤ 100 ∧ L.h1.length ≤ 100 ∧ L.m.h.length ≤ 100
theorem light_of_may {L : LSt} (h : L.may = true) : L.light := by
  unfold LSt.light
  by_cases hh : 100 < L.h0.length ∨ 100 < L.h1.length ∨ 100 < L.m.h.length
  · have := heavy_not L.act L.trial L.v0 L.l0 L.v1 L.l1 L.on L.m.s L.m.v L.m.l L.m.z L.m.p L.h0 L.h1 L.m.h hh
    rw [LSt.may, this] at h; cases h
  · omega
section
variable {w : World} {P : Nat → Prop} {cs : Array Value} {L : LSt}
theorem mayS (h : IsSt w P cs L) : Calls Try.prog 9 #[.agg cs] w fun e w' => e = .returned (.bool L.may) ∧ Below w.heap.size w w' := by
  obtain ⟨A0, c0, A1, c1, A, c, rfl, r0, r1, r2⟩ := h
  exact may_any _ _ _ _ _ _ _ _ _ _ _ _ _ _ _ _ _ _ _ _ _ _ _ w.heap.size _ _ _ w r0.row r1.row r2.row (Nat.le_refl _)
theorem heavyS_no (h : IsSt w P cs L) (hl : L.light) : Calls Try.prog 5 #[.agg cs] w fun e w' => e = .returned (.int .i64 0) ∧ Below w.heap.size w w' := by
  obtain ⟨A0, c0, A1, c1, A, c, rfl, r0, r1, r2⟩ := h
  exact heavy_no _ _ _ _ _ _ _ _ _ _ _ _ _ _ _ _ _ _ _ _ _ _ _ w hl.1 hl.2.1 hl.2.2
theorem heavyS_yes (h : IsSt w P cs L) (hl : ¬ L.light) : Calls Try.prog 5 #[.agg cs] w fun e w' => e = .returned (.int .i64 1) ∧ Below w.heap.size w w' := by
  obtain ⟨A0, c0, A1, c1, A, c, rfl, r0, r1, r2⟩ := h
  exact heavy_yes _ _ _ _ _ _ _ _ _ _ _ _ _ _ _ _ _ _ _ _ _ _ _ w (by unfold LSt.light at hl; omega)
/-- a state is told, in memory of its own -/
def RetS (L : LSt) (w : World) (e : Ending) (w' : World) : Prop := ∃ cs, e = .returned (.agg cs) ∧ Hid (IsSt w' (fun b => w.heap.size ≤ b) cs L) ∧ Hid (Below w.heap.size w w')
end
/-- what holds since world w: boxes, states, manifests -/
structure Env (w W : World) (bx : List (Nat × Array Value × TypeId)) (sts : List (Array Value × LSt)) (mans : List (Array Value × LMan)) : Prop where
  b : Below w.heap.size w W
  bx : ∀ g cs t, (g, cs, t) ∈ bx → W.heap[g]? = some (.cells cs t (0, 0))
  st : ∀ cs L, (cs, L) ∈ sts → IsSt W (fun _ => True) cs L
  mn : ∀ cs M, (cs, M) ∈ mans → IsMan W (fun _ => True) cs M
section
variable {w W W' : World} {bx : List (Nat × Array Value × TypeId)} {sts : List (Array Value × LSt)} {mans : List (Array Value × LMan)}
theorem Env.below (h : Env w W bx sts mans) (hb : Below W.heap.size W W') : Env w W' bx sts mans :=
  ⟨h.b.trans (hb.mono h.b.size), fun g cs t hm => (hb.block g (Array.getElem?_eq_some_iff.1 (h.bx g cs t hm)).1).trans (h.bx g cs t hm), fun cs L hm => (h.st cs L hm).below hb, fun cs M hm => (h.mn cs M hm).below hb⟩
theorem Env.addSt (h : Env w W bx sts mans) {P : Nat → Prop} {cs : Array Value} {L : LSt} (hs : IsSt W P cs L) : Env w W bx ((cs, L) :: sts) mans :=
  ⟨h.b, h.bx, fun cs' L' hm => by
    rcases List.mem_cons.1 hm with e | e
    · injection e with e1 e2; subst e1 e2; exact hs.imp fun _ _ _ => trivial
    · exact h.st _ _ e, h.mn⟩
theorem Env.addMan (h : Env w W bx sts mans) {P : Nat → Prop} {cs : Array Value} {M : LMan} (hs : IsMan W P cs M) : Env w W bx sts ((cs, M) :: mans) :=
  ⟨h.b, h.bx, h.st, fun cs' M' hm => by
    rcases List.mem_cons.1 hm with e | e
    · injection e with e1 e2; subst e1 e2; exact hs.imp fun _ _ _ => trivial
    · exact h.mn _ _ e⟩
theorem Env.addBx (h : Env w W bx sts mans) {g : Nat} {cs : Array Value} {t : TypeId} (hs : W.heap[g]? = some (.cells cs t (0, 0))) : Env w W ((g, cs, t) :: bx) sts mans :=
  ⟨h.b, fun g' cs' t' hm => by
    rcases List.mem_cons.1 hm with e | e
    · injection e with e1 e2; injection e2 with e2 e3; subst e1 e2 e3; exact hs
    · exact h.bx _ _ _ e, h.st, h.mn⟩
theorem Env.alloc (h : Env w W bx sts mans) (cs : Array Value) (t : TypeId) : Env w (W.alloc (.cells cs t)) ((W.heap.size, cs, t) :: bx) sts mans :=
  (h.below ((Below.refl _ _).alloc (Nat.le_refl _) _)).addBx (heap_alloc_new W (.cells cs t))
theorem Env.start (w : World) : Env w w [] [] [] :=
  ⟨Below.refl _ _, fun _ _ _ h => (by cases h), fun _ _ h => (by cases h), fun _ _ h => (by cases h)⟩
theorem Env.cell (h : Env w W bx sts mans) {g : Nat} {cs : Array Value} {t : TypeId} (hm : (g, cs, t) ∈ bx) (k : Nat) : W.cell? ⟨g, k, none⟩ = cs[k]? :=
  cell_of_row W g k cs t (0, 0) (h.bx g cs t hm)
end
end Go.Proofs.Ytdipccjgpkedhaa
