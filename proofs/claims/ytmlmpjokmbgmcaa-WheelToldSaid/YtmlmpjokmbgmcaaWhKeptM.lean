/- WheelKept: what stands beside the wheel. -/
import Derived.Test.YtmlmpjokmbgmcaaWhFew
import Derived.Test.YtmlmpjokmbgmcaaWhSame
import Derived.Test.YtmlmpjokmbgmcaaAppZero
import Derived.Deep.CutBlock
import Derived.Deep.DeepCutAuto
import Derived.Deep.WholeRow
namespace Go.Proofs.Ytmlmpjokmbgmcaa
open Go.RowKit
structure OwnB (B : Nat) (v : Value) (n : Nat) (l : List UInt8) (W : World) : Prop where
  own : W.ownsRow B 5 1 v n (bv l)
theorem OwnB.below {B : Nat} {v : Value} {n : Nat} {l : List UInt8} {W W' : World} (h : OwnB B v n l W) (hb : Below W.heap.size W W') : OwnB B v n l W' := ⟨own_below h.own hb⟩
theorem own_ne {W : World} {B gr n : Nat} {v : Value} {xs : List Value} {cs : Array Value} {fr : Nat × Nat} (h : W.ownsRow B 5 1 v n xs) (hx : W.heap[gr]? = some (.cells cs 73 fr)) : v.ownBlock ≠ some gr := by
  intro e
  rcases h.2 with ⟨hv, _⟩ | ⟨g, cap, cur, hv, _, hg, _⟩
  · rw [hv] at e; cases e
  · rw [hv] at e
    injection e with e
    have e2 : g = gr := e
    rw [e2, hx] at hg
    injection hg with hg
    injection hg with _ h2 _
    exact absurd h2 (by decide)
theorem below_setRowW {B g : Nat} {w w' : World} (h : Below B w w') (hg : B ≤ g) (cs : Array Value) : Below B w (w'.setRow g cs) :=
  ⟨h.os, h.tape, h.output, by simpa using h.size, fun k hk => (setRow_other w' g k cs (by omega)).trans (h.block k hk)⟩
/-- a record that was just made: its box, its data -/
structure RBx (wb : World) (id size : Nat) (d : List UInt8) (gr gd cd : Nat) (W : World) : Prop where
  b : Below wb.heap.size wb W
  box : W.heap[gr]? = some (.cells #[.int .u32 (id : Int), .slice (some ⟨gd, 0, none⟩) size cd] 73 (0, 0))
  row : Row W W.heap.size (some ⟨gd, 0, none⟩) size (bv d)
  gd1 : wb.heap.size ≤ gd
  gd2 : gd < W.heap.size
  gr1 : wb.heap.size ≤ gr
theorem rbx_of {wb W : World} {gr gd cd n size yn : Nat} {l d : List UInt8} {z : Array Value} (hx : W.heap[gr]? = some (.cells z 73 (0, 0))) (ho : W.ownsRow wb.heap.size 5 1 (.slice (some ⟨gd, 0, none⟩) n cd) n (bv l)) (hb : Below wb.heap.size wb W) (hg : wb.heap.size ≤ gr) (hn : size ≤ n) (hd : l.take size = d) :
    RBx wb yn size d gr gd cd (W.setRow gr #[.int .u32 (yn : Int), .slice (some ⟨gd, 0, none⟩) size cd]) := by
  have hne : gd ≠ gr := fun e => own_ne ho hx (by show some gd = some gr; rw [e])
  have hlt := ho.lt gd rfl
  have hrow := (Row.of_own ho).head hn
  rw [bv_take, hd] at hrow
  exact ⟨below_setRowW hb hg _, setRow_heap _ _ _ _ _ _ hx, row_same1 hrow (setRow_other _ _ _ _ hne) (by simp), hlt.1, by simpa using hlt.2, hg⟩
theorem opW_bs {f f' : Fl} (h : f'.bs = f.bs) (gen size k : Nat) : opW f' gen size k = opW f gen size k :=
  opW_congr k fun s _ => by unfold secB Fl.sub; rw [h]
theorem erW_le (f : Fl) (rd : Int) (S s : Nat) : f.er s ≤ erW f rd S s ∧ erW f rd S s ≤ f.er s + 1 := by
  unfold erW
  split
  · omega
  · unfold erUp
    split
    · rename_i h; rw [h]; omega
    · omega
theorem Fl.Ok.fuse {f : Fl} {k : Int} (h : f.Ok k) (b : Bool) (n : Nat) (t : Int) (hn : n ≤ 100) : ({ f with there := b, left := (n : Int), torn := t } : Fl).Ok k := ⟨h.1, h.2.1, ⟨by show -9223372036854775808 ≤ (n : Int); omega, by show (n : Int) ≤ 9223372036854775807; omega⟩, h.2.2.2.1, h.2.2.2.2⟩
theorem Fl.Ok.start {f : Fl} {k : Int} (h : f.Ok k) (b : Bool) : ({ f with down := b } : Fl).Ok k := h
/-- the state of a round: flash, wheel, what is wanted -/
structure KI (w : World) (gw gf size : Nat) (f : Fl) (k : Nat) (P Pw : Nat → Prop) (Aw : Option Addr) (nw cw : Nat) (ew : List RRow) (W : World) : Prop where
  wo : WO w P gw gf (opW f 5 size 8) f (500 * (k : Int)) W
  down : f.down = false
  wear : f.wear = 100
  er : ∀ s, f.er s ≤ (k : Int)
  want : RecW Pw W (.slice Aw nw cw) nw ew
  eq : ew.map RRow.pair = (opW f 5 size 8).L
  pw : ∀ b, Pw b → w.heap.size ≤ b ∧ b < W.heap.size ∧ ¬ P b ∧ b ≠ gf
theorem KI.below {w : World} {gw gf size : Nat} {f : Fl} {k : Nat} {P Pw : Nat → Prop} {Aw : Option Addr} {nw cw : Nat} {ew : List RRow} {W W' : World} (h : KI w gw gf size f k P Pw Aw nw cw ew W) (hb : Below W.heap.size W W') : KI w gw gf size f k P Pw Aw nw cw ew W' :=
  ⟨h.wo.below hb, h.down, h.wear, h.er, h.want.below hb, h.eq, fun b hp => ⟨(h.pw b hp).1, Nat.lt_of_lt_of_le (h.pw b hp).2.1 hb.size, (h.pw b hp).2.2⟩⟩
theorem wpList_app2 {P : Program} {w : World} {ops : Array Oper} {rest : List Oper} {o : Oper} {a : Act} {Q : Exit → Act → World → Prop} (hgd : o.guard = none) (s q : Operand) (t : TypeId)
    (ho : o.op = .call { callee := .builtin .append, args := #[s, q], argTypes := #[t, t] })
    (base : Nat) (e : TypeId) (i : TypeInfo) (z : Value) (bytes : Nat) (ht : P.underlying t = some (.slice e)) (hi : P.info? e = some i) (hz : i.zero = some z)
    (hsize : i.size = 2) (hby : i.bytes = bytes) (hzs : z.cells.size = 2)
    (v : Value) (n : Nat) (xs : List Value) (hs : a.eval s = v) (hown : w.ownsRow base e 2 v n xs)
    (g c : Nat) (x y : Value) (e' : TypeId) (hx : a.eval q = .slice (some ⟨g, 0, none⟩) 1 c) (hg : w.heap[g]? = some (.cells #[x, y] e' (0, 0))) (hx1 : x.oneCell' = true) (hy1 : y.oneCell' = true)
    (h63 : n + 1 ≤ maxLen) (hbytes : (n + 1) * bytes ≤ 140737488355328) (hbase : base ≤ w.heap.size)
    (h : ∀ v' w', w'.ownsRow base e 2 v' (n + 1) (xs ++ [x, y]) → w.grownBy w' v.ownBlock → (v'.ownBlock = v.ownBlock ∨ v'.ownBlock = some w.heap.size) → wpList P ops Q rest (a.put o.dst v') w') : wpList P ops Q (o :: rest) a w :=
  wpList_plain hgd fun _ hK => wp_app2 s q t ho base e i z bytes ht hi hz hsize hby hzs v n xs hs hown g c x y e' hx hg hx1 hy1 h63 hbytes hbase fun v' w' h2 h3 h4 => hK _ _ (h v' w' h2 h3 h4)
/-- what stands beside the wheel: the wanted list, a record that was made -/
structure SD (w : World) (gf size yn : Nat) (d : List UInt8) (gr gd cd : Nat) (P Pw : Nat → Prop) (Aw : Option Addr) (nw cw : Nat) (ew : List RRow) (W : World) : Prop where
  want : RecW Pw W (.slice Aw nw cw) nw ew
  box : W.heap[gr]? = some (.cells #[.int .u32 (yn : Int), .slice (some ⟨gd, 0, none⟩) size cd] 73 (0, 0))
  row : Row W W.heap.size (some ⟨gd, 0, none⟩) size (bv d)
  q : ∀ b, (Pw b ∨ b = gd ∨ b = gr) → w.heap.size ≤ b ∧ b < W.heap.size ∧ ¬ P b ∧ b ≠ gf
  ne : ¬ Pw gd
section
variable {w W W' wb : World} {gw gf size k yn gr gd cd nw cw : Nat} {f : Fl} {d : List UInt8} {P P' Pw : Nat → Prop} {Aw : Option Addr} {ew : List RRow}
theorem RBx.sd (hk : KI w gw gf size f k P Pw Aw nw cw ew wb) (h : RBx wb yn size d gr gd cd W) : SD w gf size yn d gr gd cd P Pw Aw nw cw ew W := by
  have hs := h.b.size
  have hws := hk.wo.b.size
  have hfl := hk.wo.fl.lt
  have hgr : gr < W.heap.size := (Array.getElem?_eq_some_iff.1 h.box).1
  have hgd := h.gd1
  have hgr1 := h.gr1
  have key : ∀ b, wb.heap.size ≤ b → b < W.heap.size → w.heap.size ≤ b ∧ b < W.heap.size ∧ ¬ P b ∧ b ≠ gf := fun b h1 h2 =>
    ⟨by omega, h2, fun hp => by have := (hk.wo.P b hp).2; omega, by omega⟩
  refine ⟨hk.want.below h.b, h.box, h.row, ?_, fun hp => by have := (hk.pw gd hp).2.1; omega⟩
  rintro b (hb | hb | hb)
  · have := hk.pw b hb
    exact ⟨this.1, by omega, this.2.2⟩
  · rw [hb]; exact key gd h.gd1 h.gd2
  · rw [hb]; exact key gr h.gr1 hgr
theorem SD.keep (h : SD w gf size yn d gr gd cd P Pw Aw nw cw ew W) (hb : ∀ b, b < W.heap.size → ¬ P b → b ≠ gf → W'.heap[b]? = W.heap[b]?) (hs : W.heap.size ≤ W'.heap.size) (hp : ∀ b, b < W.heap.size → P' b → P b) : SD w gf size yn d gr gd cd P' Pw Aw nw cw ew W' := by
  have key : ∀ b, (Pw b ∨ b = gd ∨ b = gr) → W'.heap[b]? = W.heap[b]? := fun b hq => hb b (h.q b hq).2.1 (h.q b hq).2.2.1 (h.q b hq).2.2.2
  exact ⟨h.want.keep (fun b hq _ => key b (.inl hq)) hs, (key gr (.inr (.inr rfl))).trans h.box, row_same1 h.row (key gd (.inr (.inl rfl))) hs, fun b hq => ⟨(h.q b hq).1, Nat.lt_of_lt_of_le (h.q b hq).2.1 hs, fun hp' => (h.q b hq).2.2.1 (hp b (h.q b hq).2.1 hp'), (h.q b hq).2.2.2⟩, h.ne⟩
theorem SD.below (h : SD w gf size yn d gr gd cd P Pw Aw nw cw ew W) (hb : Below W.heap.size W W') : SD w gf size yn d gr gd cd P Pw Aw nw cw ew W' := h.keep (fun b hl _ _ => hb.block b hl) hb.size (fun _ _ hp => hp)
theorem SD.opened (h : SD w gf size yn d gr gd cd P Pw Aw nw cw ew W) (hb : Below W.heap.size W W') : SD w gf size yn d gr gd cd (fun b => W.heap.size ≤ b ∧ b < W'.heap.size) Pw Aw nw cw ew W' := h.keep (fun b hl _ _ => hb.block b hl) hb.size (fun b hl hp => absurd hp.1 (by omega))
theorem SD.frm (h : SD w gf size yn d gr gd cd P Pw Aw nw cw ew W) (hf : Frm W W' (fun b => P b ∨ b = gf)) : SD w gf size yn d gr gd cd (Pn P W W') Pw Aw nw cw ew W' :=
  h.keep (fun b hl h1 h2 => hf.block b hl (fun e => e.elim h1 h2)) hf.size (fun b hl hp => hp.elim id (fun e => absurd e.1 (by omega)))
theorem SD.done (h : SD w gf size yn d gr gd cd P Pw Aw nw cw ew W) (hg : W.grownBy W' (some gf)) : SD w gf size yn d gr gd cd P Pw Aw nw cw ew W' :=
  h.keep (fun b hl _ h2 => hg.block b hl (fun e => h2 (Option.some.inj e))) hg.size (fun _ _ hp => hp)
theorem SD.rcd (h : SD w gf size yn d gr gd cd P Pw Aw nw cw ew W) : RcAt (fun b => b = gd) W (.slice Aw nw cw) ⟨yn, some ⟨gd, 0, none⟩, size, cd, d⟩ :=
  ⟨gd, 0, rfl, rfl, (h.q gd (.inr (.inl rfl))).2.1, fun e => h.ne (h.want.2.1 gd e), h.row⟩
/-- the wanted list, one record more: W where it grew, W' behind it -/
theorem SD.more {K : Int} {x : Wh} {A' : Option Addr} {c' : Nat} (h : SD w gf size yn d gr gd cd P Pw Aw nw cw ew W) (hwo : WO w P gw gf x f K W)
    (hown : W'.ownsRow 0 73 2 (.slice A' (nw + 1) c') (nw + 1) (rcells ew ++ [.int .u32 (yn : Int), .slice (some ⟨gd, 0, none⟩) size cd])) (hg : W.grownBy W' (Value.slice Aw nw cw).ownBlock) (hat : (Value.slice A' (nw + 1) c').ownBlock = (Value.slice Aw nw cw).ownBlock ∨ (Value.slice A' (nw + 1) c').ownBlock = some W.heap.size) :
    ∃ Pw' : Nat → Prop, RecW Pw' W' (.slice A' (nw + 1) c') (nw + 1) (ew ++ [⟨yn, some ⟨gd, 0, none⟩, size, cd, d⟩]) ∧ (∀ b, Pw' b → w.heap.size ≤ b ∧ b < W'.heap.size ∧ ¬ P b ∧ b ≠ gf) ∧ WO w P gw gf x f K W' := by
  have hlt : ∀ g, (Value.slice A' (nw + 1) c').ownBlock = some g → g < W'.heap.size := fun g hg2 => (hown.lt g hg2).2
  have hfl := hwo.fl.lt
  have hws := hwo.b.size
  have hs := hg.size
  refine ⟨fun b => Pw b ∨ b = gd ∨ (b = W.heap.size ∧ b < W'.heap.size), RecW.next (r := ⟨yn, some ⟨gd, 0, none⟩, size, cd, d⟩) h.want ?_ hown hg hat (fun b hb => .inl hb) (fun e => .inr (.inr ⟨rfl, hlt _ e⟩)), ?_, ?_⟩
  · obtain ⟨g, o, e, hq, r⟩ := h.rcd
    exact ⟨g, o, e, .inr (.inl hq), r⟩
  · have old : ∀ b, (Pw b ∨ b = gd ∨ b = gr) → w.heap.size ≤ b ∧ b < W'.heap.size ∧ ¬ P b ∧ b ≠ gf := fun b hb => ⟨(h.q b hb).1, Nat.lt_of_lt_of_le (h.q b hb).2.1 hs, (h.q b hb).2.2⟩
    rintro b (hb | hb | hb)
    · exact old b (.inl hb)
    · exact old b (.inr (.inl hb))
    · refine ⟨by omega, hb.2, fun hp => ?_, by omega⟩
      have := (hwo.P b hp).2
      omega
  · have hblk : ∀ b, b < W.heap.size → ¬ Pw b → W'.heap[b]? = W.heap[b]? := fun b hb hn => hg.block b hb (fun e => hn (h.want.2.1 b e.symm))
    exact ⟨hwo.wh.keep (fun b hb hl => hblk b hl (fun hp => (h.q b (.inl hp)).2.2.1 hb)) hg.size, hwo.fl.keep (hblk gf hfl (fun hp => (h.q gf (.inl hp)).2.2.2 rfl)), hwo.ok, hwo.base, fun b hp => ⟨(hwo.P b hp).1, Nat.lt_of_lt_of_le (hwo.P b hp).2 hg.size⟩, hwo.b.grown hg hws (fun g hg2 => (h.q g (.inl (h.want.2.1 g hg2))).1)⟩
/-- numbers of the flash -/
structure KN (f : Fl) (k : Nat) : Prop where
  down : f.down = false
  wear : f.wear = 100
  er : ∀ s, f.er s ≤ (k : Int)
theorem KI.next (hwo : WO w P gw gf (opW f 5 size 8) f (500 * (k : Int) + 400) W) (hn : KN f (k + 1)) (hw : RecW Pw W (.slice Aw nw cw) nw ew) (he : ew.map RRow.pair = (opW f 5 size 8).L) (hp : ∀ b, Pw b → w.heap.size ≤ b ∧ b < W.heap.size ∧ ¬ P b ∧ b ≠ gf) : KI w gw gf size f (k + 1) P Pw Aw nw cw ew W :=
  ⟨⟨hwo.wh, hwo.fl, hwo.ok.more (by push_cast; omega), hwo.base, hwo.P, hwo.b⟩, hn.down, hn.wear, hn.er, hw, he, hp⟩
/-- a fuse -/
theorem KI.fused (h : KI w gw gf size f k P Pw Aw nw cw ew W) (b : Bool) (n : Nat) (t : Int) (hn : n ≤ 100) (hd : Done gf { f with there := b, left := (n : Int), torn := t } W W') : KI w gw gf size { f with there := b, left := (n : Int), torn := t } k P Pw Aw nw cw ew W' := by
  have hg := hd.2
  have hnf : ¬ P gf := by
    obtain ⟨_, _, _, _, _, _, h2, _⟩ := h.wo.wh
    exact h2
  have hblk : ∀ b, b < W.heap.size → b ≠ gf → W'.heap[b]? = W.heap[b]? := fun b hl hn => hg.block b hl (fun e => hn (Option.some.inj e))
  refine ⟨⟨?_, hd.1, h.wo.ok.fuse b n t hn, h.wo.base, fun b hp => ⟨(h.wo.P b hp).1, Nat.lt_of_lt_of_le (h.wo.P b hp).2 hg.size⟩, h.wo.b.grown hg h.wo.b.size (fun g hg2 => by rw [← Option.some.inj hg2]; exact h.wo.base)⟩, h.down, h.wear, h.er, ?_, ?_, ?_⟩
  · rw [opW_bs (f := f) (f' := { f with there := b, left := (n : Int), torn := t }) rfl]
    exact h.wo.wh.keep (fun b hp hl => hblk b hl (fun e => hnf (by rw [← e]; exact hp))) hg.size
  · exact h.want.keep (fun b hp hl => hblk b hl (h.pw b hp).2.2.2) hg.size
  · rw [opW_bs (f := f) (f' := { f with there := b, left := (n : Int), torn := t }) rfl]
    exact h.eq
  · exact fun b hp => ⟨(h.pw b hp).1, Nat.lt_of_lt_of_le (h.pw b hp).2.1 hg.size, (h.pw b hp).2.2⟩
end
def AddP (w : World) (gw gf size yn : Nat) (d : List UInt8) (gr gd cd : Nat) (f : Fl) (k : Nat) (P Pw : Nat → Prop) (Aw : Option Addr) (nw cw : Nat) (ew : List RRow) (W : World) (e : Ending) (W' : World) : Prop :=
  (e = .returned (.int .i64 9) ∧ Hid (KI w gw gf size f (k + 1) (Pn P W W') Pw Aw nw cw ew W') ∧ Hid ((opW f 5 size 8).room = 0)) ∨
  (∃ f2, e = .returned (.int .i64 0) ∧ Hid (WO w (Pn P W W') gw gf (opW f2 5 size 8) f2 (500 * (k : Int) + 400) W') ∧ Hid (KN f2 (k + 1)) ∧ Hid ((opW f2 5 size 8).L = (opW f 5 size 8).L ++ [(yn, d)]) ∧ Hid (SD w gf size yn d gr gd cd (Pn P W W') Pw Aw nw cw ew W')) ∨
  (∃ hx f2, e = .returned (.int .i64 11) ∧ Hid (WO w (Pn P W W') gw gf hx f2 (500 * (k : Int) + 400) W') ∧ Hid (f2.wear = 100 ∧ ∀ s, f2.er s ≤ ((k + 1 : Nat) : Int)) ∧ Hid ((opW f2 5 size 8).L = (opW f 5 size 8).L ∨ (opW f2 5 size 8).L = (opW f 5 size 8).L ++ [(yn, d)]) ∧ Hid (SD w gf size yn d gr gd cd (Pn P W W') Pw Aw nw cw ew W'))
theorem add_k (w : World) (gw gf size yn : Nat) (d : List UInt8) (gr gd cd : Nat) (f : Fl) (k : Nat) (P Pw : Nat → Prop) (Aw : Option Addr) (nw cw : Nat) (ew : List RRow) (W : World)
    (h : KI w gw gf size f k P Pw Aw nw cw ew W) (hd : SD w gf size yn d gr gd cd P Pw Aw nw cw ew W) (hs1 : 1 ≤ size) (hs2 : size ≤ 16) (hk : k < 80) (hdl : d.length = size) (hid : yn < 4294967296) :
    Calls Try.prog 35 #[.pointer (some ⟨gw, 0, none⟩), .int .u32 (yn : Int), .slice (some ⟨gd, 0, none⟩) size cd] W (AddP w gw gf size yn d gr gd cd f k P Pw Aw nw cw ew W) := by
  have hok := opW_ok f 5 size (by omega) hs1 hs2
  have e2 := opW_size f 5 size 8
  refine (wadd_w w P gw gf yn W.heap.size size cd _ (opW f 5 size 8) d f (500 * (k : Int)) W h.wo hok (by omega) hd.row (by omega) (fun b o e _ => by
    injection e with e
    injection e with e
    rw [← e]
    exact ⟨(hd.q gd (.inr (.inl rfl))).2.2.2, (hd.q gd (.inr (.inl rfl))).2.2.1⟩) (Nat.le_refl _) hid).mono ?_
  rintro e W' ⟨rfl, hw, hf⟩
  have hsd := hd.frm hf.out
  have hup : ∀ (rd : Int) (S s : Nat), erW f rd S s ≤ ((k + 1 : Nat) : Int) := fun rd S s => by
    have h1 := (erW_le f rd S s).2
    have h2 := h.er s
    push_cast
    omega
  rcases Nat.lt_or_ge (opW f 5 size 8).next (8 * (256 / (size + 13))) with hn | hn
  · rcases add_cases (f := f) (gen := 5) (size := size) (id := yn) (d := d) hs1 hs2 hdl (by omega) hid h.down hn rfl rfl with ⟨f2, a1, a2, a3, a4, _⟩ | ⟨_, hx, f2, a1, a2, a3, a4, _⟩ | ⟨_, a2, _⟩
    · rw [a1] at hw ⊢
      dsimp only at hw ⊢
      exact .inr (.inl ⟨f2, rfl, hw, Lib.hid ⟨a4, by rw [a3.wear]; exact h.wear, fun s => by rw [a3.er]; exact hup _ _ s⟩, Lib.hid (by rw [a2]), Lib.hid hsd⟩)
    · rw [a1] at hw ⊢
      dsimp only at hw ⊢
      exact .inr (.inr ⟨hx, f2, rfl, hw, Lib.hid ⟨by rw [a3.wear]; exact h.wear, fun s => by rw [a3.er]; exact hup _ _ s⟩, Lib.hid a2, Lib.hid hsd⟩)
    · have h1 := h.er (6 + (opW f 5 size 8).next / (256 / (size + 13)))
      rw [h.wear] at a2
      omega
  · have hnx := hok.next
    have hfull : (opW f 5 size 8).add f yn d = (opW f 5 size 8, f, 9) := by
      unfold Wh.add Wh.per
      unfold Wh.per at hnx
      rw [e2] at hnx ⊢
      rw [if_pos hdl, if_pos (by omega)]
    rw [hfull] at hw ⊢
    dsimp only at hw ⊢
    refine .inl ⟨rfl, Lib.hid (KI.next hw.out ⟨h.down, h.wear, fun s => by have := h.er s; push_cast; omega⟩ hsd.want h.eq (fun b hb => hsd.q b (.inl hb))), Lib.hid ?_⟩
    unfold Wh.room Wh.per
    rw [e2]
    omega
theorem opW_L_len (f : Fl) (gen size : Nat) (hs1 : 1 ≤ size) (hs2 : size ≤ 16) : (∀ p ∈ (opW f gen size 8).L, 1 ≤ p.2.length ∧ p.2.length ≤ 1000) ∧ (opW f gen size 8).L.length ≤ 1000 := by
  refine ⟨fun p hp => ?_, ?_⟩
  · have := opW_reclen f gen size hs1 hs2 8 (by omega) p hp
    omega
  · have hl := opW_len f gen size hs1 hs2 8
    have hp := per_bounds hs1 hs2
    omega
/-- records of the wheel that stands for the flash -/
theorem recs_k {w : World} {P : Nat → Prop} {gw gf size : Nat} {f f' : Fl} {K : Int} {W : World} (h : WO w P gw gf (opW f 5 size 8) f' K W) (hs1 : 1 ≤ size) (hs2 : size ≤ 16) : Calls Try.prog 38 #[.pointer (some ⟨gw, 0, none⟩)] W (RecsOk (opW f 5 size 8).L W) :=
  recs_any P gw gf (opW f 5 size 8) W h.wh (opW_L_len f 5 size hs1 hs2).1 (opW_L_len f 5 size hs1 hs2).2
def StartW (w : World) (gf : Nat) (f : Fl) (K : Int) (W : World) (e : Ending) (W' : World) : Prop :=
  e = .returned (.tuple #[]) ∧ Hid (FlAt W' gf { f with down := false } ∧ Fl.Ok { f with down := false } K ∧ Below w.heap.size w W') ∧ Hid (W.grownBy W' (some gf))
theorem start_w {w : World} {P : Nat → Prop} {gw gf : Nat} {x : Wh} {f : Fl} {K : Int} {W : World} (h : WO w P gw gf x f K W) : Calls Try.prog 25 #[.pointer (some ⟨gf, 0, none⟩)] W (StartW w gf f K W) := by
  refine (start_any gf f W h.fl).mono ?_
  rintro e W' ⟨rfl, hd⟩
  exact ⟨rfl, Lib.hid ⟨hd.out.1, h.ok, h.b.grown hd.out.2 h.b.size (fun g hg => by rw [← Option.some.inj hg]; exact h.base)⟩, Lib.hid hd.out.2⟩
end Go.Proofs.Ytmlmpjokmbgmcaa
