/- WheelPlays: ours and the reference's wheel, each over its flash, as one state; the calls on it. -/
import Derived.Test.YtekaoodagaplmaaRWAdd
import Derived.Test.YtekaoodagaplmaaROpen
import Derived.Test.YtekaoodagaplmaaWhAw
import Derived.Test.YtekaoodagaplmaaWhFew
import Derived.Test.YtekaoodagaplmaaWhRecs
namespace Go.Proofs.Ytekaoodagaplmaa
open Go.RowKit
theorem RecW.less {Q : Nat → Prop} {W : World} {v : Value} {n : Nat} {es : List RRow} (h : RecW Q W v n es) : RecW (fun b => Q b ∧ b < W.heap.size) W v n es :=
  ⟨h.1, fun g hg => ⟨h.2.1 g hg, (h.1.lt g hg).2⟩, h.2.2.1, fun r hr => by
    obtain ⟨g, o, a1, a2, a3, a4, a5⟩ := h.2.2.2 r hr
    exact ⟨g, o, a1, ⟨a2, a3⟩, a3, a4, a5⟩⟩
theorem RWhAt.less {P : Nat → Prop} {gr gm gB : Nat} {h : Wh} {W : World} (a : RWhAt P gr gm gB h W) : RWhAt (fun b => P b ∧ b < W.heap.size) gr gm gB h W := by
  have hl := a.lt
  obtain ⟨A, n, c, es, hg, h1, h2, h2b, h3, h4⟩ := a
  exact ⟨A, n, c, es, hg, ⟨h1, hl⟩, fun h => h2 h.1, fun h => h2b h.1, h3.less.more (fun b hb => ⟨⟨hb.1.1, hb.2⟩, hb.1.2⟩), h4⟩
/-- what is known of a wheel behind k records more than were found -/
structure XI (k : Nat) (x : Wh) : Prop where
  ok : x.Ok
  len : ∀ p ∈ x.L, p.2.length = x.size
  many : x.L.length ≤ 150 + k
theorem XI.more {k j : Nat} {x : Wh} (h : XI k x) (hj : k ≤ j) : XI j x := ⟨h.ok, h.len, by have := h.many; omega⟩
theorem XI.opW (f : Fl) (gen size k : Nat) (hg : gen < 4294967296) (h1 : 1 ≤ size) (h2 : size ≤ 16) : XI k (opW f gen size 8) :=
  ⟨opW_ok f gen size hg h1 h2, fun p hp => by rw [opW_size]; exact opW_reclen f gen size h1 h2 8 (by omega) p hp, by have := opW_len f gen size h1 h2 8; omega⟩
theorem XI.add {k : Nat} {x : Wh} (h : XI k x) (hk : k ≤ 100) (f : Fl) (id : Nat) (d : List UInt8) : XI (k + 1) (x.add f id d).1 := by
  have h0 := h.more (show k ≤ k + 1 by omega)
  have hmo := h.ok.next
  have hpp : 0 < x.per := by have := per_bounds h.ok.size1 h.ok.size2; show 0 < 256 / (x.size + 13); omega
  unfold Wh.add
  split
  · rename_i hd
    split
    · exact h0
    · rename_i hnf
      have hq : x.next / x.per < 8 := Nat.div_lt_of_lt_mul (by rw [Nat.mul_comm]; omega)
      split
      · exact h0
      · split
        · split
          · refine ⟨⟨h.ok.gen, h.ok.size1, h.ok.size2, ?_, ⟨?_, ?_⟩, ?_⟩, ?_, ?_⟩
            · show x.next + 1 ≤ 8 * x.per; omega
            · exact Int.le_trans (by decide) (Int.natCast_nonneg _)
            · exact Int.ofNat_lt.2 hq
            · show (x.L ++ [(id, d)]).length ≤ 1000
              have := h.many; simp; omega
            · intro p hp
              rcases List.mem_append.1 hp with hp | hp
              · exact h.len p hp
              · obtain rfl := List.mem_singleton.1 hp; exact hd
            · show (x.L ++ [(id, d)]).length ≤ _
              have := h.many; simp; omega
          · exact ⟨⟨h.ok.gen, h.ok.size1, h.ok.size2, h.ok.next, ⟨Int.le_trans (by decide) (Int.natCast_nonneg _), Int.ofNat_lt.2 hq⟩, h.ok.many⟩, h0.len, h0.many⟩
        · exact h0
  · exact h0
/-- ours (x1 over f1), theirs (x2 over f2), apart; the blocks of G are as in w1 -/
structure PX (w0 w1 : World) (G : Nat → Prop) (gf gm gB gw gr : Nat) (x1 : Wh) (f1 : Fl) (x2 : Wh) (f2 : Fl) (Po Pr : Nat → Prop) (W : World) : Prop where
  wh : WhAt Po gw gf x1 W
  rh : RWhAt Pr gr gm gB x2 W
  fl : FlAt W gf f1
  rf : RfAt W gm gB f2
  po : ∀ b, Po b → w0.heap.size ≤ b ∧ b < W.heap.size ∧ ¬ Pr b ∧ b ≠ gm ∧ b ≠ gB
  pr : ∀ b, Pr b → w0.heap.size ≤ b ∧ b < W.heap.size ∧ b ≠ gf
  ne : gm ≠ gf ∧ gB ≠ gf
  base : w0.heap.size ≤ gf ∧ w0.heap.size ≤ gm ∧ w0.heap.size ≤ gB
  g : ∀ b, G b → b < W.heap.size ∧ ¬ Po b ∧ ¬ Pr b ∧ b ≠ gf ∧ b ≠ gm ∧ b ≠ gB
  box : ∀ b, G b → W.heap[b]? = w1.heap[b]?
  b : Below w0.heap.size w0 W
def PS (w0 w1 : World) (G : Nat → Prop) (gf gm gB gw gr : Nat) (x1 : Wh) (f1 : Fl) (x2 : Wh) (f2 : Fl) (W : World) : Prop := ∃ Po Pr, PX w0 w1 G gf gm gB gw gr x1 f1 x2 f2 Po Pr W
section
variable {w0 w1 W W' : World} {G Po Pr Po' Pr' : Nat → Prop} {gf gm gB gw gr gw' gr' : Nat} {x1 x2 x' : Wh} {f1 f2 f' : Fl}
theorem PX.below (h : PX w0 w1 G gf gm gB gw gr x1 f1 x2 f2 Po Pr W) (hb : Below W.heap.size W W') : PX w0 w1 G gf gm gB gw gr x1 f1 x2 f2 Po Pr W' :=
  have hs := hb.size
  ⟨h.wh.below hb, h.rh.below hb, h.fl.below hb, h.rf.below hb, fun b p => by have := h.po b p; exact ⟨this.1, by omega, this.2.2⟩, fun b p => by have := h.pr b p; exact ⟨this.1, by omega, this.2.2⟩, h.ne, h.base, fun b p => by have := h.g b p; exact ⟨by omega, this.2⟩, fun b p => (hb.block b (h.g b p).1).trans (h.box b p), h.b.trans (hb.mono h.b.size)⟩
theorem PS.below (h : PS w0 w1 G gf gm gB gw gr x1 f1 x2 f2 W) (hb : Below W.heap.size W W') : PS w0 w1 G gf gm gB gw gr x1 f1 x2 f2 W' := by
  obtain ⟨Po, Pr, h⟩ := h; exact ⟨Po, Pr, h.below hb⟩
theorem PS.bel (h : PS w0 w1 G gf gm gB gw gr x1 f1 x2 f2 W) : Below w0.heap.size w0 W := by obtain ⟨Po, Pr, h⟩ := h; exact h.b
/-- another box to be kept, made since -/
theorem PS.boxed (h : PS w0 w1 G gf gm gB gw gr x1 f1 x2 f2 W) (hb : Below W.heap.size W W') (hl : W.heap.size < W'.heap.size) : PS w0 W' (fun b => b = W.heap.size) gf gm gB gw gr x1 f1 x2 f2 W' := by
  obtain ⟨Po, Pr, h⟩ := h
  have h1 := h.fl.lt
  have h2 := h.rf.ltm
  have h3 := h.rf.ltB
  have h' := h.below hb
  exact ⟨Po, Pr, h'.wh, h'.rh, h'.fl, h'.rf, h'.po, h'.pr, h'.ne, h'.base, fun b e => by
    subst e
    exact ⟨hl, fun p => by have := h.po _ p; omega, fun p => by have := h.pr _ p; omega, by omega, by omega, by omega⟩, fun _ _ => rfl, h'.b⟩
theorem PS.bare (h : PS w0 w1 G gf gm gB gw gr x1 f1 x2 f2 W) : PS w0 w0 (fun _ => False) gf gm gB gw gr x1 f1 x2 f2 W := by
  obtain ⟨Po, Pr, h⟩ := h
  exact ⟨Po, Pr, h.wh, h.rh, h.fl, h.rf, h.po, h.pr, h.ne, h.base, fun _ e => e.elim, fun _ e => e.elim, h.b⟩
/-- ours wrote -/
theorem PX.own (h : PX w0 w1 G gf gm gB gw gr x1 f1 x2 f2 Po Pr W) (hfr : Frm W W' (fun b => Po b ∨ b = gf)) (hP : ∀ b, Po' b → Po b ∨ (W.heap.size ≤ b ∧ b < W'.heap.size)) (hw : WhAt Po' gw' gf x' W') (hf : FlAt W' gf f') : PX w0 w1 G gf gm gB gw' gr x' f' x2 f2 Po' Pr W' := by
  have hs := hfr.size
  have hws := h.b.size
  have h2 := h.rf.ltm
  have h3 := h.rf.ltB
  refine ⟨hw, h.rh.keep (fun b p hl => hfr.block b hl ?_) hs, hf, h.rf.keep (hfr.block gm h2 ?_) (hfr.block gB h3 ?_), ?_, ?_, h.ne, h.base, ?_, ?_, ?_⟩
  · rintro (q | q)
    · exact (h.po b q).2.2.1 p
    · exact (h.pr b p).2.2 q
  · rintro (q | q)
    · exact (h.po gm q).2.2.2.1 rfl
    · exact h.ne.1 q
  · rintro (q | q)
    · exact (h.po gB q).2.2.2.2 rfl
    · exact h.ne.2 q
  · intro b p
    rcases hP b p with q | q
    · have := h.po b q; exact ⟨this.1, by omega, this.2.2⟩
    · exact ⟨by omega, q.2, fun r => by have := h.pr b r; omega, by omega, by omega⟩
  · intro b p; have := h.pr b p; exact ⟨this.1, by omega, this.2.2⟩
  · intro b p
    have := h.g b p
    refine ⟨by omega, fun q => ?_, this.2.2⟩
    rcases hP b q with q | q
    · exact this.2.1 q
    · omega
  · intro b p
    have := h.g b p
    refine (hfr.block b this.1 ?_).trans (h.box b p)
    rintro (q | q)
    · exact this.2.1 q
    · exact this.2.2.2.1 q
  · exact h.b.trans (hfr.below (fun b hb => by
      rcases hb with q | q
      · exact (h.po b q).1
      · rw [q]; exact h.base.1) hws)
/-- theirs wrote -/
theorem PX.ref (h : PX w0 w1 G gf gm gB gw gr x1 f1 x2 f2 Po Pr W) (hfr : Frm W W' (RF Pr gm gB)) (hP : ∀ b, Pr' b → Pr b ∨ (W.heap.size ≤ b ∧ b < W'.heap.size)) (hw : RWhAt Pr' gr' gm gB x' W') (hf : RfAt W' gm gB f') : PX w0 w1 G gf gm gB gw gr' x1 f1 x' f' Po Pr' W' := by
  have hs := hfr.size
  have hws := h.b.size
  have h1 := h.fl.lt
  refine ⟨h.wh.keep (fun b p hl => hfr.block b hl ?_) hs, hw, h.fl.keep (hfr.block gf h1 ?_), hf, ?_, ?_, h.ne, h.base, ?_, ?_, ?_⟩
  · rintro (q | q | q)
    · exact (h.po b p).2.2.1 q
    · exact (h.po b p).2.2.2.1 q
    · exact (h.po b p).2.2.2.2 q
  · rintro (q | q | q)
    · exact (h.pr gf q).2.2 rfl
    · exact h.ne.1 q.symm
    · exact h.ne.2 q.symm
  · intro b p
    have := h.po b p
    refine ⟨this.1, by omega, fun r => ?_, this.2.2.2⟩
    rcases hP b r with q | q
    · exact this.2.2.1 q
    · omega
  · intro b p
    rcases hP b p with q | q
    · have := h.pr b q; exact ⟨this.1, by omega, this.2.2⟩
    · exact ⟨by omega, q.2, by omega⟩
  · intro b p
    have := h.g b p
    refine ⟨by omega, this.2.1, fun q => ?_, this.2.2.2⟩
    rcases hP b q with q | q
    · exact this.2.2.1 q
    · omega
  · intro b p
    have := h.g b p
    refine (hfr.block b this.1 ?_).trans (h.box b p)
    rintro (q | q | q)
    · exact this.2.2.1 q
    · exact this.2.2.2.2.1 q
    · exact this.2.2.2.2.2 q
  · exact h.b.trans (hfr.below (fun b hb => by
      rcases hb with q | q | q
      · exact (h.pr b q).1
      · rw [q]; exact h.base.2.1
      · rw [q]; exact h.base.2.2) hws)
theorem PS.done (h : PS w0 w1 G gf gm gB gw gr x1 f1 x2 f2 W) (hd : Done gf f' W W') : PS w0 w1 G gf gm gB gw gr x1 f' x2 f2 W' := by
  obtain ⟨Po, Pr, h⟩ := h
  have hng : ¬ Po gf := by obtain ⟨_, _, _, _, _, _, q, _⟩ := h.wh; exact q
  exact ⟨Po, Pr, h.own (Frm.of_grown (F := fun b => Po b ∨ b = gf) hd.2 (fun g e _ => .inr (by injection e with e; exact e.symm))) (fun b q => .inl q) (h.wh.keep (fun b q hl => hd.2.block b hl (fun e => hng (by injection e with e; rw [← e]; exact q))) hd.2.size) hd.1⟩
theorem PS.rdone (h : PS w0 w1 G gf gm gB gw gr x1 f1 x2 f2 W) (hd : RDone gm gB f' W W') : PS w0 w1 G gf gm gB gw gr x1 f1 x2 f' W' := by
  obtain ⟨Po, Pr, h⟩ := h
  obtain ⟨_, _, _, _, _, _, q1, q2, _⟩ := id h.rh
  exact ⟨Po, Pr, h.ref (frm_gr2 hd.2) (fun b q => .inl q) (h.rh.keep (fun b q hl => hd.2.block b hl (fun e => q1 (by rw [← e]; exact q)) (fun e => q2 (by rw [← e]; exact q))) hd.2.size) hd.1⟩
end
section
variable {w0 w1 W : World} {G : Nat → Prop} {gf gm gB gw gr : Nat} {x1 x2 : Wh} {f1 f2 : Fl}
def ROpenX (gm gB : Nat) (x : Wh) (w : World) (e : Ending) (w' : World) : Prop := ∃ gr, e = .returned (.tuple #[.pointer (some ⟨gr, 0, none⟩), .int .i64 0]) ∧ Hid (RWhAt (fun b => w.heap.size ≤ b) gr gm gB x w') ∧ Hid (Below w.heap.size w w')
theorem ropen_x (gm gB gen size : Nat) (f : Fl) (w : World) (hf : RfAt w gm gB f) (hd : f.down = false) (hs1 : 1 ≤ size) (hs2 : size ≤ 16) (hgm : gm < w.heap.size) :
    Calls Try.prog 9 #[.pointer (some ⟨gm, 0, none⟩), .int .u32 (gen : Int), .int .i64 (size : Int)] w (ROpenX gm gB (opW f gen size 8) w) := ropen_ok gm gB gen size f w hf hd hs1 hs2 hgm
theorem px_mk {w w2 w3 w4 : World} {gf gm gB gw gr : Nat} {x : Wh} {f : Fl} (hB2 : Below w.heap.size w w2) (hF : FlAt w2 gf f) (hR : RfAt w2 gm gB f) (hG : gm ≠ gf ∧ gB ≠ gf ∧ w.heap.size ≤ gf ∧ w.heap.size ≤ gm ∧ w.heap.size ≤ gB)
    (h3 : WhAt (fun b => w2.heap.size ≤ b ∧ b < w3.heap.size) gw gf x w3) (hb3 : Below w2.heap.size w2 w3) (h4 : RWhAt (fun b => w3.heap.size ≤ b) gr gm gB x w4) (hb4 : Below w3.heap.size w3 w4) : PS w w (fun _ => False) gf gm gB gw gr x f x f w4 := by
  have q1 := hB2.size
  have q2 := hb3.size
  have q3 := hb4.size
  have q4 := hF.lt
  have q5 := hR.ltm
  have q6 := hR.ltB
  have hb24 : Below w2.heap.size w2 w4 := hb3.trans (hb4.mono q2)
  have e1 := h3.below hb4
  have e2 := h4.less
  have e3 := hF.below hb24
  have e4 := hR.below hb24
  have e5 : Below w.heap.size w w4 := hB2.trans (hb24.mono q1)
  refine ⟨(fun b => w2.heap.size ≤ b ∧ b < w3.heap.size), (fun b => w3.heap.size ≤ b ∧ b < w4.heap.size), ?_⟩
  exact { wh := e1, rh := e2, fl := e3, rf := e4, po := fun b hb => ⟨by omega, by omega, fun h => by omega, by omega, by omega⟩, pr := fun b hb => ⟨by omega, by omega, by omega⟩, ne := ⟨hG.1, hG.2.1⟩, base := hG.2.2, g := fun _ e => e.elim, box := fun _ e => e.elim, b := e5 }
theorem px_add (h : PS w0 w1 G gf gm gB gw gr x1 f1 x2 f2 W) (ok : x1.Ok) (K : Int) (hok : f1.Ok K) (hK : K ≤ 900000) (id n cap : Nat) (A : Option Addr) (d : List UInt8) (hl : Row w0 w0.heap.size A n (bv d)) (hn : n ≤ 300) (hid : id < 4294967296) :
    Calls Try.prog 12 #[.pointer (some ⟨gw, 0, none⟩), .int .u32 (id : Int), .slice A n cap] W fun e W' => e = .returned (.int .i64 (x1.add f1 id d).2.2) ∧ PS w0 w1 G gf gm gB gw gr (x1.add f1 id d).1 (x1.add f1 id d).2.1 x2 f2 W' := by
  obtain ⟨Po, Pr, h⟩ := h
  have hl' := hl.below h.b
  have key : Calls Try.prog 12 #[.pointer (some ⟨gw, 0, none⟩), .int .u32 (id : Int), .slice A n cap] W (AddOk Po gw gf (x1.add f1 id d) W) := by
    by_cases e : n = x1.size
    · subst e
      exact add_in Po gw gf id w0.heap.size cap A x1 d f1 K W h.wh h.fl ok hok hK hl' (fun b o e => by
        obtain ⟨b2, o2, e2, hb2, _⟩ := hl.2 (by have := ok.size1; omega)
        rw [e] at e2
        injection e2 with e2
        injection e2 with e2
        have := h.base.1
        exact ⟨by omega, fun q => by have := h.po b q; omega⟩) h.b.size hid
    · exact add_len Po gw gf id n cap A x1 d f1 W h.wh h.fl hl.blen e
  refine key.mono ?_
  rintro e W' ⟨rfl, h1, h2, h3⟩
  exact ⟨rfl, _, Pr, h.own h3.out (fun b q => q) h1.out h2.out⟩
theorem px_radd (h : PS w0 w1 G gf gm gB gw gr x1 f1 x2 f2 W) (ok : x2.Ok) (K : Int) (hok : f2.Ok K) (hK : K ≤ 900000) (id n cap : Nat) (A : Option Addr) (d : List UInt8) (hl : Row w0 w0.heap.size A n (bv d)) (hn : n ≤ 300) (hid : id < 4294967296) :
    Calls Try.prog 13 #[.pointer (some ⟨gr, 0, none⟩), .int .u32 (id : Int), .slice A n cap] W fun e W' => e = .returned (.int .i64 (x2.add f2 id d).2.2) ∧ PS w0 w1 G gf gm gB gw gr x1 f1 (x2.add f2 id d).1 (x2.add f2 id d).2.1 W' := by
  obtain ⟨Po, Pr, h⟩ := h
  have hl' := hl.below h.b
  by_cases e : n = x2.size
  · subst e
    by_cases hf : x2.next = 8 * x2.per
    · have hr : x2.add f2 id d = (x2, f2, 9) := by unfold Wh.add; rw [if_pos hl.blen, if_pos hf]
      rw [hr]
      refine (radd_full id cap A h.rh ok (by unfold Wh.room; omega)).mono ?_
      rintro e W' ⟨rfl, q, rfl⟩
      exact ⟨rfl, Po, Pr, h.below (drewN_below W q)⟩
    · cases hd : f2.down with
      | true =>
        have hr : x2.add f2 id d = (x2, f2, 11) := by unfold Wh.add; rw [if_pos hl.blen, if_neg hf, if_pos hd]
        rw [hr]
        refine (radd_down id cap A h.rh ok (by have := ok.next; unfold Wh.room; omega) h.rf hd).mono ?_
        rintro e W' ⟨rfl, q, rfl⟩
        exact ⟨rfl, Po, Pr, h.below (drewN_below W q)⟩
      | false =>
        refine (radd_in Pr gr gm gB id w0.heap.size cap A x2 d f2 K W h.rh h.rf ok hok hK (by have := ok.next; omega) hd hl' (fun b o e => ?_) h.b.size hid).mono ?_
        · obtain ⟨b2, o2, e2, hb2, _⟩ := hl.2 (by have := ok.size1; omega)
          rw [e] at e2
          injection e2 with e2
          injection e2 with e2
          have := h.base
          exact ⟨by omega, by omega, fun q => by have := h.pr b q; omega⟩
        · rintro e W' ⟨rfl, h1, h2, h3⟩
          exact ⟨rfl, Po, _, h.ref h3.out (fun b q => q) h1.out h2.out⟩
  · have hr : x2.add f2 id d = (x2, f2, 1) := by unfold Wh.add; rw [if_neg (by rw [hl.blen]; exact e)]
    rw [hr]
    refine (radd_len id n cap A h.rh e (by omega)).mono ?_
    rintro e W' ⟨rfl, rfl⟩
    exact ⟨rfl, Po, Pr, h⟩
theorem px_open (h : PS w0 w1 G gf gm gB gw gr x1 f1 x2 f2 W) (hd : f1.down = false) (gen size : Nat) (h1 : 1 ≤ size) (h2 : size ≤ 16) :
    Calls Try.prog 8 #[.pointer (some ⟨gf, 0, none⟩), .int .u32 (gen : Int), .int .i64 (size : Int)] W fun e W' => ∃ gw', e = .returned (.tuple #[.pointer (some ⟨gw', 0, none⟩), .int .i64 0]) ∧ PS w0 w1 G gf gm gB gw' gr (opW f1 gen size 8) f1 x2 f2 W' := by
  obtain ⟨Po, Pr, h⟩ := h
  refine (open_any gf gen size f1 W h.fl hd h1 h2).mono ?_
  rintro e W' ⟨gw', rfl, _, q1, q2⟩
  exact ⟨gw', rfl, _, Pr, h.own (Frm.of_below q2.out) (fun b q => .inr q) q1.out (h.fl.below q2.out)⟩
theorem px_ropen (h : PS w0 w1 G gf gm gB gw gr x1 f1 x2 f2 W) (hd : f2.down = false) (gen size : Nat) (h1 : 1 ≤ size) (h2 : size ≤ 16) :
    Calls Try.prog 9 #[.pointer (some ⟨gm, 0, none⟩), .int .u32 (gen : Int), .int .i64 (size : Int)] W fun e W' => ∃ gr', e = .returned (.tuple #[.pointer (some ⟨gr', 0, none⟩), .int .i64 0]) ∧ PS w0 w1 G gf gm gB gw gr' x1 f1 (opW f2 gen size 8) f2 W' := by
  obtain ⟨Po, Pr, h⟩ := h
  refine (ropen_ok gm gB gen size f2 W h.rf hd h1 h2 h.rf.ltm).mono ?_
  rintro e W' ⟨gr', rfl, q1, q2⟩
  exact ⟨gr', rfl, Po, _, h.ref (Frm.of_below q2.out) (fun b q => .inr q) q1.out.less (h.rf.below q2.out)⟩
theorem px_start (h : PS w0 w1 G gf gm gB gw gr x1 f1 x2 f2 W) : Calls Try.prog 14 #[.pointer (some ⟨gf, 0, none⟩)] W fun e W' => e = .returned (.tuple #[]) ∧ PS w0 w1 G gf gm gB gw gr x1 { f1 with down := false } x2 f2 W' := by
  have hf : FlAt W gf f1 := by obtain ⟨_, _, h⟩ := h; exact h.fl
  refine (start_any gf f1 W hf).mono ?_
  rintro e W' ⟨rfl, hd⟩
  exact ⟨rfl, h.done hd.out⟩
theorem px_rstart (h : PS w0 w1 G gf gm gB gw gr x1 f1 x2 f2 W) : Calls Try.prog 15 #[.pointer (some ⟨gm, 0, none⟩)] W fun e W' => e = .returned (.tuple #[]) ∧ PS w0 w1 G gf gm gB gw gr x1 f1 x2 { f2 with down := false } W' := by
  have hf : RfAt W gm gB f2 := by obtain ⟨_, _, h⟩ := h; exact h.rf
  refine (rstart_any hf).mono ?_
  rintro e W' ⟨rfl, hd⟩
  exact ⟨rfl, h.rdone hd.out⟩
theorem px_fuse (h : PS w0 w1 G gf gm gB gw gr x1 f1 x2 f2 W) (n t : Int) : Calls Try.prog 10 #[.pointer (some ⟨gf, 0, none⟩), .int .i64 n, .int .i64 t] W fun e W' => e = .returned (.tuple #[]) ∧ PS w0 w1 G gf gm gB gw gr x1 { f1 with there := decide (0 ≤ n), left := n, torn := t } x2 f2 W' := by
  have hf : FlAt W gf f1 := by obtain ⟨_, _, h⟩ := h; exact h.fl
  refine (fuse_any gf n t f1 W hf).mono ?_
  rintro e W' ⟨rfl, hd⟩
  exact ⟨rfl, h.done hd.out⟩
theorem px_rfuse (h : PS w0 w1 G gf gm gB gw gr x1 f1 x2 f2 W) (n t : Int) (hn : -9223372036854775808 ≤ n ∧ n ≤ 9223372036854775807) : Calls Try.prog 11 #[.pointer (some ⟨gm, 0, none⟩), .int .i64 n, .int .i64 t] W fun e W' => e = .returned (.tuple #[]) ∧ PS w0 w1 G gf gm gB gw gr x1 f1 x2 { f2 with there := decide (0 ≤ n), left := n, torn := t } W' := by
  have hf : RfAt W gm gB f2 := by obtain ⟨_, _, h⟩ := h; exact h.rf
  refine (rfuse_any n t hf hn).mono ?_
  rintro e W' ⟨rfl, hd⟩
  exact ⟨rfl, h.rdone hd.out⟩
end
end Go.Proofs.Ytekaoodagaplmaa
