/- WheelOther: the flash under a wheel that has only grown, another generation beside it. -/
import Derived.Deep.RegionHeld3
import Derived.Test.YtoblapnnpjgpnaaGreatDoorZSQ
import Derived.Test.YtoblapnnpjgpnaaGreatDoorStoAwQ
namespace Go.Proofs.YtoblapnnpjgpnaaGreatDoor
open Go.RowKit
/-- flash of wear 9, never erased: generation 1 has filled all places from 0 to i -/
structure OtF (f : Fl) (size i : Nat) : Prop where
  down : f.down = false
  there : f.there = false
  wear : f.wear = 9
  er : ∀ s, f.er s = 0
  full : ∀ s, s < 8 → s * (256 / (size + 13)) < i → cntB f 1 size s = true
  rest : ∀ s, s < 8 → i ≤ s * (256 / (size + 13)) → allFF (secB f s) = true
theorem plAt_four (b : List UInt8) (w : Nat) (hw : 4 ≤ w) : (plAt b w 0).take 4 = b.take 4 := by
  unfold plAt
  rw [Nat.zero_mul, List.drop_zero, List.take_take, Nat.min_eq_left hw]
theorem cnt_gen2 {f : Fl} {g g' size size' s : Nat} (h : cntB f g size s = true) (hg : g ≠ g') : cntB f g' size' s = false := by
  have := (plB_yes h).2.2
  rw [plAt_four _ _ (by omega)] at this
  apply decide_eq_false
  rintro ⟨_, _, h3⟩
  rw [plAt_four _ _ (by omega)] at h3
  exact hg (this.symm.trans h3)
theorem cnt_blank {f : Fl} {g size s : Nat} (h : allFF (secB f s) = true) (hs : size + 13 ≤ 256) : cntB f g size s = false := by
  unfold cntB
  rw [plAt_sub f s _ 0 (by omega)]
  refine blank_no (allFF_of fun q hq => ?_) (by rw [f.sub_length]; omega)
  rw [f.sub_length] at hq
  rw [sub_get _ _ _ _ hq]
  have := sub_ff2 h q (by omega)
  rwa [show 256 * (6 + s) + 0 * (size + 13) + q = 256 * (6 + s) + q by omega]
theorem OtF.add {f : Fl} {size i id : Nat} {d : List UInt8} (h : OtF f size i) (h1 : 1 ≤ size) (h2 : size ≤ 16) (hd : d.length = size) (hid : id < 4294967296) (hn : (opW f 1 size 8).next = i) (hi : i < 8 * (256 / (size + 13))) :
    ∃ f2, (opW f 1 size 8).add f id d = (opW f2 1 size 8, f2, 0) ∧ OtF f2 size (i + 1) ∧ (opW f2 1 size 8).next = i + 1 ∧ (opW f2 1 size 8).L.length = (opW f 1 size 8).L.length + 1 := by
  have hp := per_bounds h1 h2
  obtain ⟨S, hS⟩ : ∃ S, i / (256 / (size + 13)) = S := ⟨_, rfl⟩
  obtain ⟨j, hj⟩ : ∃ j, i % (256 / (size + 13)) = j := ⟨_, rfl⟩
  have hS8 : S < 8 := by rw [← hS]; exact Nat.div_lt_of_lt_mul (by rw [Nat.mul_comm]; exact hi)
  have hdm := Nat.div_add_mod i (256 / (size + 13))
  rw [hS, hj, Nat.mul_comm] at hdm
  have hjl : j < 256 / (size + 13) := by rw [← hj]; exact Nat.mod_lt _ (by omega)
  have hrd : (opW f 1 size 8).ready = (S : Int) ∨ allFF (secB f S) = true := by
    by_cases e : (opW f 1 size 8).ready = (S : Int)
    · exact .inl e
    · rcases begin_zero (S := S) (j := j) h1 h2 (by rw [hn]; exact hS) (by rw [hn]; exact hj) e with ⟨q, _⟩ | q
      · exact .inr (h.rest S hS8 (by omega))
      · omega
  have hcase := add_cases (f := f) (gen := 1) (size := size) (S := S) (j := j) (id := id) (d := d) h1 h2 hd (by omega) hid h.down (by rw [hn]; exact hi) (by rw [hn]; exact hS) (by rw [hn]; exact hj)
  have hmono2 : ∀ s, S < s → S * (256 / (size + 13)) + 256 / (size + 13) ≤ s * (256 / (size + 13)) := fun s hs => by
    have := Nat.mul_le_mul_right (256 / (size + 13)) hs
    rwa [Nat.succ_mul] at this
  have hmono : ∀ s, s < S → s * (256 / (size + 13)) < S * (256 / (size + 13)) := fun s hs => Nat.mul_lt_mul_of_pos_right hs (by omega)
  rcases hcase with ⟨f2, a1, a2, a3, a4, a5⟩ | ⟨a0, _⟩ | ⟨_, b2, _, _⟩
  · refine ⟨f2, a1, ⟨a4, a5 h.there, a3.wear.trans h.wear, fun s => ?_, fun s hs hsi => ?_, fun s hs hsi => ?_⟩, by rw [a2]; show (opW f 1 size 8).next + 1 = _; rw [hn], by rw [a2]; simp⟩
    · rw [a3.er]
      unfold erW
      rw [if_pos (hrd.imp (fun e => e.symm) (fun h => h))]
      exact h.er s
    · by_cases hsS : s = S
      · rcases opW_state f2 1 size h1 h2 with ⟨c1, _⟩ | ⟨r, i0, c1, c2, c3, c4, c5, c6, c7, c8⟩
        · rw [c1] at a2
          have : (-1 : Int) = (S : Int) := congrArg Wh.ready a2
          omega
        · rw [a2] at c6
          have hrS : r = S := (Int.ofNat.inj (show (S : Int) = (r : Int) from c6)).symm
          rw [hsS, ← hrS]; exact c3
      · have hlt : s < S := by
          rcases Nat.lt_or_gt_of_ne hsS with q | q
          · exact q
          · have := hmono2 s q; omega
        have := h.full s hs (by have := hmono s hlt; omega)
        unfold cntB at this ⊢
        rw [a3.out.sec hsS]; exact this
    · have hsS : s ≠ S := fun q => by rw [q] at hsi; omega
      have := h.rest s hs (by omega)
      rw [a3.out.sec hsS]; exact this
  · rw [h.there] at a0; cases a0
  · rw [h.wear, h.er] at b2; omega
/-- another generation, of another size maybe: it finds nothing -/
theorem OtF.other {f : Fl} {size i : Nat} (h : OtF f size i) (size' : Nat) (h2 : size' ≤ 16) : opW f 2 size' 8 = ⟨2, size', [], -1, 0⟩ :=
  opW_skip 8 (Nat.zero_le _) fun s _ hs => by
    by_cases hi : s * (256 / (size + 13)) < i
    · exact cnt_gen2 (h.full s hs hi) (by omega)
    · exact cnt_blank (h.rest s hs (by omega)) (by omega)
/-- its first record -/
theorem OtF.first {f : Fl} {size i size' id : Nat} {d : List UInt8} (h : OtF f size i) (hs1 : 1 ≤ size) (hs2 : size ≤ 16) (h1 : 1 ≤ size') (h2 : size' ≤ 16) (hd : d.length = size') (hid : id < 4294967296) :
    ∃ f2, (⟨2, size', [], -1, 0⟩ : Wh).add f id d = (opW f2 2 size' 8, f2, 0) ∧ (opW f2 2 size' 8).L = [(id, d)] ∧ f2.down = false ∧ (0 < i → f2.er 6 = 1) ∧ ∀ k, (opW f2 1 size k).L.length ≤ (opW f 1 size k).L.length := by
  have ho := h.other size' h2
  have hp := per_bounds h1 h2
  have hcase := add_cases (f := f) (gen := 2) (size := size') (S := 0) (j := 0) (id := id) (d := d) h1 h2 hd (by omega) hid h.down (by rw [ho]; show 0 < _; omega) (by rw [ho]; exact Nat.zero_div _) (by rw [ho]; exact Nat.zero_mod _)
  rcases hcase with ⟨f2, a1, a2, a3, a4, a5⟩ | ⟨a0, _⟩ | ⟨_, b2, _, _⟩
  · rw [ho] at a1
    refine ⟨f2, a1, by rw [a2, ho]; rfl, a4, fun hi => ?_, ?_⟩
    · rw [a3.er, ho]
      unfold erW
      have hc := h.full 0 (by omega) (by omega)
      have hnf : allFF (secB f 0) = false := by
        cases e : allFF (secB f 0) with
        | false => rfl
        | true => rw [cnt_blank e (by omega)] at hc; cases hc
      rw [if_neg (by rw [hnf]; simp)]
      unfold erUp
      rw [if_pos rfl, h.er]
      rfl
    · have hc2 : cntB f2 2 size' 0 = true := by
        rcases opW_state f2 2 size' h1 h2 with ⟨c1, _⟩ | ⟨r, i0, c1, c2, c3, c4, c5, c6, c7, c8⟩
        · rw [c1] at a2
          have : (-1 : Int) = ((0 : Nat) : Int) := congrArg Wh.ready a2
          omega
        · rw [a2] at c6
          have hrS : r = 0 := (Int.ofNat.inj (show ((0 : Nat) : Int) = (r : Int) from c6)).symm
          rw [← hrS]; exact c3
      have hc1 : cntB f2 1 size 0 = false := cnt_gen2 hc2 (by omega)
      intro k
      induction k with
      | zero => exact Nat.le_refl _
      | succ k ih =>
        cases hq : cntB f2 1 size k with
        | false =>
          rw [opW_no hq]
          cases hq2 : cntB f 1 size k with
          | false => rw [opW_no hq2]; exact ih
          | true =>
            rw [opW_yes hq2]
            show _ ≤ ((opW f 1 size k).L ++ _).length
            rw [List.length_append]
            omega
        | true =>
          have hk : k ≠ 0 := fun e => by rw [e, hc1] at hq; cases hq
          have hs := a3.out.sec hk
          have hq2 : cntB f 1 size k = true := by
            unfold cntB at hq ⊢
            rw [hs] at hq; exact hq
          rw [opW_yes hq, opW_yes hq2]
          show ((opW f2 1 size k).L ++ recsUp (opW f2 1 size k).gen (opW f2 1 size k).wide (secB f2 k) _).length ≤ ((opW f 1 size k).L ++ recsUp (opW f 1 size k).gen (opW f 1 size k).wide (secB f k) _).length
          unfold Wh.wide
          rw [opW_gen, opW_gen, opW_size, opW_size, hs, List.length_append, List.length_append]
          omega
  · rw [h.there] at a0; cases a0
  · rw [h.wear, h.er] at b2; omega
theorem OtF.new (size : Nat) : OtF ((flNew 9).fill 0 3584) size 0 :=
  ⟨rfl, rfl, rfl, fun _ => rfl, fun s _ h => absurd h (by omega), fun s hs _ => allFF_of fun q hq => by
    rw [secB_length] at hq
    unfold secB
    rw [sub_get _ _ _ _ hq]
    show (if 0 ≤ _ ∧ _ < 0 + 3584 then (255 : UInt8) else _) = 255
    rw [if_pos (by omega)]⟩
end Go.Proofs.YtoblapnnpjgpnaaGreatDoor
namespace Go.Proofs.YtoblapnnpjgpnaaGreatDoor.Sto
open Go.RowKit
open VecM RdM Vc Sp Pc El Cd Dc
theorem add_L (x : Wh) (f : Fl) (id : Nat) (d : List UInt8) (h : (x.add f id d).2.2 = 0) : (x.add f id d).1.L = x.L ++ [(id, d)] := by
  unfold Wh.add at h ⊢
  split at h
  · rename_i h1
    rw [if_pos h1]
    split at h
    · cases h
    · rename_i h2
      rw [if_neg h2]
      split at h
      · cases h
      · rename_i h3
        rw [if_neg h3]
        split at h
        · rename_i h4
          rw [if_pos h4]
          split at h
          · rename_i h5
            rw [if_pos h5]
          · rename_i h5
            exact absurd h h5
        · rename_i h4
          exact absurd h h4
  · cases h
/-- a store over flash that only grew: what it found is what it is -/
structure AN (s K P Z len k : Nat) (f : Fl) : Prop where
  i : ∃ i, i ≤ k ∧ OtF f Z i ∧ (opW f 1 Z 8).next = i
  s : s < 4294967296
  K : 1 ≤ K ∧ K ≤ 64
  P : P ≤ 16
  Z : 1 ≤ Z ∧ Z ≤ 16
  f : f.Ok (400 * (k : Int))
theorem AN.ok {s K P Z len k : Nat} {f : Fl} (h : AN s K P Z len k f) : StOk (openQ 1 s K P Z len f) k := openQ_ok 1 s K P Z len k f h.f (by omega) h.s h.K h.P h.Z
theorem AN.down {s K P Z len k : Nat} {f : Fl} (h : AN s K P Z len k f) : f.down = false := by
  obtain ⟨i, _, h1, _⟩ := h.i
  exact h1.down
theorem put_dupQ {q : StD} {id : Nat} {d : List UInt8} (hd : d.length = q.Z) (hz : (redM q.M (spX q.s q.K q.P id) [] (q.K + q.P)).1 = 0) : q.put id d = (q, 8) := by
  unfold StD.put
  rw [if_pos hd, if_pos hz]
theorem put_newQ {q : StD} {id : Nat} {d : List UInt8} {x2 : Wh} {f2 : Fl} (hd : d.length = q.Z) (hz : ¬ (redM q.M (spX q.s q.K q.P id) [] (q.K + q.P)).1 = 0) (ha : q.x.add q.f id d = (x2, f2, 0)) :
    q.put id d = (⟨q.s, q.K, q.P, q.Z, q.len, x2, f2, (addMx (q.K + q.P) q.M (spX q.s q.K q.P id) d).1, q.t + if (addMx (q.K + q.P) q.M (spX q.s q.K q.P id) d).2 then 1 else 0⟩, 0) := by
  unfold StD.put
  rw [if_pos hd, if_neg hz, ha]
  exact if_pos rfl
theorem openQ_snoc {gen s K P Z len : Nat} {f f2 : Fl} {p : Nat × List UInt8} (h : (opW f2 gen Z 8).L = (opW f gen Z 8).L ++ [p]) :
    openQ gen s K P Z len f2 = ⟨s, K, P, Z, len, opW f2 gen Z 8, f2, (takeS s K P ((openQ gen s K P Z len f).M, (openQ gen s K P Z len f).t) p).1, (takeS s K P ((openQ gen s K P Z len f).M, (openQ gen s K P Z len f).t) p).2⟩ := by
  unfold openQ
  rw [h, List.foldl_append]
  generalize opW f2 gen Z 8 = x2
  generalize List.foldl (takeS s K P) (matR s K P Z P, 0) (opW f gen Z 8).L = R
  rfl
theorem openQ_flds (gen s K P Z len : Nat) (f : Fl) : ∃ Q : StD, openQ gen s K P Z len f = Q ∧ Q.s = s ∧ Q.K = K ∧ Q.P = P ∧ Q.Z = Z ∧ Q.len = len ∧ Q.x = opW f gen Z 8 ∧ Q.f = f := by
  unfold openQ
  generalize List.foldl (takeS s K P) (matR s K P Z P, 0) (opW f gen Z 8).L = R
  generalize opW f gen Z 8 = x
  exact ⟨_, rfl, rfl, rfl, rfl, rfl, rfl, rfl, rfl⟩
theorem ker_after {s K P Z id : Nat} {M : Mx} {d : List UInt8} (h : Inv (K + P) Z M) (hn : K + P ≤ 256) (hd : d.length = Z) : (redM (addMx (K + P) M (spX s K P id) d).1 (spX s K P id) [] (K + P)).1 = 0 := by
  have hlt : spX s K P id < 2 ^ (K + P) := spX_lt
  have g0 : Got (K + P) Z M (rowsP M) := ⟨h, fun X => ker_span h X⟩
  have g1 := g0.add hn hlt hd
  exact (ker_red g1.inv _ _).2 ((g1.ker _).2 (.one (.inr rfl)))
/-- what Put does to it -/
theorem AN.put {s K P Z len k id : Nat} {f : Fl} {d : List UInt8} (h : AN s K P Z len k f) (hk : k < 60) (hd : d.length = Z) (hid : id < 4294967296) :
    ∃ f2 r, (openQ 1 s K P Z len f).put id d = (openQ 1 s K P Z len f2, r) ∧ (r = 0 ∨ r = 8) ∧ AN s K P Z len (k + 1) f2 ∧ (redM (openQ 1 s K P Z len f2).M (spX s K P id) [] (K + P)).1 = 0 := by
  have hinv := h.ok.inv
  have hK := h.K
  have hP := h.P
  have hZ := h.Z
  obtain ⟨Q, hQ, q1, q2, q3, q4, q5, q6, q7⟩ := openQ_flds 1 s K P Z len f
  rw [hQ] at hinv ⊢
  by_cases hz : (redM Q.M (spX s K P id) [] (K + P)).1 = 0
  · refine ⟨f, 8, ?_, .inr rfl, ?_, by rw [hQ]; exact hz⟩
    · rw [hQ]
      exact put_dupQ (by rw [q4]; exact hd) (by rw [q1, q2, q3]; exact hz)
    · obtain ⟨i, h1, h2, h3⟩ := h.i
      exact ⟨⟨i, by omega, h2, h3⟩, h.s, hK, hP, hZ, h.f.more (by push_cast; omega)⟩
  · obtain ⟨i, h1, h2, h3⟩ := h.i
    have hpb := per_bounds hZ.1 hZ.2
    obtain ⟨f2, e1, e2, e3, _⟩ := h2.add hZ.1 hZ.2 hd hid h3 (by omega)
    have eL := add_L (opW f 1 Z 8) f id d (by rw [e1])
    rw [e1] at eL
    have hf2 : f2.Ok (400 * ((k + 1 : Nat) : Int)) := by
      have := h.f.addW (opW f 1 Z 8) id d (by omega)
      rw [e1] at this
      exact this.more (by push_cast; omega)
    have hS := openQ_snoc (gen := 1) (s := s) (K := K) (P := P) (Z := Z) (len := len) (f := f) (f2 := f2) (p := (id, d)) eL
    rw [hQ] at hS
    have hp := put_newQ (q := Q) (id := id) (d := d) (by rw [q4]; exact hd) (by rw [q1, q2, q3]; exact hz) (by rw [q6, q7]; exact e1)
    rw [q1, q2, q3, q4, q5] at hp
    rw [q2, q3, q4] at hinv
    have hker := ker_after (s := s) (id := id) hinv (by omega) hd
    refine ⟨f2, 0, ?_, .inl rfl, ⟨⟨i + 1, by omega, e2, e3⟩, h.s, hK, hP, hZ, hf2⟩, ?_⟩
    · rw [hp, hS]
      generalize opW f2 1 Z 8 = x2
      rfl
    · rw [hS]
      exact hker
/-- under another generation nothing is found -/
theorem AN.other {s K P Z len k : Nat} {f : Fl} (h : AN s K P Z len k f) : (openQ 2 s K P Z len f).t = 0 ∧ rankM (openQ 2 s K P Z len f).M = P := by
  obtain ⟨i, _, h2, _⟩ := h.i
  have e := h2.other Z h.Z.2
  have hK := h.K
  have hP := h.P
  have hr := matR_rank (s := s) (Z := Z) (show K + P ≤ 80 by omega) P (Nat.le_refl _)
  unfold openQ
  rw [e]
  generalize matR s K P Z P = R at *
  exact ⟨rfl, hr⟩
/-- two boxes that stay -/
def boxO (g1 g2 : Nat) (o1 o2 : Go.Obj) : Dc.Obj := fun W F => F g1 ∧ F g2 ∧ W.heap[g1]? = some o1 ∧ W.heap[g2]? = some o2
theorem keeps_box (g1 g2 : Nat) (o1 o2 : Go.Obj) : Keeps (boxO g1 g2 o1 o2) := fun _ _ _ h hk _ =>
  ⟨h.1, h.2.1, (hk g1 h.1 (Array.getElem?_eq_some_iff.1 h.2.2.1).1).trans h.2.2.1, (hk g2 h.2.1 (Array.getElem?_eq_some_iff.1 h.2.2.2).1).trans h.2.2.2⟩
section
variable {A B : Dc.Obj} {w0 W W' : World} {gf gs gt g1 g2 : Nat} {q : StD} {o1 o2 : Go.Obj}
theorem sep_sto {C : Dc.Obj} (S : Sep3 (stoO gf gs q) B C w0 W) : IsSto gf gs q W (fun _ => True) := by
  obtain ⟨F, G, H, a, r⟩ := S
  exact IsSto.more a (fun _ _ => trivial)
theorem sep_fl {C : Dc.Obj} (S : Sep3 (stoO gf gs q) B C w0 W) : FlAt W gf q.f := by
  obtain ⟨_, _, _, gw, gd, P, Fd, _, _, h6, _⟩ := sep_sto S
  exact h6
theorem sep_start {C : Dc.Obj} {f : Fl} (S : Sep3 (flO gf f) B C w0 W) (kB : Keeps B) (kC : Keeps C) (hb : Below W.heap.size W W') (hs : IsSto gf gs q W' (fun b => b = gf ∨ (W.heap.size ≤ b ∧ b < W'.heap.size))) : Sep3 (stoO gf gs q) B C w0 W' := by
  obtain ⟨F, hA, hF, next⟩ := S.first kB kC
  exact next W' (stoO gf gs q) (hs.more (fun b h => by
    rcases h with rfl | h
    · exact .inl hA.1
    · exact .inr h)) (Fr.of_below hb)
/-- the three objects, and a row of bytes beside them -/
def SepR (A B C : Dc.Obj) (R : Option Addr) (w0 W : World) : Prop :=
  ∃ F G H, A W F ∧ B W G ∧ C W H ∧ (∀ b, F b → G b → False) ∧ (∀ b, F b → H b → False) ∧ (∀ b, G b → H b → False) ∧ (∀ b, F b ∨ G b ∨ H b → w0.heap.size ≤ b ∧ b < W.heap.size) ∧ Below w0.heap.size w0 W ∧ (∀ b o, R = some ⟨b, o, none⟩ → ¬ F b)
def SymR (A C : Dc.Obj) (s K P Z : Nat) (img : List UInt8) (id gh : Nat) (w0 : World) (e : Ending) (w' : World) : Prop :=
  ∃ R c, e = .returned (.slice R Z c) ∧ Hid (Row w' w'.heap.size R Z (bv (symX s K P Z img id))) ∧ Hid (SepR A (headO s K P Z img gh) C R w0 w')
theorem sym_sep {C : Dc.Obj} {s K P Z id gh : Nat} {img : List UInt8} (S : Sep3 A (headO s K P Z img gh) C w0 W) (kA : Keeps A) (kC : Keeps C) (hs : s < 4294967296) (hid : id < 4294967296) (hK : 1 ≤ K ∧ K ≤ 64) (hP : P ≤ 16) (hZ : 1 ≤ Z ∧ Z ≤ 16) (hc : BlkM.count (img.length : Int) (Z : Int) = K) (ht : DTab w0) :
    Calls Tryz.prog 19 #[.pointer (some ⟨gh, 0, none⟩), .int .u32 (id : Int)] W (SymR A C s K P Z img id gh w0) := by
  obtain ⟨F, G, H, a, b, c, h1, h2, h3, h4, h5⟩ := S
  refine (symH (id := id) b hs hid hK hP hZ hc (ht.grow h5)).mono ?_
  rintro e W' ⟨R, cc, rfl, ho, hh, hf⟩
  have hsz := hf.out.size
  have hs5 := h5.size
  refine ⟨R, cc, rfl, Lib.hid (Row.of_own ho.out), Lib.hid ⟨F, (fun b => G b ∨ (W.heap.size ≤ b ∧ b < W'.heap.size)), H, kA W W' F a (fun q hq hl => hf.out.block q hl fun hG => h1 q hq hG) hsz, hh.out, kC W W' H c (fun q hq hl => hf.out.block q hl fun hG => h3 q hG hq) hsz, ?_, h2, ?_, ?_, h5.trans (hf.out.below (fun q hq => (h4 q (.inr (.inl hq))).1) hs5), ?_⟩⟩
  · rintro x hx (h | h)
    · exact h1 x hx h
    · have := h4 x (.inl hx); omega
  · rintro x (h | h) hx
    · exact h3 x h hx
    · have := h4 x (.inr (.inr hx)); omega
  · rintro x (h | (h | h) | h)
    · have := h4 x (.inl h); exact ⟨this.1, by omega⟩
    · have := h4 x (.inr (.inl h)); exact ⟨this.1, by omega⟩
    · exact ⟨by omega, h.2⟩
    · have := h4 x (.inr (.inr h)); exact ⟨this.1, by omega⟩
  · intro x o e hF
    obtain ⟨g, cc9, hv, hg, hl⟩ := ho.out.form hZ.1
    injection hv with e1 e2 e3
    rw [e] at e1
    injection e1 with e1
    injection e1 with e1
    have := h4 x (.inl hF)
    omega
/-- Put of that row -/
theorem put_sep {C : Dc.Obj} {q' : StD} {r : Int} {k id c : Nat} {R : Option Addr} {d : List UInt8} (S : SepR (stoO gf gs q) B C R w0 W) (kB : Keeps B) (kC : Keeps C) (ok : StOk q k) (hk : k ≤ 900) (hid : id < 4294967296) (hl : Row W W.heap.size R q.Z (bv d)) (ht : DTab w0) (hq : q.put id d = (q', r)) :
    Calls Tryz.prog 9 #[.pointer (some ⟨gs, 0, none⟩), .int .u32 (id : Int), .slice R q.Z c] W fun e W' => e = .returned (.int .i64 r) ∧ Hid (Sep3 (stoO gf gs q') B C w0 W') := by
  obtain ⟨F, G, H, a, b, cc, h1, h2, h3, h4, h5, h6⟩ := S
  have hput := put_any gf gs q F k hk id q.Z c R d W a ok (fun W' hW => ht.grow (h5.trans (hW.below (fun q hq => (h4 q (.inl hq)).1) h5.size))) hl (fun b o e _ => h6 b o e) hid
  rw [hq] at hput
  refine hput.mono ?_
  rintro e W' ⟨rfl, hs, hf⟩
  have hsz := hf.out.size
  have hs5 := h5.size
  refine ⟨rfl, Lib.hid ⟨(fun b => F b ∨ (W.heap.size ≤ b ∧ b < W'.heap.size)), G, H, hs.out, kB W W' G b (fun q hq hl => hf.out.block q hl fun hF => h1 q hF hq) hsz, kC W W' H cc (fun q hq hl => hf.out.block q hl fun hF => h2 q hF hq) hsz, ?_, ?_, h3, ?_, h5.trans (hf.out.below (fun q hq => (h4 q (.inl hq)).1) hs5)⟩⟩
  · rintro x (h | h) hx
    · exact h1 x h hx
    · have := h4 x (.inr (.inl hx)); omega
  · rintro x (h | h) hx
    · exact h2 x h hx
    · have := h4 x (.inr (.inr hx)); omega
  · rintro x ((h | h) | h | h)
    · have := h4 x (.inl h); exact ⟨this.1, by omega⟩
    · exact ⟨by omega, h.2⟩
    · have := h4 x (.inr (.inl h)); exact ⟨this.1, by omega⟩
    · have := h4 x (.inr (.inr h)); exact ⟨this.1, by omega⟩
end
end Go.Proofs.YtoblapnnpjgpnaaGreatDoor.Sto
namespace Go.Proofs.YtoblapnnpjgpnaaGreatDoor.Sto
open Go.RowKit
open VecM RdM Vc Sp Pc El Cd Dc
theorem opW_bs {f f' : Fl} (h : f'.bs = f.bs) (gen size k : Nat) : opW f' gen size k = opW f gen size k :=
  opW_congr k fun s _ => by unfold secB Fl.sub; rw [h]
theorem erW_le (f : Fl) (rd : Int) (S s : Nat) : f.er s ≤ erW f rd S s ∧ erW f rd S s ≤ f.er s + 1 := by
  unfold erW
  split
  · omega
  · unfold erUp
    split
    · rename_i h; rw [h]; omega
    · omega
theorem ok_fuse {f : Fl} {k : Int} (h : f.Ok k) (b : Bool) (n : Nat) (t : Int) (hn : n ≤ 100) : ({ f with there := b, left := (n : Int), torn := t } : Fl).Ok k := ⟨h.1, h.2.1, ⟨by show -9223372036854775808 ≤ (n : Int); omega, by show (n : Int) ≤ 9223372036854775807; omega⟩, h.2.2.2.1, h.2.2.2.2⟩
theorem openQ_bs {gen s K P Z len : Nat} {f f' : Fl} (h : f'.bs = f.bs) : openQ gen s K P Z len f' = { openQ gen s K P Z len f with f := f' } := by
  unfold openQ
  rw [opW_bs h]
theorem openQ_mt (gen s K P Z len : Nat) (f : Fl) : ∃ Q : StD, openQ gen s K P Z len f = Q ∧ Q.K = K ∧ Q.P = P ∧ Q.Z = Z ∧ Q.M = ((opW f gen Z 8).L.foldl (takeS s K P) (matR s K P Z P, 0)).1 ∧ Q.t = ((opW f gen Z 8).L.foldl (takeS s K P) (matR s K P Z P, 0)).2 := by
  unfold openQ
  generalize List.foldl (takeS s K P) (matR s K P Z P, 0) (opW f gen Z 8).L = R
  generalize opW f gen Z 8 = x
  exact ⟨_, rfl, rfl, rfl, rfl, rfl, rfl⟩
/-- what stays true of a store: s numbers, n its records, b: no fuse yet -/
structure KP (s K P Z len k : Nat) (img : List UInt8) (b : Bool) (f : Fl) : Prop where
  down : f.down = false
  wear : f.wear = 100
  er : ∀ i, f.er i ≤ (k : Int)
  ok : f.Ok (400 * (k : Int))
  hs : s < 4294967296
  hK : 1 ≤ K ∧ K ≤ 64
  hP : P ≤ 16
  hZ : 1 ≤ Z ∧ Z ≤ 16
  dat : ∀ p ∈ (opW f 1 Z 8).L, p.2 = symX s K P Z img p.1
  new : (openQ 1 s K P Z len f).t = (opW f 1 Z 8).L.length
  nxt : b = true → f.there = false ∧ (opW f 1 Z 8).next = (opW f 1 Z 8).L.length
section
variable {s K P Z len k : Nat} {img : List UInt8} {b : Bool} {f : Fl}
theorem KP.sto (h : KP s K P Z len k img b f) : StOk (openQ 1 s K P Z len f) k := openQ_ok 1 s K P Z len k f h.ok (by omega) h.hs h.hK h.hP h.hZ
theorem KP.more (h : KP s K P Z len k img b f) : KP s K P Z len (k + 1) img b f := ⟨h.down, h.wear, fun i => by have := h.er i; push_cast; omega, h.ok.more (by push_cast; omega), h.hs, h.hK, h.hP, h.hZ, h.dat, h.new, h.nxt⟩
theorem takeS_rank (hn : K + P ≤ 80) : ∀ (l : List (Nat × List UInt8)) (r : Mx × Nat), (∀ p ∈ l, p.2.length = Z) → Inv (K + P) Z r.1 → rankM r.1 = P + r.2 → rankM (l.foldl (takeS s K P) r).1 = P + (l.foldl (takeS s K P) r).2
  | [], _, _, _, h => h
  | p :: l, r, hl, hi, h => by
    have hp := hl p (List.mem_cons_self ..)
    refine takeS_rank hn l (takeS s K P r p) (fun q hq => hl q (List.mem_cons_of_mem _ hq)) (addMx_inv hi (by omega) (spX_lt (s := s) (K := K) (P := P) (id := p.1)) hp) ?_
    have := rank_add hi (by omega) (spX_lt (s := s) (K := K) (P := P) (id := p.1)) hp
    show rankM (addMx (K + P) r.1 (spX s K P p.1) p.2).1 = P + (r.2 + if (addMx (K + P) r.1 (spX s K P p.1) p.2).2 then 1 else 0)
    rw [this, h]; omega
theorem takeS_data (hK : 1 ≤ K) (hn : K + P ≤ 80) : ∀ (l : List (Nat × List UInt8)) (r : Mx × Nat), (∀ p ∈ l, p.2 = symX s K P Z img p.1) → Inv (K + P) Z r.1 → DataOf (dataX s K P Z img) r.1 → DataOf (dataX s K P Z img) (l.foldl (takeS s K P) r).1
  | [], _, _, _, h => h
  | p :: l, r, hl, hi, h => by
    have hp := hl p (List.mem_cons_self ..)
    have hs : p.2.length = Z := by rw [hp]; exact symX_length hK hn
    refine takeS_data hK hn l (takeS s K P r p) (fun q hq => hl q (List.mem_cons_of_mem _ hq)) (addMx_inv hi (by omega) (spX_lt (s := s) (K := K) (P := P) (id := p.1)) hs) ?_
    have h2 := h.add (dataX_add s K P Z img) hi (by omega) (spX_lt (s := s) (K := K) (P := P) (id := p.1)) (dataX_length s K P Z img _)
    rw [dataX_sym hK hn, ← hp] at h2
    exact h2
/-- how many are needed, and what the image is -/
theorem KP.rank (h : KP s K P Z len k img b f) : rankM (openQ 1 s K P Z len f).M = P + (openQ 1 s K P Z len f).t ∧ (openQ 1 s K P Z len f).t ≤ K ∧ DataOf (dataX s K P Z img) (openQ 1 s K P Z len f).M := by
  have hK := h.hK
  have hP := h.hP
  have hZ := h.hZ
  have hinv := h.sto.inv
  have hr := opW_reclen f 1 Z hZ.1 hZ.2 8 (by omega)
  have hd := h.dat
  have hg := matR_got (s := s) (Z := Z) (show K + P ≤ 80 by omega) P (Nat.le_refl _)
  have h1 := takeS_rank (s := s) (Z := Z) (by omega) (opW f 1 Z 8).L (matR s K P Z P, 0) hr hg.inv (by rw [matR_rank (by omega) P (Nat.le_refl _)]; exact (Nat.add_zero P).symm)
  have h2 := takeS_data (img := img) hK.1 (by omega) (opW f 1 Z 8).L (matR s K P Z P, 0) hd hg.inv (matR_data (by omega) P (Nat.le_refl _))
  obtain ⟨Q, hQ, q2, q3, q4, hM, ht⟩ := openQ_mt 1 s K P Z len f
  rw [hQ] at hinv ⊢
  rw [q2, q3, q4] at hinv
  rw [← hM, ← ht] at h1
  rw [← hM] at h2
  have := rank_le hinv
  exact ⟨h1, by omega, h2⟩
/-- a fuse; power again -/
theorem KP.fuse (h : KP s K P Z len k img b f) (c : Bool) (n : Nat) (t : Int) (hn : n ≤ 100) : KP s K P Z len k img false { f with there := c, left := (n : Int), torn := t } := by
  have e : opW { f with there := c, left := (n : Int), torn := t } 1 Z 8 = opW f 1 Z 8 := opW_bs rfl 1 Z 8
  have e2 := openQ_bs (gen := 1) (s := s) (K := K) (P := P) (Z := Z) (len := len) (f := f) (f' := { f with there := c, left := (n : Int), torn := t }) rfl
  refine ⟨h.down, h.wear, h.er, ok_fuse h.ok c n t hn, h.hs, h.hK, h.hP, h.hZ, by rw [e]; exact h.dat, ?_, fun x => by cases x⟩
  have e3 : (openQ 1 s K P Z len { f with there := c, left := (n : Int), torn := t }).t = (openQ 1 s K P Z len f).t := by
    rw [e2]
  rw [e, e3]
  exact h.new
end
/-- what Put does: kept, known, full, or power goes -/
theorem KP.put {s K P Z len k id : Nat} {img : List UInt8} {b : Bool} {f : Fl} (h : KP s K P Z len k img b f) (hk : k < 90) (hid : id < 4294967296) :
    ∃ (q2 : StD) (r : Int), (openQ 1 s K P Z len f).put id (symX s K P Z img id) = (q2, r) ∧
      ((r = 0 ∧ KP s K P Z len (k + 1) img b q2.f ∧ q2 = openQ 1 s K P Z len q2.f ∧ q2.t = (openQ 1 s K P Z len f).t + 1) ∨
       (r = 8 ∧ q2 = openQ 1 s K P Z len f) ∨
       (r = 9 ∧ b = false ∧ q2 = openQ 1 s K P Z len f) ∨
       (r = 11 ∧ b = false ∧ KP s K P Z len (k + 1) img false { q2.f with down := false } ∧ ((openQ 1 s K P Z len { q2.f with down := false }).t = (openQ 1 s K P Z len f).t ∨ (openQ 1 s K P Z len { q2.f with down := false }).t = (openQ 1 s K P Z len f).t + 1))) := by
  have hrk := h.rank
  have hinv := h.sto.inv
  have hK := h.hK
  have hP := h.hP
  have hZ := h.hZ
  have hd : (symX s K P Z img id).length = Z := symX_length hK.1 (by omega)
  have hpb := per_bounds hZ.1 hZ.2
  have hnl := opW_next f 1 Z 8
  have hnew := h.new
  have hreach := h.sto.xi.ok
  obtain ⟨Q, hQ, q1, q2, q3, q4, q5, q6, q7⟩ := openQ_flds 1 s K P Z len f
  rw [hQ] at hrk hinv hnew hreach ⊢
  rw [q2, q3, q4] at hinv
  by_cases hz : (redM Q.M (spX s K P id) [] (K + P)).1 = 0
  · exact ⟨Q, 8, put_dupQ (by rw [q4]; exact hd) (by rw [q1, q2, q3]; exact hz), .inr (.inl ⟨rfl, rfl⟩)⟩
  have hadd : (addMx (K + P) Q.M (spX s K P id) (symX s K P Z img id)).2 = true := by
    have hz2 : ¬ (redM Q.M (spX s K P id) (symX s K P Z img id) (K + P)).1 = 0 := by rw [redM_bits Q.M (spX s K P id) (symX s K P Z img id) [] (K + P)]; exact hz
    unfold addMx
    rw [if_neg hz2]
  have hput : Q.put id (symX s K P Z img id) = if (Q.x.add Q.f id (symX s K P Z img id)).2.2 = 0 then ({ Q with x := (Q.x.add Q.f id (symX s K P Z img id)).1, f := (Q.x.add Q.f id (symX s K P Z img id)).2.1, M := (addMx (Q.K + Q.P) Q.M (spX Q.s Q.K Q.P id) (symX s K P Z img id)).1, t := Q.t + if (addMx (Q.K + Q.P) Q.M (spX Q.s Q.K Q.P id) (symX s K P Z img id)).2 then 1 else 0 }, 0)
      else ({ Q with x := (Q.x.add Q.f id (symX s K P Z img id)).1, f := (Q.x.add Q.f id (symX s K P Z img id)).2.1 }, (Q.x.add Q.f id (symX s K P Z img id)).2.2) := by
    unfold StD.put
    rw [if_pos (by rw [q4]; exact hd), if_neg (by rw [q1, q2, q3]; exact hz)]
  have hOk1 : (Q.x.add Q.f id (symX s K P Z img id)).2.1.Ok (400 * ((k + 1 : Nat) : Int)) := by
    rw [q6, q7]
    exact (h.ok.addW (opW f 1 Z 8) id _ (by omega)).more (by push_cast; omega)
  by_cases hfull : (opW f 1 Z 8).next = 8 * (256 / (Z + 13))
  · -- full
    have hb : b = false := by
      cases b with
      | false => rfl
      | true =>
        have e := (h.nxt rfl).2
        exfalso
        have h1 := hrk.2.1
        have h2 : rankM Q.M ≠ K + P := by
          intro e2
          exact hz (full_says hinv e2 spX_lt [])
        have h3 := hrk.1
        omega
    have hax : Q.x.add Q.f id (symX s K P Z img id) = (Q.x, Q.f, 9) := by
      rw [q6, q7]
      unfold Wh.add
      have hsz : (opW f 1 Z 8).size = Z := opW_size f 1 Z 8
      rw [if_pos (by rw [hsz]; exact hd), if_pos (by unfold Wh.per; rw [hsz]; exact hfull)]
    rw [hax] at hput
    refine ⟨Q, 9, ?_, .inr (.inr (.inl ⟨rfl, hb, rfl⟩))⟩
    rw [hput]
    exact if_neg (show ¬ (9 : Int) = 0 by decide)
  obtain ⟨S, hS⟩ : ∃ S, (opW f 1 Z 8).next / (256 / (Z + 13)) = S := ⟨_, rfl⟩
  obtain ⟨j, hj⟩ : ∃ j, (opW f 1 Z 8).next % (256 / (Z + 13)) = j := ⟨_, rfl⟩
  have hac := add_cases (f := f) (gen := 1) (size := Z) (S := S) (j := j) (id := id) (d := symX s K P Z img id) hZ.1 hZ.2 hd (by omega) hid h.down (by omega) hS hj
  have hmore : ∀ f2 : Fl, (opW f2 1 Z 8).L = (opW f 1 Z 8).L ++ [(id, symX s K P Z img id)] → openQ 1 s K P Z len f2 = ⟨s, K, P, Z, len, opW f2 1 Z 8, f2, (addMx (K + P) Q.M (spX s K P id) (symX s K P Z img id)).1, Q.t + 1⟩ := by
    intro f2 e
    have hS := openQ_snoc (gen := 1) (s := s) (K := K) (P := P) (Z := Z) (len := len) (f := f) (f2 := f2) (p := (id, symX s K P Z img id)) e
    rw [hQ] at hS
    rw [hS]
    generalize opW f2 1 Z 8 = x2
    unfold takeS
    dsimp only
    rw [hadd]
    rfl
  rcases hac with ⟨f2, a1, a2, a3, a4, a5⟩ | ⟨a0, hx, f2, a1, a2, a3, a4, a5⟩ | ⟨_, a1, _, _⟩
  · -- kept
    have eL : (opW f2 1 Z 8).L = (opW f 1 Z 8).L ++ [(id, symX s K P Z img id)] := by rw [a2]
    have eN : (opW f2 1 Z 8).next = (opW f 1 Z 8).next + 1 := by rw [a2]
    have hm := hmore f2 eL
    have hax : Q.x.add Q.f id (symX s K P Z img id) = (opW f2 1 Z 8, f2, 0) := by rw [q6, q7]; exact a1
    have hp := put_newQ (q := Q) (id := id) (d := symX s K P Z img id) (by rw [q4]; exact hd) (by rw [q1, q2, q3]; exact hz) hax
    rw [q1, q2, q3, q4, q5, hadd] at hp
    rw [hax] at hOk1
    refine ⟨openQ 1 s K P Z len f2, 0, ?_, .inl ⟨rfl, ?_, ?_, ?_⟩⟩
    · rw [hp, hm]
      generalize opW f2 1 Z 8 = x2
      rfl
    · have e : (openQ 1 s K P Z len f2).f = f2 := by rw [hm]
      rw [e]
      refine ⟨a4, a3.wear.trans h.wear, fun i => ?_, hOk1, h.hs, hK, hP, hZ, ?_, ?_, ?_⟩
      · rw [a3.er]
        have := (erW_le f (opW f 1 Z 8).ready S i).2
        have := h.er i
        push_cast; omega
      · rw [eL]
        intro p hp
        rcases List.mem_append.1 hp with hp | hp
        · exact h.dat p hp
        · obtain rfl := List.mem_singleton.1 hp; rfl
      · rw [hm, eL]
        show Q.t + 1 = _
        rw [List.length_append, hnew]; rfl
      · intro hb
        refine ⟨a5 (h.nxt hb).1, ?_⟩
        rw [eN, eL, List.length_append, (h.nxt hb).2]; rfl
    · have e : (openQ 1 s K P Z len f2).f = f2 := by rw [hm]
      rw [e]
    · rw [hm]
  · -- power goes
    have hb : b = false := by
      cases b with
      | false => rfl
      | true => have := (h.nxt rfl).1; rw [this] at a0; cases a0
    have hax : Q.x.add Q.f id (symX s K P Z img id) = (hx, f2, 11) := by rw [q6, q7]; exact a1
    rw [hax] at hput hOk1
    have e3 : opW { f2 with down := false } 1 Z 8 = opW f2 1 Z 8 := opW_bs rfl 1 Z 8
    refine ⟨{ Q with x := hx, f := f2 }, 11, ?_, .inr (.inr (.inr ⟨rfl, hb, ?_, ?_⟩))⟩
    · rw [hput]; exact if_neg (show ¬ (11 : Int) = 0 by decide)
    · show KP s K P Z len (k + 1) img false { f2 with down := false }
      have hn : (openQ 1 s K P Z len { f2 with down := false }).t = (opW { f2 with down := false } 1 Z 8).L.length := by
        rw [e3]
        rcases a2 with a2 | a2
        · have e4 : (openQ 1 s K P Z len { f2 with down := false }).t = Q.t := by
            rw [← hQ]
            unfold openQ
            rw [e3, a2]
          rw [e4, a2, hnew]
        · rw [hmore { f2 with down := false } (by rw [e3]; exact a2), a2]
          show Q.t + 1 = _
          rw [List.length_append, hnew]; rfl
      refine ⟨rfl, a3.wear.trans h.wear, fun i => ?_, hOk1, h.hs, hK, hP, hZ, ?_, hn, fun x => by cases x⟩
      · show f2.er i ≤ _
        rw [a3.er]
        have := (erW_le f (opW f 1 Z 8).ready S i).2
        have := h.er i
        push_cast; omega
      · rw [e3]
        rcases a2 with a2 | a2
        · rw [a2]; exact h.dat
        · rw [a2]
          intro p hp
          rcases List.mem_append.1 hp with hp | hp
          · exact h.dat p hp
          · obtain rfl := List.mem_singleton.1 hp; rfl
    · show (openQ 1 s K P Z len { f2 with down := false }).t = Q.t ∨ (openQ 1 s K P Z len { f2 with down := false }).t = Q.t + 1
      rcases a2 with a2 | a2
      · left
        rw [← hQ]
        unfold openQ
        rw [e3, a2]
      · right
        rw [hmore { f2 with down := false } (by rw [e3]; exact a2)]
  · -- worn: never
    have := h.er (6 + S)
    rw [h.wear] at a1
    omega
end Go.Proofs.YtoblapnnpjgpnaaGreatDoor.Sto
namespace Go.Proofs.YtoblapnnpjgpnaaGreatDoor.Sto
open Go.RowKit
open VecM RdM Vc Sp Pc El Cd Dc
def SI (gs : Nat) (w W : World) : Prop := W.heap[gs]? = w.heap[gs]?
set_option maxRecDepth 100000 in
set_option maxHeartbeats 1600000 in
theorem simage_part (gf gs : Nat) (q : StD) (F : Nat → Prop) (w : World) (h : IsSto gf gs q w F) (hnf : rankM q.M ≠ q.K + q.P) :
    Calls Tryz.prog 6 #[.pointer (some ⟨gs, 0, none⟩)] w fun e w' => e = .returned (.tuple #[.slice none 0 0, .bool false]) ∧ Hid (Below w.heap.size w w') := by
  obtain ⟨h1, h2, h3, gw, gd, P, Fd, h4, h5, h6, h7, h8, h9⟩ := h
  have HC : Hid (∀ W, SI gs w W → W.cell? ⟨gs, 1, none⟩ = some (.int .i64 (q.len : Int)) ∧ W.cell? ⟨gs, 3, none⟩ = some (.pointer (some ⟨gd, 0, none⟩))) := Lib.hid (fun W hW => by
    have u := stc (hW.trans h4)
    exact ⟨u.2.1, u.2.2.2⟩)
  have hbd : Below w.heap.size w w.drew := (Below.refl _ _).drew
  have HGL : Hid (gs < w.drew.heap.size) := Lib.hid (Array.getElem?_eq_some_iff.1 h4).1
  have HBD := Lib.hid hbd
  have HIM := Lib.hid (image_part Fd gd q.s q.K q.P q.Z q.t q.M (q.len : Int) w.drew (h7.below hbd) hnf)
  clear h1 h2 h3 h4 h5 h6 h7 h8 h9 hbd hnf
  go_enter Tryz.func6, Tryz.ntmps6
  go_upto_region 3 with fail
  refine wp_region_noPanic ?_
  refine wp_region_held_drew (S := (fun W => SI gs w W)) (by kernel_rfl) (show SI gs w w.drew from rfl) (fun hH0 => ?_)
  have hH0 : SI gs w w.drew := hH0
  generalize w.drew = wd100 at *
  refine wpAnyH_take (i := 0) (oi := { dst := some 6, op := Op.move (Operand.tmp 0), type := 26, pos := "store.go:75", after := #[], guard := none }) (v := ?tkv101) rfl (by kernel_rfl) (by kernel_rfl) (by kernel_rfl) (fun _ _ _ h => h) (Or.inl ⟨by rfl, ?tky101⟩) hH0 ?tkr101
  case tky101 => (intro w' hSw; clear hSw; go_simp; try with_reducible rfl)
  try simp only [Act.put, List.setIfInBounds_toArray, List.set_cons_zero, List.set_cons_succ]
  refine wpAnyH_take (i := 1) (oi := { dst := some 7, op := Op.nilCheck (Operand.tmp 6), type := 0, pos := "store.go:75", after := #[{ on := 0, ground := Ground.data }], guard := none }) (v := ?tkv102) rfl (by kernel_rfl) (by kernel_rfl) (by kernel_rfl) (fun _ _ _ h => h) (Or.inl ⟨by rfl, ?tky102⟩) hH0 ?tkr102
  case tky102 => (intro w' hSw; clear hSw; go_simp; try with_reducible rfl)
  try simp only [Act.put, List.setIfInBounds_toArray, List.set_cons_zero, List.set_cons_succ]
  refine wpAnyH_take (i := 2) (oi := { dst := some 8, op := Op.fieldAddr 62 (Operand.tmp 7) 3, type := 0, pos := "store.go:75", after := #[{ on := 1, ground := Ground.data }], guard := none }) (v := ?tkv103) rfl (by kernel_rfl) (by kernel_rfl) (by kernel_rfl) (fun _ _ _ h => h) (Or.inl ⟨by rfl, ?tky103⟩) hH0 ?tkr103
  case tky103 => (intro w' hSw; clear hSw; go_simp; try with_reducible rfl)
  try simp only [Act.put, List.setIfInBounds_toArray, List.set_cons_zero, List.set_cons_succ]
  refine wpAnyH_take (i := 3) (oi := { dst := some 9, op := Op.load 60 (Operand.tmp 8), type := 60, pos := "store.go:75", after := #[{ on := 2, ground := Ground.data }], guard := none }) (v := ?tkv104) rfl (by kernel_rfl) (by kernel_rfl) (by kernel_rfl) (fun _ _ _ h => h) (Or.inl ⟨by rfl, ?tky104⟩) hH0 ?tkr104
  case tky104 => (intro w' hSw; have z0 := HC.out _ hSw; clear hSw; go_simp; try with_reducible rfl)
  try simp only [Act.put, List.setIfInBounds_toArray, List.set_cons_zero, List.set_cons_succ]
  refine wpAnyH_take (i := 4) (oi := { dst := some 10, op := Op.move (Operand.tmp 0), type := 26, pos := "store.go:75", after := #[], guard := none }) (v := ?tkv105) rfl (by kernel_rfl) (by kernel_rfl) (by kernel_rfl) (fun _ _ _ h => h) (Or.inl ⟨by rfl, ?tky105⟩) hH0 ?tkr105
  case tky105 => (intro w' hSw; clear hSw; go_simp; try with_reducible rfl)
  try simp only [Act.put, List.setIfInBounds_toArray, List.set_cons_zero, List.set_cons_succ]
  refine wpAnyH_take (i := 5) (oi := { dst := some 11, op := Op.nilCheck (Operand.tmp 10), type := 0, pos := "store.go:75", after := #[{ on := 4, ground := Ground.data }], guard := none }) (v := ?tkv106) rfl (by kernel_rfl) (by kernel_rfl) (by kernel_rfl) (fun _ _ _ h => h) (Or.inl ⟨by rfl, ?tky106⟩) hH0 ?tkr106
  case tky106 => (intro w' hSw; clear hSw; go_simp; try with_reducible rfl)
  try simp only [Act.put, List.setIfInBounds_toArray, List.set_cons_zero, List.set_cons_succ]
  refine wpAnyH_take (i := 6) (oi := { dst := some 12, op := Op.fieldAddr 62 (Operand.tmp 11) 1, type := 0, pos := "store.go:75", after := #[{ on := 5, ground := Ground.data }], guard := none }) (v := ?tkv107) rfl (by kernel_rfl) (by kernel_rfl) (by kernel_rfl) (fun _ _ _ h => h) (Or.inl ⟨by rfl, ?tky107⟩) hH0 ?tkr107
  case tky107 => (intro w' hSw; clear hSw; go_simp; try with_reducible rfl)
  try simp only [Act.put, List.setIfInBounds_toArray, List.set_cons_zero, List.set_cons_succ]
  refine wpAnyH_take (i := 7) (oi := { dst := some 13, op := Op.load 3 (Operand.tmp 12), type := 3, pos := "store.go:75", after := #[{ on := 6, ground := Ground.data }], guard := none }) (v := ?tkv108) rfl (by kernel_rfl) (by kernel_rfl) (by kernel_rfl) (fun _ _ _ h => h) (Or.inl ⟨by rfl, ?tky108⟩) hH0 ?tkr108
  case tky108 => (intro w' hSw; have z0 := HC.out _ hSw; clear hSw; go_simp; try with_reducible rfl)
  try simp only [Act.put, List.setIfInBounds_toArray, List.set_cons_zero, List.set_cons_succ]
  refine wpAnyH_ready (rs := [8]) (by kernel_rfl) (by simp) ?_
  refine AllReadyH.cons (o := { dst := some 14, op := Op.call { callee := Callee.value (Operand.func 23), args := #[Operand.tmp 9, Operand.tmp 13], argTypes := #[60, 3] }, type := 27, pos := "store.go:75", after := #[{ on := 3, ground := Ground.data }, { on := 7, ground := Ground.data }], guard := none }) rfl (fun K hK => ?_) AllReadyH.nil
  go_simp
  refine HIM.out.mono ?_
  rintro e' wi ⟨rfl, hbi⟩
  have HBI := Lib.hid hbi.out
  clear hbi
  go_simp
  have hS109 : SI gs w wi := ((HBI.out.block gs HGL.out).trans hH0)
  refine hK.out _ _ hS109 (fun hH109 => ?_)
  have hH109 : SI gs w wi := hH109
  clear hK K hS109
  try simp only [Act.put, List.setIfInBounds_toArray, List.set_cons_zero, List.set_cons_succ]
  refine wpAnyH_take (i := 9) (oi := { dst := some 15, op := Op.extract (Operand.tmp 14) 0, type := 23, pos := "store.go:75", after := #[{ on := 8, ground := Ground.data }], guard := none }) (v := ?tkv110) rfl (by kernel_rfl) (by kernel_rfl) (by kernel_rfl) (fun _ _ _ h => h) (Or.inl ⟨by rfl, ?tky110⟩) hH109 ?tkr110
  case tky110 => (intro w' hSw; clear hSw; go_simp; try with_reducible rfl)
  try simp only [Act.put, List.setIfInBounds_toArray, List.set_cons_zero, List.set_cons_succ]
  refine wpAnyH_take (i := 10) (oi := { dst := some 16, op := Op.extract (Operand.tmp 14) 1, type := 4, pos := "store.go:75", after := #[{ on := 8, ground := Ground.data }], guard := none }) (v := ?tkv111) rfl (by kernel_rfl) (by kernel_rfl) (by kernel_rfl) (fun _ _ _ h => h) (Or.inl ⟨by rfl, ?tky111⟩) hH109 ?tkr111
  case tky111 => (intro w' hSw; clear hSw; go_simp; try with_reducible rfl)
  try simp only [Act.put, List.setIfInBounds_toArray, List.set_cons_zero, List.set_cons_succ]
  refine wpAnyH_take (i := 11) (oi := { dst := some 2, op := Op.assign (Operand.tmp 15), type := 23, pos := "store.go:75", after := #[{ on := 9, ground := Ground.data }, { on := 8, ground := Ground.chain }, { on := 0, ground := Ground.phase }, { on := 1, ground := Ground.phase }, { on := 2, ground := Ground.phase }, { on := 3, ground := Ground.phase }, { on := 4, ground := Ground.phase }, { on := 5, ground := Ground.phase }, { on := 6, ground := Ground.phase }, { on := 7, ground := Ground.phase }, { on := 8, ground := Ground.phase }, { on := 9, ground := Ground.phase }, { on := 10, ground := Ground.phase }], guard := none }) (v := ?tkv112) rfl (by kernel_rfl) (by kernel_rfl) (by kernel_rfl) (fun _ _ _ h => h) (Or.inl ⟨by rfl, ?tky112⟩) hH109 ?tkr112
  case tky112 => (intro w' hSw; clear hSw; go_simp; try with_reducible rfl)
  try simp only [Act.put, List.setIfInBounds_toArray, List.set_cons_zero, List.set_cons_succ]
  refine wpAnyH_take (i := 12) (oi := { dst := some 3, op := Op.assign (Operand.tmp 16), type := 4, pos := "store.go:75", after := #[{ on := 10, ground := Ground.data }, { on := 11, ground := Ground.chain }, { on := 0, ground := Ground.phase }, { on := 1, ground := Ground.phase }, { on := 2, ground := Ground.phase }, { on := 3, ground := Ground.phase }, { on := 4, ground := Ground.phase }, { on := 5, ground := Ground.phase }, { on := 6, ground := Ground.phase }, { on := 7, ground := Ground.phase }, { on := 8, ground := Ground.phase }, { on := 9, ground := Ground.phase }, { on := 10, ground := Ground.phase }, { on := 11, ground := Ground.phase }], guard := none }) (v := ?tkv113) rfl (by kernel_rfl) (by kernel_rfl) (by kernel_rfl) (fun _ _ _ h => h) (Or.inl ⟨by rfl, ?tky113⟩) hH109 ?tkr113
  case tky113 => (intro w' hSw; clear hSw; go_simp; try with_reducible rfl)
  try simp only [Act.put, List.setIfInBounds_toArray, List.set_cons_zero, List.set_cons_succ]
  refine wpAnyH_done (by kernel_rfl) ?_ _
  refine NoPanic.normal ?_
  go_wp2_with fail
  go_ret2
  exact ⟨rfl, Lib.hid (HBD.out.trans (HBI.out.mono HBD.out.size))⟩

set_option maxRecDepth 100000 in
set_option maxHeartbeats 1600000 in
theorem simage_any (gf gs : Nat) (q : StD) (k : Nat) (F : Nat → Prop) (w : World) (h : IsSto gf gs q w F) (ok : StOk q k) (hfu : rankM q.M = q.K + q.P) (hcn : BlkM.count (q.len : Int) (q.Z : Int) = q.K) :
    Calls Tryz.prog 6 #[.pointer (some ⟨gs, 0, none⟩)] w fun e w' => ∃ A n c, e = .returned (.tuple #[.slice A n c, .bool true]) ∧ Hid (Row w' w'.heap.size A n (bv (joinLs ((solM q.M).take q.K) (q.len : Int)))) ∧ Hid (IsSto gf gs q w' (fun b => F b ∨ (w.heap.size ≤ b ∧ b < w'.heap.size))) ∧ Hid (Fr w w' F) := by
  have H0 := Lib.hid h
  obtain ⟨h1, h2, h3, gw, gd, P, Fd, h4, h5, h6, h7, h8, h9⟩ := h
  have HC : Hid (∀ W, SI gs w W → W.cell? ⟨gs, 1, none⟩ = some (.int .i64 (q.len : Int)) ∧ W.cell? ⟨gs, 3, none⟩ = some (.pointer (some ⟨gd, 0, none⟩))) := Lib.hid (fun W hW => by
    have u := stc (hW.trans h4)
    exact ⟨u.2.1, u.2.2.2⟩)
  have hbd : Below w.heap.size w w.drew := (Below.refl _ _).drew
  have HGL : Hid (gs < w.drew.heap.size) := Lib.hid (Array.getElem?_eq_some_iff.1 h4).1
  have HBD := Lib.hid hbd
  have HIM := Lib.hid (image_any Fd gd q.s q.K q.P q.Z q.t q.M (q.len : Int) w.drew (h7.below hbd) ok.inv hfu hcn ok.K ok.P)
  have H9 := Lib.hid h9
  have H8 := Lib.hid h8
  have H1 := Lib.hid h1
  have H2 := Lib.hid h2
  have H3 := Lib.hid h3
  have H4 := Lib.hid h4
  have H5 := Lib.hid h5
  have H6 := Lib.hid h6
  have HWS : Hid (w.drew.heap.size = w.heap.size) := Lib.hid rfl
  clear h1 h2 h3 h4 h5 h6 h7 h8 h9 hbd hfu hcn ok H0
  go_enter Tryz.func6, Tryz.ntmps6
  go_upto_region 3 with fail
  refine wp_region_noPanic ?_
  refine wp_region_held_drew (S := (fun W => SI gs w W)) (by kernel_rfl) (show SI gs w w.drew from rfl) (fun hH0 => ?_)
  have hH0 : SI gs w w.drew := hH0
  generalize w.drew = wd400 at *
  refine wpAnyH_take (i := 0) (oi := { dst := some 6, op := Op.move (Operand.tmp 0), type := 26, pos := "store.go:75", after := #[], guard := none }) (v := ?tkv401) rfl (by kernel_rfl) (by kernel_rfl) (by kernel_rfl) (fun _ _ _ h => h) (Or.inl ⟨by rfl, ?tky401⟩) hH0 ?tkr401
  case tky401 => (intro w' hSw; clear hSw; go_simp; try with_reducible rfl)
  try simp only [Act.put, List.setIfInBounds_toArray, List.set_cons_zero, List.set_cons_succ]
  refine wpAnyH_take (i := 1) (oi := { dst := some 7, op := Op.nilCheck (Operand.tmp 6), type := 0, pos := "store.go:75", after := #[{ on := 0, ground := Ground.data }], guard := none }) (v := ?tkv402) rfl (by kernel_rfl) (by kernel_rfl) (by kernel_rfl) (fun _ _ _ h => h) (Or.inl ⟨by rfl, ?tky402⟩) hH0 ?tkr402
  case tky402 => (intro w' hSw; clear hSw; go_simp; try with_reducible rfl)
  try simp only [Act.put, List.setIfInBounds_toArray, List.set_cons_zero, List.set_cons_succ]
  refine wpAnyH_take (i := 2) (oi := { dst := some 8, op := Op.fieldAddr 62 (Operand.tmp 7) 3, type := 0, pos := "store.go:75", after := #[{ on := 1, ground := Ground.data }], guard := none }) (v := ?tkv403) rfl (by kernel_rfl) (by kernel_rfl) (by kernel_rfl) (fun _ _ _ h => h) (Or.inl ⟨by rfl, ?tky403⟩) hH0 ?tkr403
  case tky403 => (intro w' hSw; clear hSw; go_simp; try with_reducible rfl)
  try simp only [Act.put, List.setIfInBounds_toArray, List.set_cons_zero, List.set_cons_succ]
  refine wpAnyH_take (i := 3) (oi := { dst := some 9, op := Op.load 60 (Operand.tmp 8), type := 60, pos := "store.go:75", after := #[{ on := 2, ground := Ground.data }], guard := none }) (v := ?tkv404) rfl (by kernel_rfl) (by kernel_rfl) (by kernel_rfl) (fun _ _ _ h => h) (Or.inl ⟨by rfl, ?tky404⟩) hH0 ?tkr404
  case tky404 => (intro w' hSw; have z0 := HC.out _ hSw; clear hSw; go_simp; try with_reducible rfl)
  try simp only [Act.put, List.setIfInBounds_toArray, List.set_cons_zero, List.set_cons_succ]
  refine wpAnyH_take (i := 4) (oi := { dst := some 10, op := Op.move (Operand.tmp 0), type := 26, pos := "store.go:75", after := #[], guard := none }) (v := ?tkv405) rfl (by kernel_rfl) (by kernel_rfl) (by kernel_rfl) (fun _ _ _ h => h) (Or.inl ⟨by rfl, ?tky405⟩) hH0 ?tkr405
  case tky405 => (intro w' hSw; clear hSw; go_simp; try with_reducible rfl)
  try simp only [Act.put, List.setIfInBounds_toArray, List.set_cons_zero, List.set_cons_succ]
  refine wpAnyH_take (i := 5) (oi := { dst := some 11, op := Op.nilCheck (Operand.tmp 10), type := 0, pos := "store.go:75", after := #[{ on := 4, ground := Ground.data }], guard := none }) (v := ?tkv406) rfl (by kernel_rfl) (by kernel_rfl) (by kernel_rfl) (fun _ _ _ h => h) (Or.inl ⟨by rfl, ?tky406⟩) hH0 ?tkr406
  case tky406 => (intro w' hSw; clear hSw; go_simp; try with_reducible rfl)
  try simp only [Act.put, List.setIfInBounds_toArray, List.set_cons_zero, List.set_cons_succ]
  refine wpAnyH_take (i := 6) (oi := { dst := some 12, op := Op.fieldAddr 62 (Operand.tmp 11) 1, type := 0, pos := "store.go:75", after := #[{ on := 5, ground := Ground.data }], guard := none }) (v := ?tkv407) rfl (by kernel_rfl) (by kernel_rfl) (by kernel_rfl) (fun _ _ _ h => h) (Or.inl ⟨by rfl, ?tky407⟩) hH0 ?tkr407
  case tky407 => (intro w' hSw; clear hSw; go_simp; try with_reducible rfl)
  try simp only [Act.put, List.setIfInBounds_toArray, List.set_cons_zero, List.set_cons_succ]
  refine wpAnyH_take (i := 7) (oi := { dst := some 13, op := Op.load 3 (Operand.tmp 12), type := 3, pos := "store.go:75", after := #[{ on := 6, ground := Ground.data }], guard := none }) (v := ?tkv408) rfl (by kernel_rfl) (by kernel_rfl) (by kernel_rfl) (fun _ _ _ h => h) (Or.inl ⟨by rfl, ?tky408⟩) hH0 ?tkr408
  case tky408 => (intro w' hSw; have z0 := HC.out _ hSw; clear hSw; go_simp; try with_reducible rfl)
  try simp only [Act.put, List.setIfInBounds_toArray, List.set_cons_zero, List.set_cons_succ]
  refine wpAnyH_ready (rs := [8]) (by kernel_rfl) (by simp) ?_
  refine AllReadyH.cons (o := { dst := some 14, op := Op.call { callee := Callee.value (Operand.func 23), args := #[Operand.tmp 9, Operand.tmp 13], argTypes := #[60, 3] }, type := 27, pos := "store.go:75", after := #[{ on := 3, ground := Ground.data }, { on := 7, ground := Ground.data }], guard := none }) rfl (fun K hK => ?_) AllReadyH.nil
  go_simp
  refine HIM.out.mono ?_
  rintro e' wi ⟨Ai, ni, ci, rfl, hni, hoi, hdi, hfi⟩
  have HNI := Lib.hid hni.out
  have HOI := Lib.hid hoi.out
  have HDI := Lib.hid hdi.out
  have HFI := Lib.hid hfi.out
  clear hni hoi hdi hfi
  go_simp
  have hS409 : SI gs w wi := ((HFI.out.block gs HGL.out (fun e => (H9.out gs e).2.1 rfl)).trans hH0)
  refine hK.out _ _ hS409 (fun hH409 => ?_)
  have hH409 : SI gs w wi := hH409
  clear hK K hS409
  try simp only [Act.put, List.setIfInBounds_toArray, List.set_cons_zero, List.set_cons_succ]
  refine wpAnyH_take (i := 9) (oi := { dst := some 15, op := Op.extract (Operand.tmp 14) 0, type := 23, pos := "store.go:75", after := #[{ on := 8, ground := Ground.data }], guard := none }) (v := ?tkv410) rfl (by kernel_rfl) (by kernel_rfl) (by kernel_rfl) (fun _ _ _ h => h) (Or.inl ⟨by rfl, ?tky410⟩) hH409 ?tkr410
  case tky410 => (intro w' hSw; clear hSw; go_simp; try with_reducible rfl)
  try simp only [Act.put, List.setIfInBounds_toArray, List.set_cons_zero, List.set_cons_succ]
  refine wpAnyH_take (i := 10) (oi := { dst := some 16, op := Op.extract (Operand.tmp 14) 1, type := 4, pos := "store.go:75", after := #[{ on := 8, ground := Ground.data }], guard := none }) (v := ?tkv411) rfl (by kernel_rfl) (by kernel_rfl) (by kernel_rfl) (fun _ _ _ h => h) (Or.inl ⟨by rfl, ?tky411⟩) hH409 ?tkr411
  case tky411 => (intro w' hSw; clear hSw; go_simp; try with_reducible rfl)
  try simp only [Act.put, List.setIfInBounds_toArray, List.set_cons_zero, List.set_cons_succ]
  refine wpAnyH_take (i := 11) (oi := { dst := some 2, op := Op.assign (Operand.tmp 15), type := 23, pos := "store.go:75", after := #[{ on := 9, ground := Ground.data }, { on := 8, ground := Ground.chain }, { on := 0, ground := Ground.phase }, { on := 1, ground := Ground.phase }, { on := 2, ground := Ground.phase }, { on := 3, ground := Ground.phase }, { on := 4, ground := Ground.phase }, { on := 5, ground := Ground.phase }, { on := 6, ground := Ground.phase }, { on := 7, ground := Ground.phase }, { on := 8, ground := Ground.phase }, { on := 9, ground := Ground.phase }, { on := 10, ground := Ground.phase }], guard := none }) (v := ?tkv412) rfl (by kernel_rfl) (by kernel_rfl) (by kernel_rfl) (fun _ _ _ h => h) (Or.inl ⟨by rfl, ?tky412⟩) hH409 ?tkr412
  case tky412 => (intro w' hSw; clear hSw; go_simp; try with_reducible rfl)
  try simp only [Act.put, List.setIfInBounds_toArray, List.set_cons_zero, List.set_cons_succ]
  refine wpAnyH_take (i := 12) (oi := { dst := some 3, op := Op.assign (Operand.tmp 16), type := 4, pos := "store.go:75", after := #[{ on := 10, ground := Ground.data }, { on := 11, ground := Ground.chain }, { on := 0, ground := Ground.phase }, { on := 1, ground := Ground.phase }, { on := 2, ground := Ground.phase }, { on := 3, ground := Ground.phase }, { on := 4, ground := Ground.phase }, { on := 5, ground := Ground.phase }, { on := 6, ground := Ground.phase }, { on := 7, ground := Ground.phase }, { on := 8, ground := Ground.phase }, { on := 9, ground := Ground.phase }, { on := 10, ground := Ground.phase }, { on := 11, ground := Ground.phase }], guard := none }) (v := ?tkv413) rfl (by kernel_rfl) (by kernel_rfl) (by kernel_rfl) (fun _ _ _ h => h) (Or.inl ⟨by rfl, ?tky413⟩) hH409 ?tkr413
  case tky413 => (intro w' hSw; clear hSw; go_simp; try with_reducible rfl)
  try simp only [Act.put, List.setIfInBounds_toArray, List.set_cons_zero, List.set_cons_succ]
  refine wpAnyH_done (by kernel_rfl) ?_ _
  refine NoPanic.normal ?_
  go_wp2_with fail
  go_ret2
  have hsz := HFI.out.size
  have hws := HWS.out
  have hgl := HGL.out
  have h6l := H6.out.lt
  have hfr : Fr w wi Fd := (Fr.of_below (F := Fd) HBD.out).trans HFI.out (fun _ _ h => h)
  refine ⟨Ai, ni, ci, rfl, Lib.hid (Row.of_own HOI.out), Lib.hid ?_, Lib.hid (hfr.more (fun b _ hb => (H9.out b hb).1))⟩
  refine ⟨.inl H1.out, .inl H2.out, H3.out, gw, gd, P, _, (hfr.block gs (by omega) (fun e => (H9.out gs e).2.1 rfl)).trans H4.out, H5.out.keep (fun b hb hl => hfr.block b hl (fun e => (H8.out b hb).2.2.1 e)) hfr.size, H6.out.keep (hfr.block gf h6l (fun e => (H9.out gf e).2.2.1 rfl)), HDI.out, ?_, ?_⟩
  · intro b hb
    have := H8.out b hb
    exact ⟨.inl this.1, this.2.1, (by
      rintro (e | e)
      · exact this.2.2.1 e
      · omega), by omega⟩
  · rintro b (hb | hb)
    · have := H9.out b hb
      exact ⟨.inl this.1, this.2.1, this.2.2.1, by omega⟩
    · exact ⟨.inr ⟨by omega, hb.2⟩, by omega, by omega, hb.2⟩

theorem sto_done {gf gs : Nat} {q : StD} {f' : Fl} {W W' : World} {F : Nat → Prop} (h : IsSto gf gs q W F) (hd : Done gf f' W W') : IsSto gf gs { q with f := f' } W' F ∧ Fr W W' F := by
  obtain ⟨h1, h2, h3, gw, gd, P, Fd, h4, h5, h6, h7, h8, h9⟩ := h
  have hpf : ¬ P gf := by obtain ⟨_, _, _, _, _, _, q, _⟩ := h5; exact q
  have hk : ∀ b, b < W.heap.size → b ≠ gf → W'.heap[b]? = W.heap[b]? := fun b hl hne => hd.2.block b hl (fun e => hne (Option.some.inj e))
  have hs := hd.2.size
  refine ⟨⟨h1, h2, h3, gw, gd, P, Fd, (hk gs (Array.getElem?_eq_some_iff.1 h4).1 h3).trans h4, h5.keep (fun b hb hl => hk b hl (fun e => hpf (by rw [← e]; exact hb))) hs, hd.1, h7.keep (fun b hb hl => hk b hl (h9 b hb).2.2.1), fun b hb => by have := h8 b hb; exact ⟨this.1, this.2.1, this.2.2.1, by omega⟩, fun b hb => by have := h9 b hb; exact ⟨this.1, this.2.1, this.2.2.1, by omega⟩⟩,
    Fr.of_grown hd.2 h2⟩
section
variable {B C : Dc.Obj} {w0 W : World} {gf gs : Nat} {q : StD}
theorem sep_fuse (S : Sep3 (stoO gf gs q) B C w0 W) (kB : Keeps B) (kC : Keeps C) (n t : Int) : Calls Tryz.prog 18 #[.pointer (some ⟨gf, 0, none⟩), .int .i64 n, .int .i64 t] W fun e W' => e = .returned (.tuple #[]) ∧ Hid (Sep3 (stoO gf gs { q with f := { q.f with there := decide (0 ≤ n), left := n, torn := t } }) B C w0 W') := by
  have hf := sep_fl S
  obtain ⟨F, hA, hF, next⟩ := S.first kB kC
  refine (fuse_any gf n t q.f W hf).mono ?_
  rintro e W' ⟨rfl, hd⟩
  have h := sto_done hA hd.out
  exact ⟨rfl, Lib.hid (next W' (stoO gf gs _) (h.1.more (fun b hb => .inl hb)) h.2)⟩
theorem sep_power (S : Sep3 (stoO gf gs q) B C w0 W) (kB : Keeps B) (kC : Keeps C) : Calls Tryz.prog 20 #[.pointer (some ⟨gf, 0, none⟩)] W fun e W' => e = .returned (.tuple #[]) ∧ Hid (Sep3 (stoO gf gs { q with f := { q.f with down := false } }) B C w0 W') := by
  have hf := sep_fl S
  obtain ⟨F, hA, hF, next⟩ := S.first kB kC
  refine (start_any gf q.f W hf).mono ?_
  rintro e W' ⟨rfl, hd⟩
  have h := sto_done hA hd.out
  exact ⟨rfl, Lib.hid (next W' (stoO gf gs _) (h.1.more (fun b hb => .inl hb)) h.2)⟩
theorem sep_reopen {W' : World} {gs' : Nat} {q' : StD} (S : Sep3 (stoO gf gs q) B C w0 W) (kB : Keeps B) (kC : Keeps C) (hb : Below W.heap.size W W') (hs : IsSto gf gs' q' W' (fun b => b = gf ∨ (W.heap.size ≤ b ∧ b < W'.heap.size))) : Sep3 (stoO gf gs' q') B C w0 W' := by
  obtain ⟨F, hA, hF, next⟩ := S.first kB kC
  exact next W' (stoO gf gs' q') (hs.more (fun b h => by
    rcases h with rfl | h
    · exact .inl hA.2.1
    · exact .inr h)) (Fr.of_below hb)
theorem sep_image (S : Sep3 (stoO gf gs q) B C w0 W) (kB : Keeps B) (kC : Keeps C) (k : Nat) (ok : StOk q k) (hfu : rankM q.M = q.K + q.P) (hcn : BlkM.count (q.len : Int) (q.Z : Int) = q.K) :
    Calls Tryz.prog 6 #[.pointer (some ⟨gs, 0, none⟩)] W fun e W' => ∃ A n c, e = .returned (.tuple #[.slice A n c, .bool true]) ∧ Hid (Row W' W'.heap.size A n (bv (joinLs ((solM q.M).take q.K) (q.len : Int)))) ∧ Hid (Sep3 (stoO gf gs q) B C w0 W') := by
  obtain ⟨F, hA, hF, next⟩ := S.first kB kC
  refine (simage_any gf gs q k F W hA ok hfu hcn).mono ?_
  rintro e W' ⟨A, n, c, rfl, h1, h2, h3⟩
  exact ⟨A, n, c, rfl, h1, Lib.hid (next W' (stoO gf gs q) h2.out h3.out)⟩
end
end Go.Proofs.YtoblapnnpjgpnaaGreatDoor.Sto
