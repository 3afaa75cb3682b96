/- Two stores over one flash, one of them never writes; what Put and Open do without cuts. -/
import Derived.Test.YtoblapnnpjgpnaaGreatDoorStoAwQ
import Derived.Test.YtoblapnnpjgpnaaGreatDoorWhOthMQ
namespace Go.Proofs.YtoblapnnpjgpnaaGreatDoor.Sto
open Go.RowKit
open VecM RdM Vc Sp Pc El Cd Dc
/-- a store without its flash -/
def stT (gf gt : Nat) (q : StD) : Dc.Obj := fun W F => F gt ∧ gt ≠ gf ∧ ∃ gw gd P Fd, W.heap[gt]? = some (.cells (stoC q.Z q.len gw gd) 62 (0, 0)) ∧ WhAt P gw gf q.x W ∧ IsDec W Fd gd q.s q.K q.P q.Z q.M q.t ∧
    (∀ b, P b → F b ∧ b ≠ gt ∧ ¬ Fd b ∧ b < W.heap.size) ∧ (∀ b, Fd b → F b ∧ b ≠ gt ∧ b ≠ gf ∧ b < W.heap.size)
theorem keeps_stT (gf gt : Nat) (q : StD) : Keeps (stT gf gt q) := fun W W' F h hk hs => by
  obtain ⟨h1, h3, gw, gd, P, Fd, h4, h5, h7, h8, h9⟩ := h
  exact ⟨h1, h3, gw, gd, P, Fd, (hk gt h1 (Array.getElem?_eq_some_iff.1 h4).1).trans h4, h5.keep (fun b hb hl => hk b (h8 b hb).1 hl) hs, h7.keep (fun b hb hl => hk b (h9 b hb).1 hl), fun b hb => by have := h8 b hb; exact ⟨this.1, this.2.1, this.2.2.1, by omega⟩, fun b hb => by have := h9 b hb; exact ⟨this.1, this.2.1, this.2.2.1, by omega⟩⟩
theorem stT_of {gf gt : Nat} {q : StD} {W : World} {F F' : Nat → Prop} (h : IsSto gf gt q W F) (hF : ∀ b, F b → b ≠ gf → F' b) : stT gf gt q W F' := by
  obtain ⟨h1, _, h3, gw, gd, P, Fd, h4, h5, _, h7, h8, h9⟩ := h
  have hpf : ¬ P gf := by obtain ⟨_, _, _, _, _, _, q, _⟩ := h5; exact q
  exact ⟨hF gt h1 h3, h3, gw, gd, P, Fd, h4, h5, h7, fun b hb => ⟨hF b (h8 b hb).1 (fun e => hpf (by rw [← e]; exact hb)), (h8 b hb).2⟩, fun b hb => ⟨hF b (h9 b hb).1 (h9 b hb).2.2.1, (h9 b hb).2⟩⟩
theorem stT_sto {gf gt : Nat} {q : StD} {W : World} {F : Nat → Prop} (h : stT gf gt q W F) (hf : FlAt W gf q.f) : IsSto gf gt q W (fun b => F b ∨ b = gf) := by
  obtain ⟨h1, h3, gw, gd, P, Fd, h4, h5, h7, h8, h9⟩ := h
  exact ⟨.inl h1, .inr rfl, h3, gw, gd, P, Fd, h4, h5, hf, h7, fun b hb => ⟨.inl (h8 b hb).1, (h8 b hb).2⟩, fun b hb => ⟨.inl (h9 b hb).1, (h9 b hb).2⟩⟩
set_option maxRecDepth 100000 in
theorem put_dup (gf gs : Nat) (q : StD) (F : Nat → Prop) (k : Nat) (id c : Nat) (A : Option Addr) (w : World) (h : IsSto gf gs q w F) (ok : StOk q k) (ht : DTab w) (hid : id < 4294967296) (hz : (redM q.M (spX q.s q.K q.P id) [] (q.K + q.P)).1 = 0) :
    Calls Tryz.prog 9 #[.pointer (some ⟨gs, 0, none⟩), .int .u32 (id : Int), .slice A q.Z c] w fun e w' => e = .returned (.int .i64 8) ∧ Hid (Below w.heap.size w w') := by
  obtain ⟨h1, h2, h3, gw, gd, P, Fd, h4, h5, h6, h7, h8, h9⟩ := h
  obtain ⟨u0, u1, u2, u3⟩ := stc h4
  have hSY := Lib.hid (says_any Fd gd q.s q.K q.P q.Z q.t id q.M w h7 ok.s hid ok.K ok.P ok.Z ht)
  rw [decide_eq_false (show ¬ _ ≠ 0 from fun e => e hz)] at hSY
  obtain ⟨sz, hsz⟩ : ∃ z, q.Z = z := ⟨_, rfl⟩
  rw [hsz] at u0 ⊢
  have hnb : ((sz : Int) != (sz : Int)) = false := bne_self_eq_false _
  clear h1 h2 h3 h4 h5 h6 h7 h8 h9 hsz ok ht hz u1 u2
  go_enter Tryz.func9, Tryz.ntmps9
  go_wp2_with fail
  refine hSY.out.mono ?_
  rintro e w1 ⟨rfl, hb1⟩
  go_wp2_with fail
  go_ret
  exact ⟨rfl, hb1⟩
set_option maxRecDepth 100000 in
theorem put_form (gf gs : Nat) (q : StD) (F : Nat → Prop) (id n c : Nat) (A : Option Addr) (w : World) (h : IsSto gf gs q w F) (hn : n ≠ q.Z) :
    Calls Tryz.prog 9 #[.pointer (some ⟨gs, 0, none⟩), .int .u32 (id : Int), .slice A n c] w fun e w' => e = .returned (.int .i64 3) ∧ w = w' := by
  obtain ⟨h1, h2, h3, gw, gd, P, Fd, h4, h5, h6, h7, h8, h9⟩ := h
  obtain ⟨u0, u1, u2, u3⟩ := stc h4
  obtain ⟨sz, hsz⟩ : ∃ z, q.Z = z := ⟨_, rfl⟩
  rw [hsz] at u0 hn
  have hnb : ((n : Int) != (sz : Int)) = true := bne_iff_ne.2 (by omega)
  have hni : ¬ (n : Int) = (sz : Int) := by omega
  clear h1 h2 h3 h4 h5 h6 h7 h8 h9 hsz u1 u2 u3 hn
  go_enter Tryz.func9, Tryz.ntmps9
  go_wp2_with fail
  go_ret
  exact ⟨rfl, rfl⟩
theorem add_L (x : Wh) (f : Fl) (id : Nat) (d : List UInt8) (h : (x.add f id d).2.2 = 0) : (x.add f id d).1.L = x.L ++ [(id, d)] := by
  unfold Wh.add at h ⊢
  split at h
  · rename_i h1
    rw [if_pos h1]
    split at h
    · cases h
    · rename_i h2
      rw [if_neg h2]
      split at h
      · cases h
      · rename_i h3
        rw [if_neg h3]
        split at h
        · rename_i h4
          rw [if_pos h4]
          split at h
          · rename_i h5
            rw [if_pos h5]
          · rename_i h5
            exact absurd h h5
        · rename_i h4
          exact absurd h h4
  · cases h
/-- a store over flash that only grew: what it found is what it is -/
structure AN (s K P Z len k : Nat) (f : Fl) : Prop where
  i : ∃ i, i ≤ k ∧ OtF f Z i ∧ (opW f 1 Z 8).next = i
  s : s < 4294967296
  K : 1 ≤ K ∧ K ≤ 64
  P : P ≤ 16
  Z : 1 ≤ Z ∧ Z ≤ 16
  f : f.Ok (400 * (k : Int))
theorem AN.ok {s K P Z len k : Nat} {f : Fl} (h : AN s K P Z len k f) : StOk (openQ 1 s K P Z len f) k := openQ_ok 1 s K P Z len k f h.f (by omega) h.s h.K h.P h.Z
theorem AN.down {s K P Z len k : Nat} {f : Fl} (h : AN s K P Z len k f) : f.down = false := by
  obtain ⟨i, _, h1, _⟩ := h.i
  exact h1.down
theorem put_dupQ {q : StD} {id : Nat} {d : List UInt8} (hd : d.length = q.Z) (hz : (redM q.M (spX q.s q.K q.P id) [] (q.K + q.P)).1 = 0) : q.put id d = (q, 8) := by
  unfold StD.put
  rw [if_pos hd, if_pos hz]
theorem put_newQ {q : StD} {id : Nat} {d : List UInt8} {x2 : Wh} {f2 : Fl} (hd : d.length = q.Z) (hz : ¬ (redM q.M (spX q.s q.K q.P id) [] (q.K + q.P)).1 = 0) (ha : q.x.add q.f id d = (x2, f2, 0)) :
    q.put id d = (⟨q.s, q.K, q.P, q.Z, q.len, x2, f2, (addMx (q.K + q.P) q.M (spX q.s q.K q.P id) d).1, q.t + if (addMx (q.K + q.P) q.M (spX q.s q.K q.P id) d).2 then 1 else 0⟩, 0) := by
  unfold StD.put
  rw [if_pos hd, if_neg hz, ha]
  exact if_pos rfl
theorem openQ_snoc {gen s K P Z len : Nat} {f f2 : Fl} {p : Nat × List UInt8} (h : (opW f2 gen Z 8).L = (opW f gen Z 8).L ++ [p]) :
    openQ gen s K P Z len f2 = ⟨s, K, P, Z, len, opW f2 gen Z 8, f2, (takeS s K P ((openQ gen s K P Z len f).M, (openQ gen s K P Z len f).t) p).1, (takeS s K P ((openQ gen s K P Z len f).M, (openQ gen s K P Z len f).t) p).2⟩ := by
  unfold openQ
  rw [h, List.foldl_append]
  generalize opW f2 gen Z 8 = x2
  generalize List.foldl (takeS s K P) (matR s K P Z P, 0) (opW f gen Z 8).L = R
  rfl
theorem openQ_flds (gen s K P Z len : Nat) (f : Fl) : ∃ Q : StD, openQ gen s K P Z len f = Q ∧ Q.s = s ∧ Q.K = K ∧ Q.P = P ∧ Q.Z = Z ∧ Q.len = len ∧ Q.x = opW f gen Z 8 ∧ Q.f = f := by
  unfold openQ
  generalize List.foldl (takeS s K P) (matR s K P Z P, 0) (opW f gen Z 8).L = R
  generalize opW f gen Z 8 = x
  exact ⟨_, rfl, rfl, rfl, rfl, rfl, rfl, rfl, rfl⟩
theorem ker_after {s K P Z id : Nat} {M : Mx} {d : List UInt8} (h : Inv (K + P) Z M) (hn : K + P ≤ 256) (hd : d.length = Z) : (redM (addMx (K + P) M (spX s K P id) d).1 (spX s K P id) [] (K + P)).1 = 0 := by
  have hlt : spX s K P id < 2 ^ (K + P) := spX_lt
  have g0 : Got (K + P) Z M (rowsP M) := ⟨h, fun X => ker_span h X⟩
  have g1 := g0.add hn hlt hd
  exact (ker_red g1.inv _ _).2 ((g1.ker _).2 (.one (.inr rfl)))
/-- what Put does to it -/
theorem AN.put {s K P Z len k id : Nat} {f : Fl} {d : List UInt8} (h : AN s K P Z len k f) (hk : k < 60) (hd : d.length = Z) (hid : id < 4294967296) :
    ∃ f2 r, (openQ 1 s K P Z len f).put id d = (openQ 1 s K P Z len f2, r) ∧ (r = 0 ∨ r = 8) ∧ AN s K P Z len (k + 1) f2 ∧ (redM (openQ 1 s K P Z len f2).M (spX s K P id) [] (K + P)).1 = 0 := by
  have hinv := h.ok.inv
  have hK := h.K
  have hP := h.P
  have hZ := h.Z
  obtain ⟨Q, hQ, q1, q2, q3, q4, q5, q6, q7⟩ := openQ_flds 1 s K P Z len f
  rw [hQ] at hinv ⊢
  by_cases hz : (redM Q.M (spX s K P id) [] (K + P)).1 = 0
  · refine ⟨f, 8, ?_, .inr rfl, ?_, by rw [hQ]; exact hz⟩
    · rw [hQ]
      exact put_dupQ (by rw [q4]; exact hd) (by rw [q1, q2, q3]; exact hz)
    · obtain ⟨i, h1, h2, h3⟩ := h.i
      exact ⟨⟨i, by omega, h2, h3⟩, h.s, hK, hP, hZ, h.f.more (by push_cast; omega)⟩
  · obtain ⟨i, h1, h2, h3⟩ := h.i
    have hpb := per_bounds hZ.1 hZ.2
    obtain ⟨f2, e1, e2, e3, _⟩ := h2.add hZ.1 hZ.2 hd hid h3 (by omega)
    have eL := add_L (opW f 1 Z 8) f id d (by rw [e1])
    rw [e1] at eL
    have hf2 : f2.Ok (400 * ((k + 1 : Nat) : Int)) := by
      have := h.f.addW (opW f 1 Z 8) id d (by omega)
      rw [e1] at this
      exact this.more (by push_cast; omega)
    have hS := openQ_snoc (gen := 1) (s := s) (K := K) (P := P) (Z := Z) (len := len) (f := f) (f2 := f2) (p := (id, d)) eL
    rw [hQ] at hS
    have hp := put_newQ (q := Q) (id := id) (d := d) (by rw [q4]; exact hd) (by rw [q1, q2, q3]; exact hz) (by rw [q6, q7]; exact e1)
    rw [q1, q2, q3, q4, q5] at hp
    rw [q2, q3, q4] at hinv
    have hker := ker_after (s := s) (id := id) hinv (by omega) hd
    refine ⟨f2, 0, ?_, .inl rfl, ⟨⟨i + 1, by omega, e2, e3⟩, h.s, hK, hP, hZ, hf2⟩, ?_⟩
    · rw [hp, hS]
      generalize opW f2 1 Z 8 = x2
      rfl
    · rw [hS]
      exact hker
/-- under another generation nothing is found -/
theorem AN.other {s K P Z len k : Nat} {f : Fl} (h : AN s K P Z len k f) : (openQ 2 s K P Z len f).t = 0 ∧ rankM (openQ 2 s K P Z len f).M = P := by
  obtain ⟨i, _, h2, _⟩ := h.i
  have e := h2.other Z h.Z.2
  have hK := h.K
  have hP := h.P
  have hr := matR_rank (s := s) (Z := Z) (show K + P ≤ 80 by omega) P (Nat.le_refl _)
  unfold openQ
  rw [e]
  generalize matR s K P Z P = R at *
  exact ⟨rfl, hr⟩
theorem stT_more {gf gt : Nat} {q : StD} {W : World} {F F' : Nat → Prop} (h : stT gf gt q W F) (hF : ∀ b, F b → F' b) : stT gf gt q W F' := by
  obtain ⟨h1, h3, gw, gd, P, Fd, h4, h5, h7, h8, h9⟩ := h
  exact ⟨hF gt h1, h3, gw, gd, P, Fd, h4, h5, h7, fun b hb => ⟨hF b (h8 b hb).1, (h8 b hb).2⟩, fun b hb => ⟨hF b (h9 b hb).1, (h9 b hb).2⟩⟩
/-- two boxes that stay -/
def boxO (g1 g2 : Nat) (o1 o2 : Go.Obj) : Dc.Obj := fun W F => F g1 ∧ F g2 ∧ W.heap[g1]? = some o1 ∧ W.heap[g2]? = some o2
theorem keeps_box (g1 g2 : Nat) (o1 o2 : Go.Obj) : Keeps (boxO g1 g2 o1 o2) := fun _ _ _ h hk _ =>
  ⟨h.1, h.2.1, (hk g1 h.1 (Array.getElem?_eq_some_iff.1 h.2.2.1).1).trans h.2.2.1, (hk g2 h.2.1 (Array.getElem?_eq_some_iff.1 h.2.2.2).1).trans h.2.2.2⟩
def tbO (gf gt : Nat) (q : StD) (g1 g2 : Nat) (o1 o2 : Go.Obj) : Dc.Obj := fun W F => stT gf gt q W F ∧ boxO g1 g2 o1 o2 W F
theorem keeps_tb (gf gt : Nat) (q : StD) (g1 g2 : Nat) (o1 o2 : Go.Obj) : Keeps (tbO gf gt q g1 g2 o1 o2) := fun W W' F h hk hs =>
  ⟨keeps_stT gf gt q W W' F h.1 hk hs, keeps_box g1 g2 o1 o2 W W' F h.2 hk hs⟩
section
variable {A B : Dc.Obj} {w0 W W' : World} {gf gs gt g1 g2 : Nat} {q : StD} {o1 o2 : Go.Obj}
theorem sep_open (S : Sep3 A B (boxO g1 g2 o1 o2) w0 W) (kA : Keeps A) (kB : Keeps B) (hb : Below W.heap.size W W') (ht : stT gf gt q W' (fun b => W.heap.size ≤ b ∧ b < W'.heap.size)) : Sep3 A B (tbO gf gt q g1 g2 o1 o2) w0 W' := by
  have S' := S.below kA kB (keeps_box _ _ _ _) hb
  obtain ⟨F, G, H, a, b, c, h1, h2, h3, h4, h5⟩ := S
  have hs := hb.size
  have hs5 := h5.size
  refine ⟨F, G, (fun b => H b ∨ (W.heap.size ≤ b ∧ b < W'.heap.size)), kA W W' F a (fun q _ hl => hb.block q hl) hs, kB W W' G b (fun q _ hl => hb.block q hl) hs, ⟨stT_more ht (fun b h => .inr h), ?_⟩, h1, ?_, ?_, ?_, h5.trans (hb.mono hs5)⟩
  · have := keeps_box g1 g2 o1 o2 W W' H c (fun q _ hl => hb.block q hl) hs
    exact ⟨.inl this.1, .inl this.2.1, this.2.2⟩
  · rintro x hx (h | h)
    · exact h2 x hx h
    · have := h4 x (.inl hx); omega
  · rintro x hx (h | h)
    · exact h3 x hx h
    · have := h4 x (.inr (.inl hx)); omega
  · rintro x (h | h | h | h)
    · have := h4 x (.inl h); exact ⟨this.1, by omega⟩
    · have := h4 x (.inr (.inl h)); exact ⟨this.1, by omega⟩
    · have := h4 x (.inr (.inr h)); exact ⟨this.1, by omega⟩
    · exact ⟨by omega, h.2⟩
theorem sep_close (S : Sep3 A B (tbO gf gt q g1 g2 o1 o2) w0 W) : Sep3 A B (boxO g1 g2 o1 o2) w0 W := by
  obtain ⟨F, G, H, a, b, c, r⟩ := S
  exact ⟨F, G, H, a, b, c.2, r⟩
theorem sep_sto {C : Dc.Obj} (S : Sep3 (stoO gf gs q) B C w0 W) : IsSto gf gs q W (fun _ => True) := by
  obtain ⟨F, G, H, a, r⟩ := S
  exact IsSto.more a (fun _ _ => trivial)
theorem sep_fl {C : Dc.Obj} (S : Sep3 (stoO gf gs q) B C w0 W) : FlAt W gf q.f := by
  obtain ⟨_, _, _, gw, gd, P, Fd, _, _, h6, _⟩ := sep_sto S
  exact h6
theorem sep_t (S : Sep3 (stoO gf gs q) B (tbO gf gt q g1 g2 o1 o2) w0 W) : IsSto gf gt q W (fun _ => True) := by
  have hf := sep_fl S
  obtain ⟨F, G, H, a, b, c, r⟩ := S
  exact (stT_sto c.1 hf).more (fun _ _ => trivial)
theorem sep_box {C : Dc.Obj} (S : Sep3 A C (boxO g1 g2 o1 o2) w0 W) : W.heap[g1]? = some o1 ∧ W.heap[g2]? = some o2 := by
  obtain ⟨F, G, H, a, b, c, r⟩ := S
  exact c.2.2
theorem sep_start {C : Dc.Obj} {f : Fl} (S : Sep3 (flO gf f) B C w0 W) (kB : Keeps B) (kC : Keeps C) (hb : Below W.heap.size W W') (hs : IsSto gf gs q W' (fun b => b = gf ∨ (W.heap.size ≤ b ∧ b < W'.heap.size))) : Sep3 (stoO gf gs q) B C w0 W' := by
  obtain ⟨F, hA, hF, next⟩ := S.first kB kC
  exact next W' (stoO gf gs q) (hs.more (fun b h => by
    rcases h with rfl | h
    · exact .inl hA.1
    · exact .inr h)) (Fr.of_below hb)
/-- the three objects, and a row of bytes beside them -/
def SepR (A B C : Dc.Obj) (R : Option Addr) (w0 W : World) : Prop :=
  ∃ F G H, A W F ∧ B W G ∧ C W H ∧ (∀ b, F b → G b → False) ∧ (∀ b, F b → H b → False) ∧ (∀ b, G b → H b → False) ∧ (∀ b, F b ∨ G b ∨ H b → w0.heap.size ≤ b ∧ b < W.heap.size) ∧ Below w0.heap.size w0 W ∧ (∀ b o, R = some ⟨b, o, none⟩ → ¬ F b)
theorem SepR.sep {C : Dc.Obj} {R : Option Addr} (h : SepR A B C R w0 W) : Sep3 A B C w0 W := by
  obtain ⟨F, G, H, a, b, c, h1, h2, h3, h4, h5, _⟩ := h
  exact ⟨F, G, H, a, b, c, h1, h2, h3, h4, h5⟩
def SymR (A C : Dc.Obj) (s K P Z : Nat) (img : List UInt8) (id gh : Nat) (w0 : World) (e : Ending) (w' : World) : Prop :=
  ∃ R c, e = .returned (.slice R Z c) ∧ Hid (Row w' w'.heap.size R Z (bv (symX s K P Z img id))) ∧ Hid (SepR A (headO s K P Z img gh) C R w0 w')
theorem sym_sep {C : Dc.Obj} {s K P Z id gh : Nat} {img : List UInt8} (S : Sep3 A (headO s K P Z img gh) C w0 W) (kA : Keeps A) (kC : Keeps C) (hs : s < 4294967296) (hid : id < 4294967296) (hK : 1 ≤ K ∧ K ≤ 64) (hP : P ≤ 16) (hZ : 1 ≤ Z ∧ Z ≤ 16) (hc : BlkM.count (img.length : Int) (Z : Int) = K) (ht : DTab w0) :
    Calls Tryz.prog 19 #[.pointer (some ⟨gh, 0, none⟩), .int .u32 (id : Int)] W (SymR A C s K P Z img id gh w0) := by
  obtain ⟨F, G, H, a, b, c, h1, h2, h3, h4, h5⟩ := S
  refine (symH (id := id) b hs hid hK hP hZ hc (ht.grow h5)).mono ?_
  rintro e W' ⟨R, cc, rfl, ho, hh, hf⟩
  have hsz := hf.out.size
  have hs5 := h5.size
  refine ⟨R, cc, rfl, Lib.hid (Row.of_own ho.out), Lib.hid ⟨F, (fun b => G b ∨ (W.heap.size ≤ b ∧ b < W'.heap.size)), H, kA W W' F a (fun q hq hl => hf.out.block q hl fun hG => h1 q hq hG) hsz, hh.out, kC W W' H c (fun q hq hl => hf.out.block q hl fun hG => h3 q hG hq) hsz, ?_, h2, ?_, ?_, h5.trans (hf.out.below (fun q hq => (h4 q (.inr (.inl hq))).1) hs5), ?_⟩⟩
  · rintro x hx (h | h)
    · exact h1 x hx h
    · have := h4 x (.inl hx); omega
  · rintro x (h | h) hx
    · exact h3 x h hx
    · have := h4 x (.inr (.inr hx)); omega
  · rintro x (h | (h | h) | h)
    · have := h4 x (.inl h); exact ⟨this.1, by omega⟩
    · have := h4 x (.inr (.inl h)); exact ⟨this.1, by omega⟩
    · exact ⟨by omega, h.2⟩
    · have := h4 x (.inr (.inr h)); exact ⟨this.1, by omega⟩
  · intro x o e hF
    obtain ⟨g, cc9, hv, hg, hl⟩ := ho.out.form hZ.1
    injection hv with e1 e2 e3
    rw [e] at e1
    injection e1 with e1
    injection e1 with e1
    have := h4 x (.inl hF)
    omega
/-- Put of that row -/
theorem put_sep {C : Dc.Obj} {q' : StD} {r : Int} {k id c : Nat} {R : Option Addr} {d : List UInt8} (S : SepR (stoO gf gs q) B C R w0 W) (kB : Keeps B) (kC : Keeps C) (ok : StOk q k) (hk : k ≤ 900) (hid : id < 4294967296) (hl : Row W W.heap.size R q.Z (bv d)) (ht : DTab w0) (hq : q.put id d = (q', r)) :
    Calls Tryz.prog 9 #[.pointer (some ⟨gs, 0, none⟩), .int .u32 (id : Int), .slice R q.Z c] W fun e W' => e = .returned (.int .i64 r) ∧ Hid (Sep3 (stoO gf gs q') B C w0 W') := by
  obtain ⟨F, G, H, a, b, cc, h1, h2, h3, h4, h5, h6⟩ := S
  have hput := put_any gf gs q F k hk id q.Z c R d W a ok (fun W' hW => ht.grow (h5.trans (hW.below (fun q hq => (h4 q (.inl hq)).1) h5.size))) hl (fun b o e _ => h6 b o e) hid
  rw [hq] at hput
  refine hput.mono ?_
  rintro e W' ⟨rfl, hs, hf⟩
  have hsz := hf.out.size
  have hs5 := h5.size
  refine ⟨rfl, Lib.hid ⟨(fun b => F b ∨ (W.heap.size ≤ b ∧ b < W'.heap.size)), G, H, hs.out, kB W W' G b (fun q hq hl => hf.out.block q hl fun hF => h1 q hF hq) hsz, kC W W' H cc (fun q hq hl => hf.out.block q hl fun hF => h2 q hF hq) hsz, ?_, ?_, h3, ?_, h5.trans (hf.out.below (fun q hq => (h4 q (.inl hq)).1) hs5)⟩⟩
  · rintro x (h | h) hx
    · exact h1 x h hx
    · have := h4 x (.inr (.inl hx)); omega
  · rintro x (h | h) hx
    · exact h2 x h hx
    · have := h4 x (.inr (.inr hx)); omega
  · rintro x ((h | h) | h | h)
    · have := h4 x (.inl h); exact ⟨this.1, by omega⟩
    · exact ⟨by omega, h.2⟩
    · have := h4 x (.inr (.inl h)); exact ⟨this.1, by omega⟩
    · have := h4 x (.inr (.inr h)); exact ⟨this.1, by omega⟩
end
end Go.Proofs.YtoblapnnpjgpnaaGreatDoor.Sto
