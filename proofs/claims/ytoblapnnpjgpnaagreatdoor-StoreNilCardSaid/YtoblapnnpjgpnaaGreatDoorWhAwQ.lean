/- Wheel: Add whatever is handed in; what awake sees. -/
import Derived.Test.YtoblapnnpjgpnaaGreatDoorWhRecsQ
import Derived.Test.YtoblapnnpjgpnaaGreatDoorWhMathQ
import Derived.Test.YtoblapnnpjgpnaaGreatDoorZG
import Derived.Test.YtoblapnnpjgpnaaGreatDoorZI
import Derived.Test.YtoblapnnpjgpnaaGreatDoorZA
namespace Go.Proofs.YtoblapnnpjgpnaaGreatDoor
open Go.RowKit
/-- a wheel over the flash in block gf, both made since w0 -/
structure WO (w0 : World) (P : Nat → Prop) (gw gf : Nat) (h : Wh) (f : Fl) (K : Int) (W : World) : Prop where
  wh : WhAt P gw gf h W
  fl : FlAt W gf f
  ok : f.Ok K
  base : w0.heap.size ≤ gf
  P : ∀ b, P b → w0.heap.size ≤ b ∧ b < W.heap.size
  b : Below w0.heap.size w0 W
theorem opW_ok (f : Fl) (gen size : Nat) (hg : gen < 4294967296) (h1 : 1 ≤ size) (h2 : size ≤ 16) : (opW f gen size 8).Ok := by
  have hl := opW_len f gen size h1 h2 8
  have hn := opW_next f gen size 8
  have hp := per_bounds h1 h2
  refine ⟨by rw [opW_gen]; exact hg, by rw [opW_size]; exact h1, by rw [opW_size]; exact h2, ?_, ?_, by omega⟩
  · unfold Wh.per; rw [opW_size]; exact hn
  · rcases opW_state f gen size h1 h2 with ⟨a, _⟩ | ⟨r, i, a1, _, _, _, _, a6, _⟩
    · rw [a]; exact ⟨by show (-1 : Int) ≤ -1; omega, by show (-1 : Int) < 8; omega⟩
    · rw [a6]; omega
theorem opW_reclen (f : Fl) (gen size : Nat) (h1 : 1 ≤ size) (h2 : size ≤ 16) : ∀ k, k ≤ 8 → ∀ p ∈ (opW f gen size k).L, p.2.length = size
  | 0, _, p, h => by cases h
  | k + 1, hk, p, h => by
    have hp := per_bounds h1 h2
    cases hc : cntB f gen size k with
    | false => rw [opW_no hc] at h; exact opW_reclen f gen size h1 h2 k (by omega) p h
    | true =>
      rw [opW_yes hc] at h
      rcases List.mem_append.1 h with h | h
      · exact opW_reclen f gen size h1 h2 k (by omega) p h
      · have key : ∀ m, m ≤ 256 / (size + 13) → ∀ p ∈ recsUp (opW f gen size k).gen (opW f gen size k).wide (secB f k) m, p.2.length = size := by
          intro m
          induction m with
          | zero => intro _ p h; cases h
          | succ m ih =>
            intro hm p h
            rcases List.mem_append.1 h with h | h
            · exact ih (by omega) p h
            · split at h
              · obtain rfl := List.mem_singleton.1 h
                have hw : (opW f gen size k).wide = size + 13 := by unfold Wh.wide; rw [opW_size]
                rw [hw]
                have hl : (plAt (secB f k) (size + 13) m).length = size + 13 := plAt_length (by rw [secB_length]; exact Nat.le_trans (Nat.mul_le_mul_right _ hm) hp.2.2)
                unfold plR
                simp [hl]
              · cases h
        exact key _ (Nat.le_refl _) p h
theorem blank_new {f : Fl} {gen size : Nat} (h2 : size ≤ 16) (h : ∀ i, 1536 ≤ i → i < 3584 → f.bs i = 255) : opW f gen size 8 = ⟨gen, size, [], -1, 0⟩ :=
  opW_skip 8 (Nat.zero_le _) fun s _ hs => by
    unfold cntB
    rw [plAt_sub f s _ 0 (by omega)]
    refine blank_no (allFF_of fun q hq => ?_) (by rw [f.sub_length]; omega)
    rw [f.sub_length] at hq
    rw [sub_get _ _ _ _ hq]
    exact h _ (by omega) (by omega)
theorem Fl.Ok.addW {f : Fl} {k : Int} (h : f.Ok k) (x : Wh) (id : Nat) (d : List UInt8) (hd : d.length ≤ 300) : (x.add f id d).2.1.Ok (k + 400) := by
  unfold Wh.add
  split
  · split
    · exact h.more (by omega)
    · split
      · exact h.more (by omega)
      · have h1 := h.prepW x.ready (x.next / x.per)
        split
        · have h3 := h1.prog (wrec x.gen id d) (x.at_ x.next)
          have hl := wrec_length x.gen id d
          split
          · exact h3.more (by rw [hl]; push_cast; omega)
          · exact h3.more (by rw [hl]; push_cast; omega)
        · exact h1.more (by omega)
  · exact h.more (by omega)
theorem made_zero (n : Nat) : (madeCells (Value.int .u8 0).cells (n * 1)).toList = bv (List.replicate n 0) := by
  show (madeCells #[Value.int .u8 0] (n * 1)).toList = _
  rw [Nat.mul_one, toList_madeCells_one, bv_zeros]
def AddW (w0 : World) (P : Nat → Prop) (gw gf : Nat) (r : Wh × Fl × Int) (K : Int) (w : World) (e : Ending) (w' : World) : Prop :=
  e = .returned (.int .i64 r.2.2) ∧ Hid (WO w0 (Pn P w w') gw gf r.1 r.2.1 (K + 400) w') ∧ Hid (Frm w w' (fun b => P b ∨ b = gf))
theorem wadd_w (w0 : World) (P : Nat → Prop) (gw gf id B n cap : Nat) (A : Option Addr) (x : Wh) (d : List UInt8) (f : Fl) (K : Int) (w : World) (hW : WO w0 P gw gf x f K w) (ok : x.Ok) (hK : K ≤ 900000)
    (hl : Row w B A n (bv d)) (hn : n ≤ 300) (hA : ∀ b o, A = some ⟨b, o, none⟩ → 0 < n → b ≠ gf ∧ ¬ P b) (hB : B ≤ w.heap.size) (hid : id < 4294967296) :
    Calls Tryz.prog 29 #[.pointer (some ⟨gw, 0, none⟩), .int .u32 (id : Int), .slice A n cap] w (AddW w0 P gw gf (x.add f id d) K w) := by
  have key : Calls Tryz.prog 29 #[.pointer (some ⟨gw, 0, none⟩), .int .u32 (id : Int), .slice A n cap] w (AddOk P gw gf (x.add f id d) w) := by
    by_cases h : n = x.size
    · subst h
      exact add_in P gw gf id B cap A x d f K w hW.wh hW.fl ok hW.ok hK hl (fun b o e => hA b o e (by have := ok.size1; omega)) hB hid
    · exact add_len P gw gf id n cap A x d f w hW.wh hW.fl hl.blen h
  refine key.mono ?_
  rintro e w' ⟨rfl, h1, h2, h3⟩
  have hs := h3.out.size
  have hws := hW.b.size
  refine ⟨rfl, Lib.hid ⟨h1.out, h2.out, hW.ok.addW x id d (by rw [hl.blen]; exact hn), hW.base, ?_, ?_⟩, h3⟩
  · rintro b (h | h)
    · have := hW.P b h; exact ⟨this.1, by omega⟩
    · exact ⟨by omega, h.2⟩
  · exact hW.b.trans (h3.out.below (fun b hb => by
      rcases hb with h | h
      · exact (hW.P b h).1
      · rw [h]; exact hW.base) hws)
theorem WO.below {w0 : World} {P : Nat → Prop} {gw gf : Nat} {h : Wh} {f : Fl} {K : Int} {W W' : World} (a : WO w0 P gw gf h f K W) (hb : Below W.heap.size W W') : WO w0 P gw gf h f K W' :=
  ⟨a.wh.below hb, a.fl.below hb, a.ok, a.base, fun b hp => ⟨(a.P b hp).1, Nat.lt_of_lt_of_le (a.P b hp).2 hb.size⟩, a.b.trans (hb.mono a.b.size)⟩
def OpenW (w0 : World) (gf : Nat) (h : Wh) (f : Fl) (K : Int) (w : World) (e : Ending) (w' : World) : Prop :=
  ∃ gw, e = .returned (.tuple #[.pointer (some ⟨gw, 0, none⟩), .int .i64 0]) ∧ Hid (WO w0 (fun b => w.heap.size ≤ b ∧ b < w'.heap.size) gw gf h f K w') ∧ Hid (Below w.heap.size w w')
theorem open_wo (w0 : World) (gf gen size : Nat) (si : Int) (hsi : si = (size : Int)) (f : Fl) (K : Int) (w : World) (hf : FlAt w gf f) (hok : f.Ok K) (hd : f.down = false) (hs1 : 1 ≤ size) (hs2 : size ≤ 16) (hb : Below w0.heap.size w0 w) (hgf : w0.heap.size ≤ gf) :
    Calls Tryz.prog 24 #[.pointer (some ⟨gf, 0, none⟩), .int .u32 (gen : Int), .int .i64 si] w (OpenW w0 gf (opW f gen size 8) f K w) := by
  subst hsi
  refine (open_any gf gen size f w hf hd hs1 hs2).mono ?_
  rintro e w' ⟨gw, rfl, _, h2, h3⟩
  exact ⟨gw, rfl, Lib.hid ⟨h2.out, hf.below h3.out, hok, hgf, fun b hp => ⟨Nat.le_trans hb.size hp.1, hp.2⟩, hb.trans (h3.out.mono hb.size)⟩, h3⟩
end Go.Proofs.YtoblapnnpjgpnaaGreatDoor
