/- Wheel: Add whatever is handed in; what awake sees. -/
import Derived.Test.YtekaoodagaplmaaWhRecs
import Derived.Test.YtekaoodagaplmaaWhMath
import Derived.Test.YtekaoodagaplmaaFlAwake
import Derived.Test.YtekaoodagaplmaaCellCur
import Derived.Test.YtekaoodagaplmaaFill
namespace Go.Proofs.Ytekaoodagaplmaa
open Go.RowKit
/-- a wheel over the flash in block gf, both made since w0 -/
structure WO (w0 : World) (P : Nat → Prop) (gw gf : Nat) (h : Wh) (f : Fl) (K : Int) (W : World) : Prop where
  wh : WhAt P gw gf h W
  fl : FlAt W gf f
  ok : f.Ok K
  base : w0.heap.size ≤ gf
  P : ∀ b, P b → w0.heap.size ≤ b ∧ b < W.heap.size
  b : Below w0.heap.size w0 W
theorem opW_ok (f : Fl) (gen size : Nat) (hg : gen < 4294967296) (h1 : 1 ≤ size) (h2 : size ≤ 16) : (opW f gen size 8).Ok := by
  have hl := opW_len f gen size h1 h2 8
  have hn := opW_next f gen size 8
  have hp := per_bounds h1 h2
  refine ⟨by rw [opW_gen]; exact hg, by rw [opW_size]; exact h1, by rw [opW_size]; exact h2, ?_, ?_, by omega⟩
  · unfold Wh.per; rw [opW_size]; exact hn
  · rcases opW_state f gen size h1 h2 with ⟨a, _⟩ | ⟨r, i, a1, _, _, _, _, a6, _⟩
    · rw [a]; exact ⟨by show (-1 : Int) ≤ -1; omega, by show (-1 : Int) < 8; omega⟩
    · rw [a6]; omega
theorem opW_reclen (f : Fl) (gen size : Nat) (h1 : 1 ≤ size) (h2 : size ≤ 16) : ∀ k, k ≤ 8 → ∀ p ∈ (opW f gen size k).L, p.2.length = size
  | 0, _, p, h => by cases h
  | k + 1, hk, p, h => by
    have hp := per_bounds h1 h2
    cases hc : cntB f gen size k with
    | false => rw [opW_no hc] at h; exact opW_reclen f gen size h1 h2 k (by omega) p h
    | true =>
      rw [opW_yes hc] at h
      rcases List.mem_append.1 h with h | h
      · exact opW_reclen f gen size h1 h2 k (by omega) p h
      · have key : ∀ m, m ≤ 256 / (size + 13) → ∀ p ∈ recsUp (opW f gen size k).gen (opW f gen size k).wide (secB f k) m, p.2.length = size := by
          intro m
          induction m with
          | zero => intro _ p h; cases h
          | succ m ih =>
            intro hm p h
            rcases List.mem_append.1 h with h | h
            · exact ih (by omega) p h
            · split at h
              · obtain rfl := List.mem_singleton.1 h
                have hw : (opW f gen size k).wide = size + 13 := by unfold Wh.wide; rw [opW_size]
                rw [hw]
                have hl : (plAt (secB f k) (size + 13) m).length = size + 13 := plAt_length (by rw [secB_length]; exact Nat.le_trans (Nat.mul_le_mul_right _ hm) hp.2.2)
                unfold plR
                simp [hl]
              · cases h
        exact key _ (Nat.le_refl _) p h
theorem blank_new {f : Fl} {gen size : Nat} (h2 : size ≤ 16) (h : ∀ i, 1536 ≤ i → i < 3584 → f.bs i = 255) : opW f gen size 8 = ⟨gen, size, [], -1, 0⟩ :=
  opW_skip 8 (Nat.zero_le _) fun s _ hs => by
    unfold cntB
    rw [plAt_sub f s _ 0 (by omega)]
    refine blank_no (allFF_of fun q hq => ?_) (by rw [f.sub_length]; omega)
    rw [f.sub_length] at hq
    rw [sub_get _ _ _ _ hq]
    exact h _ (by omega) (by omega)
theorem Fl.Ok.addW {f : Fl} {k : Int} (h : f.Ok k) (x : Wh) (id : Nat) (d : List UInt8) (hd : d.length ≤ 300) : (x.add f id d).2.1.Ok (k + 400) := by
  unfold Wh.add
  split
  · split
    · exact h.more (by omega)
    · split
      · exact h.more (by omega)
      · have h1 := h.prepW x.ready (x.next / x.per)
        split
        · have h3 := h1.prog (wrec x.gen id d) (x.at_ x.next)
          have hl := wrec_length x.gen id d
          split
          · exact h3.more (by rw [hl]; push_cast; omega)
          · exact h3.more (by rw [hl]; push_cast; omega)
        · exact h1.more (by omega)
  · exact h.more (by omega)
theorem made_zero (n : Nat) : (madeCells (Value.int .u8 0).cells (n * 1)).toList = bv (List.replicate n 0) := by
  show (madeCells #[Value.int .u8 0] (n * 1)).toList = _
  rw [Nat.mul_one, toList_madeCells_one, bv_zeros]
def AddW (w0 : World) (P : Nat → Prop) (gw gf : Nat) (r : Wh × Fl × Int) (K : Int) (w : World) (e : Ending) (w' : World) : Prop :=
  e = .returned (.int .i64 r.2.2) ∧ Hid (WO w0 (Pn P w w') gw gf r.1 r.2.1 (K + 400) w') ∧ Hid (Frm w w' (fun b => P b ∨ b = gf))
theorem wadd_w (w0 : World) (P : Nat → Prop) (gw gf id B n cap : Nat) (A : Option Addr) (x : Wh) (d : List UInt8) (f : Fl) (K : Int) (w : World) (hW : WO w0 P gw gf x f K w) (ok : x.Ok) (hK : K ≤ 900000)
    (hl : Row w B A n (bv d)) (hn : n ≤ 300) (hA : ∀ b o, A = some ⟨b, o, none⟩ → 0 < n → b ≠ gf ∧ ¬ P b) (hB : B ≤ w.heap.size) (hid : id < 4294967296) :
    Calls Try.prog 12 #[.pointer (some ⟨gw, 0, none⟩), .int .u32 (id : Int), .slice A n cap] w (AddW w0 P gw gf (x.add f id d) K w) := by
  have key : Calls Try.prog 12 #[.pointer (some ⟨gw, 0, none⟩), .int .u32 (id : Int), .slice A n cap] w (AddOk P gw gf (x.add f id d) w) := by
    by_cases h : n = x.size
    · subst h
      exact add_in P gw gf id B cap A x d f K w hW.wh hW.fl ok hW.ok hK hl (fun b o e => hA b o e (by have := ok.size1; omega)) hB hid
    · exact add_len P gw gf id n cap A x d f w hW.wh hW.fl hl.blen h
  refine key.mono ?_
  rintro e w' ⟨rfl, h1, h2, h3⟩
  have hs := h3.out.size
  have hws := hW.b.size
  refine ⟨rfl, Lib.hid ⟨h1.out, h2.out, hW.ok.addW x id d (by rw [hl.blen]; exact hn), hW.base, ?_, ?_⟩, h3⟩
  · rintro b (h | h)
    · have := hW.P b h; exact ⟨this.1, by omega⟩
    · exact ⟨by omega, h.2⟩
  · exact hW.b.trans (h3.out.below (fun b hb => by
      rcases hb with h | h
      · exact (hW.P b h).1
      · rw [h]; exact hW.base) hws)
theorem WO.below {w0 : World} {P : Nat → Prop} {gw gf : Nat} {h : Wh} {f : Fl} {K : Int} {W W' : World} (a : WO w0 P gw gf h f K W) (hb : Below W.heap.size W W') : WO w0 P gw gf h f K W' :=
  ⟨a.wh.below hb, a.fl.below hb, a.ok, a.base, fun b hp => ⟨(a.P b hp).1, Nat.lt_of_lt_of_le (a.P b hp).2 hb.size⟩, a.b.trans (hb.mono a.b.size)⟩
def OpenW (w0 : World) (gf : Nat) (h : Wh) (f : Fl) (K : Int) (w : World) (e : Ending) (w' : World) : Prop :=
  ∃ gw, e = .returned (.tuple #[.pointer (some ⟨gw, 0, none⟩), .int .i64 0]) ∧ Hid (WO w0 (fun b => w.heap.size ≤ b ∧ b < w'.heap.size) gw gf h f K w') ∧ Hid (Below w.heap.size w w')
theorem open_wo (w0 : World) (gf gen size : Nat) (si : Int) (hsi : si = (size : Int)) (f : Fl) (K : Int) (w : World) (hf : FlAt w gf f) (hok : f.Ok K) (hd : f.down = false) (hs1 : 1 ≤ size) (hs2 : size ≤ 16) (hb : Below w0.heap.size w0 w) (hgf : w0.heap.size ≤ gf) :
    Calls Try.prog 8 #[.pointer (some ⟨gf, 0, none⟩), .int .u32 (gen : Int), .int .i64 si] w (OpenW w0 gf (opW f gen size 8) f K w) := by
  subst hsi
  refine (open_any gf gen size f w hf hd hs1 hs2).mono ?_
  rintro e w' ⟨gw, rfl, _, h2, h3⟩
  exact ⟨gw, rfl, Lib.hid ⟨h2.out, hf.below h3.out, hok, hgf, fun b hp => ⟨Nat.le_trans hb.size hp.1, hp.2⟩, hb.trans (h3.out.mono hb.size)⟩, h3⟩
set_option maxRecDepth 100000 in
set_option maxHeartbeats 3200000 in
theorem awake18_any (w : World) : Calls Try.prog 5 #[] w fun e w' => e = .returned (.bool true) ∧ Hid (Below w.heap.size w w') := by
  obtain ⟨i0, hi, hz0, hz1, hz2⟩ := info_parts Try.info5
  go_enter Try.func5, Try.ntmps5
  go_wp2_with fail
  refine (new_any 10 w (by omega)).mono ?_
  rintro e w1 ⟨gf, rfl, hgf, hf, hb⟩
  have HOK := Lib.hid (new_ok 10 (by decide))
  have hbl : opW ((flNew 10).fill 0 3584) 1 16 8 = ⟨1, 16, [], -1, 0⟩ := blank_new (by omega) fun i _ hi => by
    show (if 0 ≤ i ∧ i < 0 + 3584 then (255 : UInt8) else _) = 255
    rw [if_pos (by omega)]
  have hac := add_cases (f := (flNew 10).fill 0 3584) (gen := 1) (size := 16) (S := 0) (j := 0) (id := 7) (d := List.replicate 16 0) (by omega) (by omega) (by simp) (by omega) (by omega) rfl (by rw [hbl]; decide) (by rw [hbl]; rfl) (by rw [hbl]; rfl)
  rw [hbl] at hac
  have HO1 := Lib.hid (open_wo w gf 1 16 16 rfl ((flNew 10).fill 0 3584) 0 w1 hf.out HOK.out rfl (by omega) (by omega) hb.out hgf)
  rw [hbl] at HO1
  have hth : ((flNew 10).fill 0 3584).there = false := rfl
  have hsec : allFF (secB ((flNew 10).fill 0 3584) 0) = true := by
    refine allFF_of fun q hq => ?_
    rw [secB_length] at hq
    unfold secB
    rw [sub_get _ _ _ _ hq]
    show (if _ then (255 : UInt8) else _) = 255
    rw [if_pos (by omega)]
  generalize (flNew 10).fill 0 3584 = f0 at *
  obtain ⟨f2, e2, e3, -, e5, -⟩ : ∃ f2, (⟨1, 16, [], -1, 0⟩ : Wh).add f0 7 (List.replicate 16 0) = (opW f2 1 16 8, f2, 0) ∧ opW f2 1 16 8 = { (⟨1, 16, [], -1, 0⟩ : Wh) with L := ([] : List (Nat × List UInt8)) ++ [(7, List.replicate 16 0)], ready := ((0 : Nat) : Int), next := 0 + 1 } ∧ True ∧ f2.down = false ∧ True := by
    rcases hac with ⟨f2, a1, a2, _, a4, _⟩ | ⟨a0, _⟩ | ⟨_, _, _, a4⟩
    · exact ⟨f2, a1, a2, trivial, a4, trivial⟩
    · rw [hth] at a0; cases a0
    · rw [hsec] at a4; cases a4
  have HE2 := Lib.hid e2
  have HE3 := Lib.hid e3
  have HD2 := Lib.hid e5
  clear hac hbl e2 e3 e5 hf hb hsec hth HOK
  go_wp2_with fail
  refine HO1.out.mono ?_
  rintro e w2 ⟨gw, rfl, hw2, hb2⟩
  clear HO1
  have HOKN : Hid (Wh.Ok ⟨1, 16, [], -1, 0⟩) := ⟨by show 1 < 4294967296; omega, by show 1 ≤ 16; omega, by show 16 ≤ 16; omega, by show 0 ≤ _; omega, by show -1 ≤ (-1 : Int) ∧ (-1 : Int) < 8; omega, by show 0 ≤ 1000; omega⟩
  go_wp2_with (at_make; refine wpList_make_full w2 rfl _ _ 37 rfl w2.heap.size 5 i0 (.int .u8 0) 1 Try.underlying37 hi hz0 hz1 .i64 .i64 _ _ 16 rfl rfl rfl rfl (by rw [hz2]; omega) (by unfold maxLen; omega) (Nat.le_refl _) ?_; intro w3 hown3 hg3)
  have hb3 : Below w2.heap.size w2 w3 := (Below.refl _ _).grown hg3 (Nat.le_refl _) (by intro g h; cases h)
  rw [made_zero] at hown3
  have HAD := Lib.hid (wadd_w w _ gw gf 7 w3.heap.size 16 16 _ ⟨1, 16, [], -1, 0⟩ _ f0 0 w3 (hw2.out.below hb3) HOKN.out (by omega) (Row.of_own hown3) (by omega) (fun b o e _ => by
    injection e with e
    injection e with e
    have h1 := hw2.out.fl.lt
    exact ⟨by omega, fun h => by have := h.2; omega⟩) (Nat.le_refl _) (by omega))
  rw [HE2.out] at HAD
  have HB2 := Lib.hid hw2.out.b
  clear hown3 hg3 hb3 hw2 hb2
  refine HAD.out.mono ?_
  rintro e w4 ⟨rfl, hw4, hfr4⟩
  have HO1 := Lib.hid (open_wo w gf 1 16 16 rfl f2 _ w4 hw4.out.fl hw4.out.ok HD2.out (by omega) (by omega) hw4.out.b hw4.out.base)
  clear HAD hfr4
  go_wp2_with fail
  refine HO1.out.mono ?_
  rintro e w5 ⟨gx, rfl, hw5, hb5⟩
  clear HO1
  have hok2 : (opW f2 1 16 8).Ok := opW_ok f2 1 16 (by omega) (by omega) (by omega)
  have hlen := opW_reclen f2 1 16 (by omega) (by omega) 8 (by omega)
  have hroom : (opW f2 1 16 8).room = 63 := by rw [HE3.out]; rfl
  have hL : (opW f2 1 16 8).L.length = 1 := by rw [HE3.out]; rfl
  have HRC := Lib.hid (recs_any _ gx gf (opW f2 1 16 8) w5 hw5.out.wh (fun p hp => by have := hlen p hp; omega) (by omega))
  have HRM := Lib.hid (fun W (hW : Below w5.heap.size w5 W) => wroom_any (hw5.out.wh.below hW) hok2)
  have HRM2 := Lib.hid (fun W (hW : Below w5.heap.size w5 W) => wroom_any ((hw4.out.wh.below hb5.out).below hW) hok2)
  have HB5 := Lib.hid hw5.out.b
  rw [hroom] at HRM HRM2
  have HL1 := Lib.hid hL
  clear hw5 hb5 hw4 hok2 hlen hroom hL
  go_wp2_with fail
  refine HRC.out.mono ?_
  rintro e w6 ⟨A6, n6, c6, es6, rfl, hr6, hm6, hb6⟩
  have hn6 : n6 = 1 := by
    rw [← hr6.out.2.2.1, ← HL1.out, ← hm6.out]; simp
  subst hn6
  clear hr6 hm6 HRC
  go_wp2_with fail
  refine (HRM.out w6 hb6.out).mono ?_
  rintro e w7 ⟨rfl, q7, rfl⟩
  go_wp2_with fail
  refine (HRM2.out _ (below_drewN hb6.out q7)).mono ?_
  rintro e w8 ⟨rfl, q8, rfl⟩
  go_wp2_with fail
  go_ret
  exact ⟨rfl, Lib.hid (below_drewN (HB5.out.trans (hb6.out.mono HB5.out.size)) (q7 + q8))⟩
end Go.Proofs.Ytekaoodagaplmaa
