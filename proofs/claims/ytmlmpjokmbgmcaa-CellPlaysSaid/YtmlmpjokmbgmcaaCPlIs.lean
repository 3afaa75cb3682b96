/- Reading and writing a cell, ours and the reference's, whatever stands there: one answer each. -/
import Derived.Test.YtmlmpjokmbgmcaaRCell3
import Derived.Test.YtmlmpjokmbgmcaaCellEr
namespace Go.Proofs.Ytmlmpjokmbgmcaa
open Go.RowKit
theorem cread_is (g : Nat) (f : Fl) (d : List UInt8) (k : Int) (w : World) (hf : FlAt w g f) (h : RdIs f d k) : Calls Try.prog 17 #[.pointer (some ⟨g, 0, none⟩)] w (RBytesK d k w) := by
  rcases h with ⟨hd, rfl, rfl⟩ | ⟨hd, ⟨h0, h1, rfl, rfl⟩ | ⟨hh, rfl⟩⟩
  · refine (cread_er _ 11 w (noRead_down hf hd) (by decide)).mono ?_
    rintro e w' ⟨rfl, hb⟩
    exact ⟨none, 0, 0, rfl, rfl, Row.nil _ _ _, hb⟩
  · refine (cread_none g f w hf hd h0 h1).mono ?_
    rintro e w' ⟨rfl, hb⟩
    exact ⟨none, 0, 0, rfl, rfl, Row.nil _ _ _, hb⟩
  · refine (cread_any g f d w hf hd hh).mono ?_
    rintro e w' ⟨A, n, c, rfl, hn, _, hr, _, hb⟩
    exact ⟨A, n, c, rfl, hn, hr, hb⟩
theorem done_below {g : Nat} {f : Fl} {w w' : World} (hf : FlAt w g f) (hb : Below w.heap.size w w') : Done g f w w' :=
  ⟨hf.below hb, hb.os, hb.tape, hb.output, hb.size, fun j hj _ => hb.block j hj⟩
theorem rdone_below {gm gB : Nat} {f : Fl} {w w' : World} (hf : RfAt w gm gB f) (hb : Below w.heap.size w w') : RDone gm gB f w w' :=
  ⟨hf.below hb, (Gr2.refl gm gB w).below hb⟩
theorem WrIs.ok {f : Fl} {b : List UInt8} {r : Fl × Int} {k : Int} (h : WrIs f b r) (hok : f.Ok k) : r.1.Ok (k + 300) := by
  rcases h with ⟨_, rfl⟩ | ⟨_, _, rfl⟩ | ⟨hb, _, s, N, _, ⟨_, rfl⟩ | ⟨_, rfl⟩⟩
  · exact hok.more (by omega)
  · exact hok.more (by omega)
  · exact hok.more (by omega)
  · unfold Fl.putC
    split
    · exact ((hok.erase s).prog (msgz N b) (256 * s)).more (by rw [msgz_length]; omega)
    · exact (hok.erase s).more (by omega)
theorem cwrite_is (g B m cap : Nat) (A : Option Addr) (b : List UInt8) (f : Fl) (w : World) (r : Fl × Int) (k : Int) (hf : FlAt w g f) (hl : Row w B A m (bv b)) (hA : 0 < m → ∀ b o, A = some ⟨b, o, none⟩ → b ≠ g) (hB : B ≤ w.heap.size)
    (hok : f.Ok k) (hk : k ≤ 1000000) (h : WrIs f b r) : Calls Try.prog 19 #[.pointer (some ⟨g, 0, none⟩), .slice A m cap] w fun e w' => e = .returned (.int .i64 r.2) ∧ Done g r.1 w w' := by
  have hbl := hl.blen
  rcases h with ⟨hb, rfl⟩ | ⟨hb, hd, rfl⟩ | ⟨hb, hd, s, N, hw, ⟨rfl, rfl⟩ | ⟨hN, rfl⟩⟩
  · refine (cwrite_arg _ A m cap w (by omega)).mono ?_
    rintro e w' ⟨rfl, rfl⟩
    exact ⟨rfl, done_below hf (Below.refl _ _)⟩
  · refine (cwrite_er _ A m cap 11 w (noRead_down hf hd) (by decide) (by omega)).mono ?_
    rintro e w' ⟨rfl, hb'⟩
    exact ⟨rfl, done_below hf hb'.out⟩
  · refine (cwrite_full g m cap s A f w hf (by omega) hd hw).mono ?_
    rintro e w' ⟨rfl, hb'⟩
    exact ⟨rfl, done_below hf hb'.out⟩
  · refine (cwrite_any g B m cap s N A b f w k hf hl hA hB (by omega) hd hok hk hw hN).mono ?_
    rintro e w' ⟨rfl, hb'⟩
    exact ⟨rfl, hb'.out⟩
theorem rcwrite_is (gm gB B m cap : Nat) (A : Option Addr) (b : List UInt8) (f : Fl) (w : World) (r : Fl × Int) (k : Int) (hf : RfAt w gm gB f) (hl : Row w B A m (bv b)) (hA : 0 < m → ∀ b o, A = some ⟨b, o, none⟩ → b ≠ gm ∧ b ≠ gB) (hB : B ≤ w.heap.size)
    (hok : f.Ok k) (hk : k ≤ 1000000) (h : WrIs f b r) : Calls Try.prog 20 #[.pointer (some ⟨gm, 0, none⟩), .slice A m cap] w fun e w' => e = .returned (.int .i64 r.2) ∧ RDone gm gB r.1 w w' := by
  have hbl := hl.blen
  rcases h with ⟨hb, rfl⟩ | ⟨hb, hd, rfl⟩ | ⟨hb, hd, s, N, hw, ⟨rfl, rfl⟩ | ⟨hN, rfl⟩⟩
  · refine (rcwrite_arg (by omega)).mono ?_
    rintro e w' ⟨rfl, rfl⟩
    exact ⟨rfl, rdone_below hf (Below.refl _ _)⟩
  · refine (rcwrite_down hf (by omega) hd).mono ?_
    rintro e w' ⟨rfl, rfl⟩
    exact ⟨rfl, rdone_below hf (Below.refl _ _)⟩
  · refine (rcwrite_full hf (by omega) hd hw).mono ?_
    rintro e w' ⟨rfl, hb'⟩
    exact ⟨rfl, rdone_below hf hb'.out⟩
  · refine (rcwrite_put hf hl hA hB (by omega) hd hok hk hw hN).mono ?_
    rintro e w' ⟨rfl, hb'⟩
    exact ⟨rfl, hb'.out⟩
end Go.Proofs.Ytmlmpjokmbgmcaa
