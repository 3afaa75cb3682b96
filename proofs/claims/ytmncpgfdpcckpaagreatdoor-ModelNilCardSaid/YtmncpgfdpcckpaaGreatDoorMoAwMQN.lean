/- What the model that every program must know makes of its three packets: as data. -/
import Derived.Test.YtmncpgfdpcckpaaGreatDoorZMFQN
import Derived.Test.YtmncpgfdpcckpaaGreatDoorCarFiQN
import Derived.Test.YtmncpgfdpcckpaaGreatDoorZZDQN
import Derived.Test.YtmncpgfdpcckpaaGreatDoorZZFQN
namespace Go.Proofs.YtmncpgfdpcckpaaGreatDoor.Mo
open Go.RowKit
open VecM RdM Vc Sp Pc El Cd Dc
def awM (h : List UInt8) : LMan := ⟨5, 2, ((4 : Nat) : Int), ((2 : Nat) : Int), ((1 : Nat) : Int), h⟩
def aw0 (h0 : List UInt8) : MoD := ⟨[107, 101, 121], Go.Proofs.YtmncpgfdpcckpaaGreatDoor.firstL 1 3 h0, [111, 108, 100], [], none⟩
def awB (h : List UInt8) : List UInt8 := (awM h).bytes ++ Sh.tagOf [107, 101, 121] (awM h).bytes
def awS (id : Nat) : List UInt8 := symB 5 id (symX 5 2 1 2 [110, 101, 119, 33] id)
def awD : DeD := ⟨5, 2, 1, 2, matR 5 2 1 2 1, 0⟩
def awD1 : DeD := awD.take 1 (symX 5 2 1 2 [110, 101, 119, 33] 1)
def awD2 : DeD := awD1.take 0 (symX 5 2 1 2 [110, 101, 119, 33] 0)
theorem awD_is (h : List UInt8) : newDe (awM h) = awD := by
 have e : BlkM.count ((4 : Nat) : Int) ((2 : Nat) : Int) = 2 := by decide
 unfold newDe awM awD
 dsimp only
 rw [e]
 rfl
theorem awS_1 : (awS 1).length = 10 ∧ CrcM.number ((awS 1).take 4) = 5 ∧ CrcM.number (((awS 1).drop 4).take 4) = 1 ∧ (awS 1).drop 8 = symX 5 2 1 2 [110, 101, 119, 33] 1 := by decide +kernel
theorem awS_0 : (awS 0).length = 10 ∧ CrcM.number ((awS 0).take 4) = 5 ∧ CrcM.number (((awS 0).drop 4).take 4) = 0 ∧ (awS 0).drop 8 = symX 5 2 1 2 [110, 101, 119, 33] 0 := by decide +kernel
theorem awD_1 : awD.says 1 (symX 5 2 1 2 [110, 101, 119, 33] 1) = true ∧ rankM awD1.M = 2 := by decide +kernel
theorem awD_0 : awD1.says 0 (symX 5 2 1 2 [110, 101, 119, 33] 0) = true ∧ rankM awD2.M = 3 ∧ awD2.image ((4 : Nat) : Int) = [110, 101, 119, 33] := by decide +kernel
theorem awM_may {h : List UInt8} (hh : h.length = 32) : (awM h).may = true ∧ (awM h).w32 := by
 refine ⟨?_, ?_⟩
 ·show manB ((4 : Nat) : Int) ((2 : Nat) : Int) ((1 : Nat) : Int) h.length = true
  rw [hh]; decide +kernel
 ·exact ⟨by show 5 < 4294967296; decide, by show 2 < 4294967296; decide⟩
def aw1 (h0 h : List UInt8) : MoD := { aw0 h0 with L := (aw0 h0).L.admitted (awM h), d := some awD }
def aw2 (h0 h : List UInt8) : MoD := { aw1 h0 h with d := some awD1 }
def aw3 (h0 h : List UInt8) : MoD := { aw2 h0 h with L := (aw1 h0 h).L.activate, d := none, i1 := [110, 101, 119, 33] }
theorem aw_man {h0 h : List UInt8} (hh0 : h0.length = 32) (hh : h.length = 32) : (aw0 h0).pk 1 (awB h) 0 = (aw1 h0 h, 0) := by
 obtain ⟨hm, hw⟩ := awM_may hh
 obtain ⟨p1, p2⟩ := par_bytes [107, 101, 121] hm hw
 have hl : (aw0 h0).L.may = true := first_may 1 3 h0 hh0 (by omega) (by omega)
 have ha : (aw0 h0).L.admitR (awM h) = 0 := by
  rw [admitR_off hl hm rfl rfl (newer_of hl (by show 0 < 2; omega) (by show (if (0 : Int) = 0 then 1 else 0) < 2; decide) (fun e => by cases e))]
  rfl
 unfold MoD.pk
 rw [if_neg (by decide), if_pos rfl]
 unfold MoD.man
 rw [show (aw0 h0).key = [107, 101, 121] from rfl, show awB h = (awM h).bytes ++ Sh.tagOf [107, 101, 121] (awM h).bytes from rfl, if_pos p1, p2, if_pos ha, awD_is]
 rfl
theorem aw_s1 (h0 h : List UInt8) : (aw1 h0 h).pk 2 (awS 1) 0 = (aw2 h0 h, 0) := by
 obtain ⟨a1, a2, a3, a4⟩ := awS_1
 obtain ⟨b1, b2⟩ := awD_1
 unfold MoD.pk
 rw [if_neg (by decide), if_neg (by decide), if_pos rfl]
 unfold MoD.sym
 rw [a1, a2, a3, a4, show (aw1 h0 h).L.on = true from rfl, show (aw1 h0 h).L.m.s = 5 from rfl, show (aw1 h0 h).L.m.z = ((2 : Nat) : Int) from rfl, if_neg (by decide), if_neg (by decide), if_neg (show ¬ (true = false) by decide), if_neg (show ¬ (5 ≠ 5) by decide), if_neg (show ¬ (((10 - 8 : Nat) : Int) ≠ ((2 : Nat) : Int)) by decide)]
 show (aw1 h0 h).symD awD 1 _ = _
 unfold MoD.symD
 rw [if_pos b1, show awD.take 1 (symX 5 2 1 2 [110, 101, 119, 33] 1) = awD1 from rfl, if_neg (by rw [b2]; decide)]
 rfl
theorem aw_s0 (h0 : List UInt8) : (aw2 h0 (Sha.D [110, 101, 119, 33])).pk 2 (awS 0) 0 = (aw3 h0 (Sha.D [110, 101, 119, 33]), 0) := by
 obtain ⟨a1, a2, a3, a4⟩ := awS_0
 obtain ⟨b1, b2, b3⟩ := awD_0
 unfold MoD.pk
 rw [if_neg (by decide), if_neg (by decide), if_pos rfl]
 unfold MoD.sym
 rw [a1, a2, a3, a4, show (aw2 h0 (Sha.D [110, 101, 119, 33])).L.on = true from rfl, show (aw2 h0 (Sha.D [110, 101, 119, 33])).L.m.s = 5 from rfl, show (aw2 h0 (Sha.D [110, 101, 119, 33])).L.m.z = ((2 : Nat) : Int) from rfl, if_neg (by decide), if_neg (by decide), if_neg (show ¬ (true = false) by decide), if_neg (show ¬ (5 ≠ 5) by decide), if_neg (show ¬ (((10 - 8 : Nat) : Int) ≠ ((2 : Nat) : Int)) by decide)]
 show (aw2 h0 (Sha.D [110, 101, 119, 33])).symD awD1 0 _ = _
 unfold MoD.symD
 rw [if_pos b1, show awD1.take 0 (symX 5 2 1 2 [110, 101, 119, 33] 0) = awD2 from rfl, if_pos (by rw [b2]; rfl)]
 unfold MoD.fin
 rw [show (aw2 h0 (Sha.D [110, 101, 119, 33])).L.m.l = ((4 : Nat) : Int) from rfl, b3, if_pos (show Sha.D [110, 101, 119, 33] = (aw2 h0 (Sha.D [110, 101, 119, 33])).L.m.h from rfl)]
 rfl
theorem aw0_ok {h0 : List UInt8} (hh0 : h0.length = 32) : MoOk (aw0 h0) 0 := ⟨by show 3 ≤ 64; decide, first_may 1 3 h0 hh0 (by omega) (by omega), by show 3 ≤ 512; decide, by show 0 ≤ 512; decide, fun e => (by cases e), fun _ => rfl⟩
theorem aw1_ok {h0 h : List UInt8} (hh0 : h0.length = 32) (hh : h.length = 32) : MoOk (aw1 h0 h) 1 := by
 have := (aw0_ok hh0).pk 1 (awB h) 0
 rwa [aw_man hh0 hh] at this
theorem aw2_ok {h0 h : List UInt8} (hh0 : h0.length = 32) (hh : h.length = 32) : MoOk (aw2 h0 h) 2 := by
 have := (aw1_ok hh0 hh).pk 2 (awS 1) 0
 rwa [aw_s1] at this
theorem aw3_ok {h0 : List UInt8} (hh0 : h0.length = 32) : MoOk (aw3 h0 (Sha.D [110, 101, 119, 33])) 3 := by
 have := (aw2_ok (h := Sha.D [110, 101, 119, 33]) hh0 (Sha.D_length _)).pk 2 (awS 0) 0
 rwa [aw_s0] at this
theorem aw3_run (h0 h : List UInt8) : (aw3 h0 h).run = [110, 101, 119, 33] ∧ (aw3 h0 h).L.trial = 3 := ⟨rfl, rfl⟩
end Go.Proofs.YtmncpgfdpcckpaaGreatDoor.Mo
