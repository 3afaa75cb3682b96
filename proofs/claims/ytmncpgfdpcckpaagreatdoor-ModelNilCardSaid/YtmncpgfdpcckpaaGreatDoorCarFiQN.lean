/- carousel's First: by contract. -/
import Derived.Test.YtmncpgfdpcckpaaGreatDoorCarNewQN
import Derived.Test.YtmncpgfdpcckpaaGreatDoorZPQN
import Derived.Test.YtmncpgfdpcckpaaGreatDoorZZDQN
import Derived.Test.YtmncpgfdpcckpaaGreatDoorZTQN
namespace Go.Proofs.YtmncpgfdpcckpaaGreatDoor.Car
open Go.RowKit
open VecM RdM Vc Sp Pc El Cd Dc
open FrM (frame)
theorem isMan_of {w : World} {s v n zz p : Nat} {Ah : Option Addr} {ch : Nat} {img : List UInt8} (h : RowP w (fun _ => True) Ah 32 (bv (Sha.D img))) : IsMan w (fun _ => True) #[.int .u32 (s : Int), .int .u32 (v : Int), .int .i64 (n : Int), .int .i64 (zz : Int), .int .i64 (p : Int), .slice Ah 32 ch] ⟨s, v, n, zz, p, Sha.D img⟩ := by
 refine ⟨Ah, ch, ?_, ?_⟩
 ·unfold LMan.cells
  show _ = #[Value.int .u32 (s : Int), .int .u32 (v : Int), .int .i64 (n : Int), .int .i64 (zz : Int), .int .i64 (p : Int), .slice Ah (Sha.D img).length ch]
  rw [Sha.D_length]
 ·show RowP w _ Ah (Sha.D img).length _
  rw [Sha.D_length]; exact h
def firstL (key : List UInt8) (s v n zz p : Nat) (img : List UInt8) : List UInt8 := frame 1 ((⟨s, v, n, zz, p, Sha.D img⟩ : LMan).bytes ++ Sh.tagOf key (⟨s, v, n, zz, p, Sha.D img⟩ : LMan).bytes)
end Go.Proofs.YtmncpgfdpcckpaaGreatDoor.Car
