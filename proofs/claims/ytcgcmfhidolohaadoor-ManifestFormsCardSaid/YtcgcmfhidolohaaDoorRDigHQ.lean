/- The reference's turn, table, Number: by contract. -/
import Derived.Deep.LoopGhost
import Derived.Test.YtcgcmfhidolohaaDoorShaMixQ
import Derived.Test.YtcgcmfhidolohaaDoorShaChunkQ
import Derived.Test.YtcgcmfhidolohaaDoorZA
namespace Go.Proofs.YtcgcmfhidolohaaDoor.Sh
open Go.RowKit
theorem turn_2 (x : Nat) (w : World) (HX : Hid (x < 4294967296)) : Calls Tryd.prog 41 #[.int .u32 (x : Int), .int .u64 2] w fun e w' => e = .returned (.int .u32 (Sha.rotr x 2 : Nat)) ∧ w = w' := by
  go_enter Tryd.func41, Tryd.ntmps41
  go_wp2_with fail
  go_ret
  refine ⟨?_, rfl⟩
  have hx := HX.out
  rw [show (x : Int) * 1073741824 % 4294967296 = ((x * 1073741824 % 4294967296 : Nat) : Int) by omega, show (x : Int) / 4 = ((x / 4 : Nat) : Int) by omega, u32_or_nat _ _ (by omega) (Nat.mod_lt _ (by decide))]
  rfl
theorem turn_6 (x : Nat) (w : World) (HX : Hid (x < 4294967296)) : Calls Tryd.prog 41 #[.int .u32 (x : Int), .int .u64 6] w fun e w' => e = .returned (.int .u32 (Sha.rotr x 6 : Nat)) ∧ w = w' := by
  go_enter Tryd.func41, Tryd.ntmps41
  go_wp2_with fail
  go_ret
  refine ⟨?_, rfl⟩
  have hx := HX.out
  rw [show (x : Int) * 67108864 % 4294967296 = ((x * 67108864 % 4294967296 : Nat) : Int) by omega, show (x : Int) / 64 = ((x / 64 : Nat) : Int) by omega, u32_or_nat _ _ (by omega) (Nat.mod_lt _ (by decide))]
  rfl
theorem turn_7 (x : Nat) (w : World) (HX : Hid (x < 4294967296)) : Calls Tryd.prog 41 #[.int .u32 (x : Int), .int .u64 7] w fun e w' => e = .returned (.int .u32 (Sha.rotr x 7 : Nat)) ∧ w = w' := by
  go_enter Tryd.func41, Tryd.ntmps41
  go_wp2_with fail
  go_ret
  refine ⟨?_, rfl⟩
  have hx := HX.out
  rw [show (x : Int) * 33554432 % 4294967296 = ((x * 33554432 % 4294967296 : Nat) : Int) by omega, show (x : Int) / 128 = ((x / 128 : Nat) : Int) by omega, u32_or_nat _ _ (by omega) (Nat.mod_lt _ (by decide))]
  rfl
theorem turn_11 (x : Nat) (w : World) (HX : Hid (x < 4294967296)) : Calls Tryd.prog 41 #[.int .u32 (x : Int), .int .u64 11] w fun e w' => e = .returned (.int .u32 (Sha.rotr x 11 : Nat)) ∧ w = w' := by
  go_enter Tryd.func41, Tryd.ntmps41
  go_wp2_with fail
  go_ret
  refine ⟨?_, rfl⟩
  have hx := HX.out
  rw [show (x : Int) * 2097152 % 4294967296 = ((x * 2097152 % 4294967296 : Nat) : Int) by omega, show (x : Int) / 2048 = ((x / 2048 : Nat) : Int) by omega, u32_or_nat _ _ (by omega) (Nat.mod_lt _ (by decide))]
  rfl
theorem turn_13 (x : Nat) (w : World) (HX : Hid (x < 4294967296)) : Calls Tryd.prog 41 #[.int .u32 (x : Int), .int .u64 13] w fun e w' => e = .returned (.int .u32 (Sha.rotr x 13 : Nat)) ∧ w = w' := by
  go_enter Tryd.func41, Tryd.ntmps41
  go_wp2_with fail
  go_ret
  refine ⟨?_, rfl⟩
  have hx := HX.out
  rw [show (x : Int) * 524288 % 4294967296 = ((x * 524288 % 4294967296 : Nat) : Int) by omega, show (x : Int) / 8192 = ((x / 8192 : Nat) : Int) by omega, u32_or_nat _ _ (by omega) (Nat.mod_lt _ (by decide))]
  rfl
theorem turn_17 (x : Nat) (w : World) (HX : Hid (x < 4294967296)) : Calls Tryd.prog 41 #[.int .u32 (x : Int), .int .u64 17] w fun e w' => e = .returned (.int .u32 (Sha.rotr x 17 : Nat)) ∧ w = w' := by
  go_enter Tryd.func41, Tryd.ntmps41
  go_wp2_with fail
  go_ret
  refine ⟨?_, rfl⟩
  have hx := HX.out
  rw [show (x : Int) * 32768 % 4294967296 = ((x * 32768 % 4294967296 : Nat) : Int) by omega, show (x : Int) / 131072 = ((x / 131072 : Nat) : Int) by omega, u32_or_nat _ _ (by omega) (Nat.mod_lt _ (by decide))]
  rfl
theorem turn_18 (x : Nat) (w : World) (HX : Hid (x < 4294967296)) : Calls Tryd.prog 41 #[.int .u32 (x : Int), .int .u64 18] w fun e w' => e = .returned (.int .u32 (Sha.rotr x 18 : Nat)) ∧ w = w' := by
  go_enter Tryd.func41, Tryd.ntmps41
  go_wp2_with fail
  go_ret
  refine ⟨?_, rfl⟩
  have hx := HX.out
  rw [show (x : Int) * 16384 % 4294967296 = ((x * 16384 % 4294967296 : Nat) : Int) by omega, show (x : Int) / 262144 = ((x / 262144 : Nat) : Int) by omega, u32_or_nat _ _ (by omega) (Nat.mod_lt _ (by decide))]
  rfl
theorem turn_19 (x : Nat) (w : World) (HX : Hid (x < 4294967296)) : Calls Tryd.prog 41 #[.int .u32 (x : Int), .int .u64 19] w fun e w' => e = .returned (.int .u32 (Sha.rotr x 19 : Nat)) ∧ w = w' := by
  go_enter Tryd.func41, Tryd.ntmps41
  go_wp2_with fail
  go_ret
  refine ⟨?_, rfl⟩
  have hx := HX.out
  rw [show (x : Int) * 8192 % 4294967296 = ((x * 8192 % 4294967296 : Nat) : Int) by omega, show (x : Int) / 524288 = ((x / 524288 : Nat) : Int) by omega, u32_or_nat _ _ (by omega) (Nat.mod_lt _ (by decide))]
  rfl
theorem turn_22 (x : Nat) (w : World) (HX : Hid (x < 4294967296)) : Calls Tryd.prog 41 #[.int .u32 (x : Int), .int .u64 22] w fun e w' => e = .returned (.int .u32 (Sha.rotr x 22 : Nat)) ∧ w = w' := by
  go_enter Tryd.func41, Tryd.ntmps41
  go_wp2_with fail
  go_ret
  refine ⟨?_, rfl⟩
  have hx := HX.out
  rw [show (x : Int) * 1024 % 4294967296 = ((x * 1024 % 4294967296 : Nat) : Int) by omega, show (x : Int) / 4194304 = ((x / 4194304 : Nat) : Int) by omega, u32_or_nat _ _ (by omega) (Nat.mod_lt _ (by decide))]
  rfl
theorem turn_25 (x : Nat) (w : World) (HX : Hid (x < 4294967296)) : Calls Tryd.prog 41 #[.int .u32 (x : Int), .int .u64 25] w fun e w' => e = .returned (.int .u32 (Sha.rotr x 25 : Nat)) ∧ w = w' := by
  go_enter Tryd.func41, Tryd.ntmps41
  go_wp2_with fail
  go_ret
  refine ⟨?_, rfl⟩
  have hx := HX.out
  rw [show (x : Int) * 128 % 4294967296 = ((x * 128 % 4294967296 : Nat) : Int) by omega, show (x : Int) / 33554432 = ((x / 33554432 : Nat) : Int) by omega, u32_or_nat _ _ (by omega) (Nat.mod_lt _ (by decide))]
  rfl
def TabOk (w : World) (e : Ending) (w' : World) : Prop := ∃ cs : Array Value, e = .returned (.agg cs) ∧ Hid (cs.size = 64) ∧ Hid (∀ i, i < 64 → cs[i]? = some (.int .u32 (Sha.ks.getD i 0 : Int))) ∧ Hid (Below w.heap.size w w')
theorem wpList_build2 {P : Program} {ops : Array Oper} {rest : List Oper} {o : Oper} {a : Act} {w : World} {Q : Exit → Act → World → Prop} (hg : o.guard = none) (t : TypeId) (parts : Array (Nat × Operand)) (ho : o.op = .build t parts) (cells : Array Value)
    (hf : P.built t (parts.map fun (i, x) => (i, a.eval x)).toList = some cells)
    (h : wpList P ops Q rest (a.put o.dst (.agg cells)) w) : wpList P ops Q (o :: rest) a w :=
  wpList_build hg t parts ho (by rw [hf]; rfl) (by rw [hf]; exact h)
def ksA : Array Value := (Sha.ks.map fun k : Nat => Value.int .u32 (k : Int)).toArray
theorem ksA_size : ksA.size = 64 := by kernel_rfl
theorem ksA_at (i : Nat) (hi : i < 64) : ksA[i]? = some (.int .u32 (Sha.ks.getD i 0 : Int)) := by
  unfold ksA
  rw [List.getElem?_toArray, List.getElem?_map, List.getD_eq_getElem?_getD, List.getElem?_eq_getElem (show i < Sha.ks.length from hi)]; rfl
set_option maxRecDepth 100000 in
theorem table_any (w : World) : Calls Tryd.prog 40 #[] w (TabOk w) := by
  obtain ⟨Z, hZ⟩ : ∃ Z, blkZ = Z := ⟨_, rfl⟩
  have hz : ∀ w' : World, (zeroValue 61).run Tryd.prog w' = .ok (.agg Z) w' := fun w' => by rw [← hZ]; exact blkZ_zero w'
  have HZ := Lib.hid hZ
  clear hZ
  obtain ⟨cs, hcs⟩ : ∃ cs, ksA = cs := ⟨_, rfl⟩
  have HCS : Hid (cs.size = 64) := by rw [← hcs]; exact Lib.hid ksA_size
  have HCC : Hid (∀ i, i < 64 → cs[i]? = some (.int .u32 (Sha.ks.getD i 0 : Int))) := by rw [← hcs]; exact Lib.hid ksA_at
  have HE := Lib.hid hcs
  have B1 := Lib.hid (heap_alloc_new w (.cells Z 61))
  clear hcs
  go_enter Tryd.func40, Tryd.ntmps40
  go_wp2_with (first
    | (refine wpList_build2 rfl 61 _ rfl cs (by rw [← HE.out]; kernel_rfl) ?_)
    | (refine wpList_store_row rfl _ (.tmp 0) (.tmp 1) rfl w.heap.size cs rfl rfl _ _ B1.out (by rw [HCS.out]; kernel_rfl) (by rw [HCS.out, blkZ_size HZ.out]) (all_one HCS.out HCC.out) ?_; rw [World.setRow_alloc_new]))
  refine bodyPost_ret (results_cell_row rfl _ _ w.heap.size _ cs (0, 0) _ rfl (heap_alloc_new w (.cells cs 61)) Tryd.underlying61 rfl (by rw [HCS.out]; kernel_rfl)) rfl ?_
  exact ⟨cs, rfl, HCS, HCC, Lib.hid ((Below.refl _ _).alloc (Nat.le_refl _) _)⟩
def f4 (l : List UInt8) : Nat := l.foldl (fun a x => a * 256 + x.toNat) 0
theorem f4_next (l : List UInt8) (k : Nat) (h : k < l.length) : f4 (l.take (k + 1)) = f4 (l.take k) * 256 + (l.getD k 0).toNat := by
  unfold f4
  rw [List.take_succ_eq_append_getElem h, List.foldl_append]
  simp [List.getD, h]
set_option maxRecDepth 100000 in
set_option maxHeartbeats 800000 in
theorem number_any (B c : Nat) (A : Option Addr) (l : List UInt8) (w : World) (hr : Row w B A 4 (bv l)) : Calls Tryd.prog 32 #[.slice A 4 c] w fun e w' => e = .returned (.int .u32 (f4 l : Nat)) ∧ w = w' := by
  have HR := Lib.hid hr
  have HL := Lib.hid hr.blen
  clear hr
  go_enter Tryd.func32, Tryd.ntmps32
  go_wp2_with fail
  go_loop [3, 8] (fun v i => ∃ k : Nat, k ≤ 4 ∧ i = .int .i64 k ∧ v = .int .u32 (f4 (l.take k) : Nat)) (fun _ i => 4 - (intOf i).toNat)
  case atStart => exact ⟨0, by omega, rfl, rfl⟩
  case round =>
    obtain ⟨k, hk, rfl, rfl⟩ := hrel
    by_cases hlt : k < 4
    · obtain ⟨b, o, rfl, _, hl, hcell⟩ := HR.out.byteAt hlt
      have e3 : l[k] = l.getD k 0 := by rw [List.getD_eq_getElem?_getD, List.getElem?_eq_getElem hl]; rfl
      rw [e3] at hcell
      have hnx := f4_next l k hl
      have hb : f4 (l.take k) < 16777216 := by
        have h1 := fold4_lt (l.take k) 3 (by rw [List.length_take]; omega)
        exact h1
      have HO := Lib.hid (acc_or (f4 (l.take k)) (l.getD k 0) hb)
      have hxb : ((l.getD k 0).toNat : Int) ≤ 255 := by have := (l.getD k 0).toNat_lt; omega
      have HN := Lib.hid hnx
      clear hnx e3 hl
      generalize f4 (l.take k) = a at *
      generalize l.getD k 0 = x at *
      go_wp2_with fail
      go_round
      case rel => exact ⟨k + 1, by omega, by go_num, by rw [HO.out, HN.out]⟩
      case measure => simp [intOf]; omega
    · obtain rfl : 4 = k := by omega
      rw [List.take_of_length_le (by rw [HL.out]; omega)]
      go_wp2_with fail
      go_ret
      exact ⟨rfl, rfl⟩
theorem f4_word (X : List UInt8) (c k : Nat) (hk : k < 16) (hX : 64 * c + 64 ≤ X.length) : f4 ((X.drop (64 * c + 4 * k)).take 4) = schW (Sha.chunk X c) k := by
  rw [schW_word _ k hk, ← accW_word (Sha.chunk X c) k (Sha.chunk_length X c hX) hk]
  unfold f4 accW Sha.chunk
  rw [show min 4 (64 - 4 * k) = 4 by omega, List.drop_take, List.take_take, List.drop_drop, show min 4 (64 - 4 * k) = 4 by omega]
end Go.Proofs.YtcgcmfhidolohaaDoor.Sh
