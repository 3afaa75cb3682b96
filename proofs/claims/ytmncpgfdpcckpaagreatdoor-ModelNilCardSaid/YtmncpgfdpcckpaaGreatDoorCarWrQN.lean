/- law 24's Wrapped: by contract. -/
import Derived.Lib.SlBytesConst
import Derived.Test.YtmncpgfdpcckpaaGreatDoorCarFiQN
import Derived.Test.YtmncpgfdpcckpaaGreatDoorZZGQN
import Derived.Test.YtmncpgfdpcckpaaGreatDoorZMJQN
set_option maxRecDepth 100000
namespace Go.Proofs.YtmncpgfdpcckpaaGreatDoor.Car
open Go.RowKit
open VecM RdM Vc Sp Pc El Cd Dc
open FrM (frame)
theorem keyRow (w : World) : Row (w.alloc (.cells #[.int .u8 107, .int .u8 101, .int .u8 121] 5 (3, 4))) (w.alloc (.cells #[.int .u8 107, .int .u8 101, .int .u8 121] 5 (3, 4))).heap.size (some ⟨w.heap.size, 0, none⟩) 3 (bv [107, 101, 121]) :=
 (row_new w #[.int .u8 107, .int .u8 101, .int .u8 121] 5 (3, 4)).more (by simp)
theorem key24_any (w : World) : Calls Tryz.prog 53 #[] w fun e w' => ∃ A c, e = .returned (.slice A 3 c) ∧ Row w' w'.heap.size A 3 (bv [107, 101, 121]) ∧ Below w.heap.size w w' := by
 have kc := fun (w : World) (C : Array Value) (n c : Nat) => Lib.run_convert_bytes_const (P := Tryz.prog) w 22 5 C n c Tryz.underlying22 Tryz.underlying5
 go_enter Tryz.func53, Tryz.ntmps53
 go_wp2_with fail
 go_ret
 exact ⟨_, 3, rfl, keyRow w, (Below.refl _ _).alloc (Nat.le_refl _) _⟩
theorem results_tc {P : Program} {fn : Func} {p u : Tmp} {ty : TypeId} (h : fn.results = #[.tmp u, .cell p ty]) (tmps : Array Value) (w : World) (g : Nat) (t : TypeId) (cs : Array Value) (fr : Nat × Nat) (d : TypeDesc)
  (hp : tmps.getD p undef = .pointer (some ⟨g, 0, none⟩)) (hg : w.heap[g]? = some (.cells cs t fr))
  (hu : P.underlying ty = some d) (hd : (match d with | .struct _ | .array _ _ => true | _ => false) = true) (hi : (P.info? ty).map (·.size) = some cs.size) :
  (results fn tmps).run P w = .ok (.tuple #[tmps.getD u undef, .agg cs]) w := by
 have h1 : (results fn tmps).run P w = ((asAddr (tmps.getD p undef)).run P w).andThen fun a w₁ => ((loadVar ty a).run P w₁).andThen fun v w2 => .ok (.tuple #[tmps.getD u undef, v]) w2 := by
  simp only [results, h]
  simp [Sem.run_bind, Result.andThen]
 rw [h1, hp]
 simp [asAddr, Result.andThen, run_loadVar_row w g t ty cs fr d hg hu hd hi]
def WrdOk2 (key : List UInt8) (s v n zz p : Nat) (img : List UInt8) (w : World) (e : Ending) (w' : World) : Prop :=
 ∃ A m c A1 c1, e = .returned (.tuple #[.slice A m c, .agg #[.int .u32 (s : Int), .int .u32 (v : Int), .int .i64 (n : Int), .int .i64 (zz : Int), .int .i64 (p : Int), .slice A1 32 c1]]) ∧ Hid (m = (firstL key s v n zz p img).length) ∧ Hid (RowP w' (fun b => w.heap.size ≤ b) A m (bv (firstL key s v n zz p img))) ∧ Hid (Below w.heap.size w w') ∧ Hid (m ≤ c ∧ c ≤ 9223372036854775807)
theorem set6h {w : World} {g : Nat} {t : TypeId} {z0 z1 z2 z3 z4 z5 : Value} (h : w.heap[g]? = some (.cells #[z0, z1, z2, z3, z4, z5] t (0, 0))) (v0 v1 v2 v3 v4 v5 : Value) :
  ((((((w.setCell ⟨g, 0, none⟩ v0).setCell ⟨g, 1, none⟩ v1).setCell ⟨g, 2, none⟩ v2).setCell ⟨g, 3, none⟩ v3).setCell ⟨g, 4, none⟩ v4).setCell ⟨g, 5, none⟩ v5).heap[g]? = some (.cells #[v0, v1, v2, v3, v4, v5] t (0, 0)) := by
 have h0 : (w.setCell ⟨g, 0, none⟩ v0).heap[g]? = some (.cells #[v0, z1, z2, z3, z4, z5] t (0, 0)) := heap_setCell_same _ g 0 _ t v0 h
 have h1 : ((w.setCell ⟨g, 0, none⟩ v0).setCell ⟨g, 1, none⟩ v1).heap[g]? = some (.cells #[v0, v1, z2, z3, z4, z5] t (0, 0)) := heap_setCell_same _ g 1 _ t v1 h0
 have h2 : (((w.setCell ⟨g, 0, none⟩ v0).setCell ⟨g, 1, none⟩ v1).setCell ⟨g, 2, none⟩ v2).heap[g]? = some (.cells #[v0, v1, v2, z3, z4, z5] t (0, 0)) := heap_setCell_same _ g 2 _ t v2 h1
 have h3 : ((((w.setCell ⟨g, 0, none⟩ v0).setCell ⟨g, 1, none⟩ v1).setCell ⟨g, 2, none⟩ v2).setCell ⟨g, 3, none⟩ v3).heap[g]? = some (.cells #[v0, v1, v2, v3, z4, z5] t (0, 0)) := heap_setCell_same _ g 3 _ t v3 h2
 have h4 : (((((w.setCell ⟨g, 0, none⟩ v0).setCell ⟨g, 1, none⟩ v1).setCell ⟨g, 2, none⟩ v2).setCell ⟨g, 3, none⟩ v3).setCell ⟨g, 4, none⟩ v4).heap[g]? = some (.cells #[v0, v1, v2, v3, v4, z5] t (0, 0)) := heap_setCell_same _ g 4 _ t v4 h3
 exact heap_setCell_same _ g 5 _ t v5 h4
theorem set6_rest {w : World} {g b : Nat} (v0 v1 v2 v3 v4 v5 : Value) (h : b ≠ g) :
  ((((((w.setCell ⟨g, 0, none⟩ v0).setCell ⟨g, 1, none⟩ v1).setCell ⟨g, 2, none⟩ v2).setCell ⟨g, 3, none⟩ v3).setCell ⟨g, 4, none⟩ v4).setCell ⟨g, 5, none⟩ v5).heap[b]? = w.heap[b]? := by
 rw [heap_setCell_other _ _ _ _ h, heap_setCell_other _ _ _ _ h, heap_setCell_other _ _ _ _ h, heap_setCell_other _ _ _ _ h, heap_setCell_other _ _ _ _ h, heap_setCell_other _ _ _ _ h]
theorem set6_size {w : World} {g : Nat} (v0 v1 v2 v3 v4 v5 : Value) :
  ((((((w.setCell ⟨g, 0, none⟩ v0).setCell ⟨g, 1, none⟩ v1).setCell ⟨g, 2, none⟩ v2).setCell ⟨g, 3, none⟩ v3).setCell ⟨g, 4, none⟩ v4).setCell ⟨g, 5, none⟩ v5).heap.size = w.heap.size := by simp
theorem wrd_keep {w6 W' : World} {g n : Nat} {A : Option Addr} {xs : List Value} (h : RowP w6 (fun b => b ≠ g ∧ g ≤ b) A n xs) (hz : W'.heap.size = w6.heap.size) (hr : ∀ b, b ≠ g → W'.heap[b]? = w6.heap[b]?) : RowP W'.drew (fun b => g ≤ b) A n xs :=
 (h.keep (w' := W'.drew) (show w6.heap.size ≤ W'.heap.size by omega) fun b hb _ => hr b hb.1).imp fun _ _ hb => hb.2
theorem wrd_end {w w6 : World} {A : Option Addr} {n : Nat} {xs : List Value} (h : RowP w6 (fun b => b ≠ w.heap.size ∧ w.heap.size ≤ b) A n xs) (hb : Below w.heap.size w w6) (v0 v1 v2 v3 v4 v5 : Value) :
  RowP ((((((w6.setCell ⟨w.heap.size, 0, none⟩ v0).setCell ⟨w.heap.size, 1, none⟩ v1).setCell ⟨w.heap.size, 2, none⟩ v2).setCell ⟨w.heap.size, 3, none⟩ v3).setCell ⟨w.heap.size, 4, none⟩ v4).setCell ⟨w.heap.size, 5, none⟩ v5).drew (fun b => w.heap.size ≤ b) A n xs ∧
  Below w.heap.size w ((((((w6.setCell ⟨w.heap.size, 0, none⟩ v0).setCell ⟨w.heap.size, 1, none⟩ v1).setCell ⟨w.heap.size, 2, none⟩ v2).setCell ⟨w.heap.size, 3, none⟩ v3).setCell ⟨w.heap.size, 4, none⟩ v4).setCell ⟨w.heap.size, 5, none⟩ v5).drew := by
 exact ⟨wrd_keep h (set6_size v0 v1 v2 v3 v4 v5) (fun b hb => set6_rest v0 v1 v2 v3 v4 v5 hb), ((((((hb.setCell (Nat.le_refl _) v0).setCell (Nat.le_refl _) v1).setCell (Nat.le_refl _) v2).setCell (Nat.le_refl _) v3).setCell (Nat.le_refl _) v4).setCell (Nat.le_refl _) v5).drew⟩
set_option maxHeartbeats 3200000 in
theorem wrapped_all (s v n ci zz p : Nat) (Ai : Option Addr) (img : List UInt8) (w : World) (hi : Row w w.heap.size Ai n (bv img)) (hn : n ≤ 1000) (hs : s < 4294967296) (hv : v < 4294967296) (hm : manB (n : Int) (zz : Int) (p : Int) 32 = true) :
  Calls Tryz.prog 30 #[.int .u32 (s : Int), .int .u32 (v : Int), .slice Ai n ci, .int .i64 (zz : Int), .int .i64 (p : Int)] w (WrdOk2 [107, 101, 121] s v n zz p img w) := by
 have HX0 := Lib.hid (heap_alloc_new w (.cells #[.int .u32 0, .int .u32 0, .int .i64 0, .int .i64 0, .int .i64 0, .slice none 0 0] 37))
 have HB00 : Hid (Below w.heap.size w (w.alloc (.cells #[.int .u32 0, .int .u32 0, .int .i64 0, .int .i64 0, .int .i64 0, .slice none 0 0] 37))) := Lib.hid ((Below.refl _ _).alloc (Nat.le_refl _) _)
 have HL0 : Hid (w.heap.size < (w.alloc (.cells #[.int .u32 0, .int .u32 0, .int .i64 0, .int .i64 0, .int .i64 0, .slice none 0 0] 37)).heap.size) := Lib.hid (by simp)
 have HI := Lib.hid hi
 have HN := Lib.hid hn
 have HM := Lib.hid hm
 have HSV : Hid (s < 4294967296 ∧ v < 4294967296) := Lib.hid ⟨hs, hv⟩
 clear hi hm hs hv hn
 go_enter Tryz.func30, Tryz.ntmps30
 go_upto_region 1 with fail
 generalize hw0 : (w.alloc (.cells #[.int .u32 0, .int .u32 0, .int .i64 0, .int .i64 0, .int .i64 0, .slice none 0 0] 37)) = w0 at *
 clear hw0
 have HDG := Lib.hid (Sh.rdig_any w0.heap.size n ci Ai img w0 ((HI.out.below HB00.out).more HB00.out.size) (Nat.le_refl _) (by have := HN.out; omega))
 go_wp2_with fail
 refine HDG.out.mono ?_
 rintro e w1 ⟨A1, c1, rfl, ho1, hb1⟩
 have HB01 := Lib.hid hb1.out
 have HB1 := Lib.hid (HB00.out.trans (hb1.out.mono HB00.out.size))
 have HR1 := Lib.hid (rowP_own ho1.out)
 clear HDG ho1 hb1
 have HX2 := Lib.hid (heap_alloc_new w1 (.cells #[.int .u32 (s : Int), .int .u32 (v : Int), .int .i64 (n : Int), .int .i64 (zz : Int), .int .i64 (p : Int), .slice A1 32 c1] 37))
 have HB12 : Hid (Below w1.heap.size w1 (w1.alloc (.cells #[.int .u32 (s : Int), .int .u32 (v : Int), .int .i64 (n : Int), .int .i64 (zz : Int), .int .i64 (p : Int), .slice A1 32 c1] 37))) := Lib.hid ((Below.refl _ _).alloc (Nat.le_refl _) _)
 have HL3 : Hid (w1.heap.size < (w1.alloc (.cells #[.int .u32 (s : Int), .int .u32 (v : Int), .int .i64 (n : Int), .int .i64 (zz : Int), .int .i64 (p : Int), .slice A1 32 c1] 37)).heap.size) := Lib.hid (by simp)
 go_upto_region 2 with fail
 generalize hw3 : (w1.alloc (.cells #[.int .u32 (s : Int), .int .u32 (v : Int), .int .i64 (n : Int), .int .i64 (zz : Int), .int .i64 (p : Int), .slice A1 32 c1] 37)) = w3 at *
 clear hw3
 have HX3 := HX2
 have HB3 : Hid (Below w.heap.size w w3) := Lib.hid (HB1.out.trans (HB12.out.mono HB1.out.size))
 have HZ3 : Hid (w3.heap[w.heap.size]? = some (.cells #[.int .u32 0, .int .u32 0, .int .i64 0, .int .i64 0, .int .i64 0, .slice none 0 0] 37 (0, 0))) := Lib.hid ((HB12.out.block w.heap.size (by have := HL0.out; have := HB01.out.size; omega)).trans ((HB01.out.block w.heap.size HL0.out).trans HX0.out))
 have hmay : (⟨s, v, n, zz, p, Sha.D img⟩ : LMan).may = true := by
  show manB (n : Int) (zz : Int) (p : Int) (Sha.D img).length = true
  rw [Sha.D_length]; exact HM.out
 have HMB : Hid (∀ (A : Option Addr) (c : Nat) (W : World), Below w3.heap.size w3 W → Row W W.heap.size A 3 (bv [107, 101, 121]) → Calls Tryz.prog 52 #[.slice A 3 c, .agg #[.int .u32 (s : Int), .int .u32 (v : Int), .int .i64 (n : Int), .int .i64 (zz : Int), .int .i64 (p : Int), .slice A1 32 c1]] W (RPlainOk ((⟨s, v, n, zz, p, Sha.D img⟩ : LMan).bytes ++ Sh.tagOf [107, 101, 121] (⟨s, v, n, zz, p, Sha.D img⟩ : LMan).bytes) W)) := Lib.hid (fun A c W hW hk =>
  rbytes_yes A 3 c [107, 101, 121] hk (by omega) (isMan_of (((HR1.out.below HB12.out).below hW).imp fun _ _ _ => trivial)) hmay HSV.out)
 have HFX : Hid (∀ W, Below w3.heap.size w3 W → W.cell? ⟨w1.heap.size, 0, none⟩ = some (.int .u32 (s : Int)) ∧ W.cell? ⟨w1.heap.size, 1, none⟩ = some (.int .u32 (v : Int)) ∧ W.cell? ⟨w1.heap.size, 2, none⟩ = some (.int .i64 (n : Int)) ∧ W.cell? ⟨w1.heap.size, 3, none⟩ = some (.int .i64 (zz : Int)) ∧ W.cell? ⟨w1.heap.size, 4, none⟩ = some (.int .i64 (p : Int)) ∧ W.cell? ⟨w1.heap.size, 5, none⟩ = some (.slice A1 32 c1)) := Lib.hid (fun W hW => bx6 ((hW.block w1.heap.size HL3.out).trans HX3.out))
 have HLEN : Hid (((⟨s, v, n, zz, p, Sha.D img⟩ : LMan).bytes ++ Sh.tagOf [107, 101, 121] (⟨s, v, n, zz, p, Sha.D img⟩ : LMan).bytes).length = 76) := Lib.hid (by
  rw [List.length_append, bytes_len, Sh.tagOf_length, may_32 hmay])
 have HFL : Hid (firstL [107, 101, 121] s v n zz p img = frame 1 ((⟨s, v, n, zz, p, Sha.D img⟩ : LMan).bytes ++ Sh.tagOf [107, 101, 121] (⟨s, v, n, zz, p, Sha.D img⟩ : LMan).bytes)) := Lib.hid rfl
 obtain ⟨ML, hML⟩ : ∃ l, (⟨s, v, n, zz, p, Sha.D img⟩ : LMan).bytes ++ Sh.tagOf [107, 101, 121] (⟨s, v, n, zz, p, Sha.D img⟩ : LMan).bytes = l := ⟨_, rfl⟩
 rw [hML] at HMB HLEN HFL
 clear hML hmay HX0 HX2 HB00 HB12
 refine wp_region_noPanic ?_
 refine wp_region_held_drew (S := (fun W => Below w3.heap.size w3 W)) (by kernel_rfl) ((Below.refl w3.heap.size w3).drew) (fun hH0 => ?_)
 have hH0 : Below w3.heap.size w3 w3.drew := hH0
 generalize w3.drew = wd7000 at *
 refine wpAnyH_take (i := 1) (oi := _) (v := ?tkv7001) rfl (by kernel_rfl) (by kernel_rfl) (by kernel_rfl) (fun _ _ _ h => h) (Or.inl ⟨by rfl, ?tky7001⟩) hH0 ?tkr7001
 case tky7001 => (intro w' hSw; have z0 := HFX.out _ hSw; clear hSw; go_simp; try with_reducible rfl)
 try simp only [Act.put, zqa, zqb, zqc]
 refine wpAnyH_ready (rs := [0]) (by kernel_rfl) (by simp) ?_
 refine AllReadyH.cons (o := _) rfl (fun K hK => ?_) AllReadyH.nil
 go_simp
 refine (key24_any wd7000).mono ?_
 rintro e' wn7002 ⟨A7002, c7002, rfl, ho7002, hb7002⟩
 have HO7002 := Lib.hid ho7002
 clear ho7002
 go_simp
 have hS7002 : Below w3.heap.size w3 wn7002 := (hH0).trans (hb7002.mono (hH0).size)
 refine hK.out _ _ hS7002 (fun hH7002 => ?_)
 have hH7002 : Below w3.heap.size w3 wn7002 := hH7002
 clear hK K hS7002
 try simp only [Act.put, zqa, zqb, zqc]
 refine wpAnyH_ready (rs := [2]) (by kernel_rfl) (by simp) ?_
 refine AllReadyH.cons (o := _) rfl (fun K hK => ?_) AllReadyH.nil
 go_simp
 refine (HMB.out A7002 c7002 wn7002 (hH7002) HO7002.out).mono ?_
 rintro e' wn7003 ⟨A7003, n7003, c7003, rfl, hn7003, ho7003, hbb7003⟩
 have hb7003 := hbb7003.out
 have HO7003 := Lib.hid ho7003.out
 clear ho7003 hbb7003
 go_simp
 have hS7003 : Below w3.heap.size w3 wn7003 := (hH7002).trans (hb7003.mono (hH7002).size)
 refine hK.out _ _ hS7003 (fun hH7003 => ?_)
 have hH7003 : Below w3.heap.size w3 wn7003 := hH7003
 clear hK K hS7003
 try simp only [Act.put, zqa, zqb, zqc]
 refine wpAnyH_take (i := 3) (oi := _) (v := ?tkv7004) rfl (by kernel_rfl) (by kernel_rfl) (by kernel_rfl) (fun _ _ _ h => h) (Or.inl ⟨by rfl, ?tky7004⟩) hH7003 ?tkr7004
 case tky7004 => (intro w' hSw; clear hSw; go_simp; try with_reducible rfl)
 try simp only [Act.put, zqa, zqb, zqc]
 refine wpAnyH_take (i := 4) (oi := _) (v := ?tkv7005) rfl (by kernel_rfl) (by kernel_rfl) (by kernel_rfl) (fun _ _ _ h => h) (Or.inl ⟨by rfl, ?tky7005⟩) hH7003 ?tkr7005
 case tky7005 => (intro w' hSw; clear hSw; go_simp; try with_reducible rfl)
 try simp only [Act.put, zqa, zqb, zqc]
 refine wpAnyH_take (i := 5) (oi := _) (v := ?tkv7006) rfl (by kernel_rfl) (by kernel_rfl) (by kernel_rfl) (fun _ _ _ h => h) (Or.inl ⟨by rfl, ?tky7006⟩) hH7003 ?tkr7006
 case tky7006 => (intro w' hSw; clear hSw; go_simp; try with_reducible rfl)
 try simp only [Act.put, zqa, zqb, zqc]
 refine wpAnyH_take (i := 6) (oi := _) (v := ?tkv7007) rfl (by kernel_rfl) (by kernel_rfl) (by kernel_rfl) (fun _ _ _ h => h) (Or.inl ⟨by rfl, ?tky7007⟩) hH7003 ?tkr7007
 case tky7007 => (intro w' hSw; clear hSw; go_simp; try with_reducible rfl)
 try simp only [Act.put, zqa, zqb, zqc]
 refine wpAnyH_take (i := 7) (oi := _) (v := ?tkv7008) rfl (by kernel_rfl) (by kernel_rfl) (by kernel_rfl) (fun _ _ _ h => h) (Or.inl ⟨by rfl, ?tky7008⟩) hH7003 ?tkr7008
 case tky7008 => (intro w' hSw; clear hSw; go_simp; try with_reducible rfl)
 try simp only [Act.put, zqa, zqb, zqc]
 refine wpAnyH_done (by kernel_rfl) ?_ _
 refine NoPanic.normal ?_
 have HB5 : Hid (Below w3.heap.size w3 wn7003) := Lib.hid hH7003
 have HR5 := Lib.hid (Row.of_own HO7003.out)
 have hn5 : n7003 = 76 := hn7003.out.trans HLEN.out
 subst hn5
 have HWR := Lib.hid (r7wrap_ok 1 wn7003.heap.size 76 c7003 A7003 ML wn7003 HR5.out (by omega) (Nat.le_refl _))
 go_wp2_with fail
 refine HWR.out.mono ?_
 rintro e w6 ⟨A6, n6, c6, rfl, hn6, ho6, hb6⟩
 have HB36 := Lib.hid (HB5.out.trans (hb6.mono HB5.out.size))
 have HO6 : Hid (RowP w6 (fun b => b ≠ w.heap.size ∧ w.heap.size ≤ b) A6 n6 (bv (frame 1 ML))) := Lib.hid ((rowP_own ho6).imp fun b _ hb => by have := HB5.out.size; have := HB3.out.size; have := HL3.out; have := HL0.out; have := HB01.out.size; omega)
 have HN6 := Lib.hid hn6.out
 have HC6 : Hid (n6 ≤ c6 ∧ c6 ≤ 9223372036854775807) := Lib.hid (own_cap ho6)
 clear HWR hb6 ho6 hn6 HB5 HR5
 have HX6 : Hid (w6.heap[w1.heap.size]? = some (.cells #[.int .u32 (s : Int), .int .u32 (v : Int), .int .i64 (n : Int), .int .i64 (zz : Int), .int .i64 (p : Int), .slice A1 32 c1] 37 (0, 0))) := Lib.hid ((HB36.out.block w1.heap.size HL3.out).trans HX3.out)
 obtain ⟨c0, c1', c2, d3, d4, d5⟩ := bx6 HX6.out
 have HZ6 : Hid (w6.heap[w.heap.size]? = some (.cells #[.int .u32 0, .int .u32 0, .int .i64 0, .int .i64 0, .int .i64 0, .slice none 0 0] 37 (0, 0))) := Lib.hid ((HB36.out.block w.heap.size (by have := HL3.out; have := HL0.out; have := HB01.out.size; omega)).trans HZ3.out)
 obtain ⟨y0, y1, y2, y3, y4, y5⟩ := bx6 HZ6.out
 have f0 := frozen_of_row w6 w.heap.size 0 _ _ HZ6.out
 have f1 := frozen_of_row w6 w.heap.size 1 _ _ HZ6.out
 have f2 := frozen_of_row w6 w.heap.size 2 _ _ HZ6.out
 have f3 := frozen_of_row w6 w.heap.size 3 _ _ HZ6.out
 have f4 := frozen_of_row w6 w.heap.size 4 _ _ HZ6.out
 have f5 := frozen_of_row w6 w.heap.size 5 _ _ HZ6.out
 go_upto_region 4 with fail
 go_region
 have hrow := set6h HZ6.out (.int .u32 (s : Int)) (.int .u32 (v : Int)) (.int .i64 (n : Int)) (.int .i64 (zz : Int)) (.int .i64 (p : Int)) (.slice A1 32 c1)
 have HB6 : Hid (Below w.heap.size w w6) := Lib.hid (HB3.out.trans (HB36.out.mono HB3.out.size))
 have HRW := Lib.hid hrow
 have HE6 := Lib.hid (wrd_end HO6.out HB6.out (.int .u32 (s : Int)) (.int .u32 (v : Int)) (.int .i64 (n : Int)) (.int .i64 (zz : Int)) (.int .i64 (p : Int)) (.slice A1 32 c1))
 clear hrow
 go_wp2_with fail
 refine bodyPost_ret (results_tc rfl _ _ w.heap.size _ _ (0, 0) _ rfl HRW.out Tryz.underlying37 rfl (by kernel_rfl)) rfl ?_
 exact ⟨A6, n6, c6, A1, c1, rfl, Lib.hid (by rw [HFL.out]; exact HN6.out), Lib.hid (by rw [HFL.out]; exact HE6.out.1), Lib.hid HE6.out.2, HC6⟩
end Go.Proofs.YtmncpgfdpcckpaaGreatDoor.Car
