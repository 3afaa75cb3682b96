/- precode.Pieces: by contract. -/
import Derived.Test.YtibleaaghhhjkaaDoorPcFit
import Derived.Test.YtibleaaghhhjkaaDoorGrow
namespace Go.Proofs.YtibleaaghhhjkaaDoor.Pc
open Go.RowKit
open VecM RdM Vc Sp
theorem Pc2.below {W W' : World} {base : Nat} {v : Value} {r : BRow} (h : Pc2 W base v r) (hb : Below W.heap.size W W') : Pc2 W' base v r := by
  obtain ⟨g, a, b, c⟩ := h
  exact ⟨g, a, b, own_below c hb⟩
theorem PW.mono {ls : List (List UInt8)} {base base' : Nat} {v : Value} {w : World} (h : PW ls base v w) (hb : base' ≤ base) : PW ls base' v w := by
  obtain ⟨es, h1, h2, h3⟩ := h
  refine ⟨es, h1, own_base h2 hb, fun r hr => ?_⟩
  obtain ⟨g, a, b, c⟩ := h3 r hr
  exact ⟨g, a, b, own_base c hb⟩
theorem PW.app {ls : List (List UInt8)} {base g0 n0 c0 k : Nat} {v v' : Value} {l : List UInt8} {wr W2 w5 : World} {es : List BRow} (hk : ls.length = k) (h1 : es.map (·.l) = ls) (h2 : wr.ownsRow base 65 1 v k (es.map BRow.val)) (h3 : ∀ r ∈ es, Pc2 wr base v r)
    (hb : Below wr.heap.size wr W2) (ho : W2.ownsRow wr.heap.size 5 1 (.slice (some ⟨g0, 0, none⟩) n0 c0) n0 (bv l)) (hbase : base ≤ wr.heap.size)
    (hown : w5.ownsRow base 65 1 v' (k + 1) (es.map BRow.val ++ [.slice (some ⟨g0, 0, none⟩) n0 c0])) (hg : W2.grownBy w5 v.ownBlock) (hv : v'.ownBlock = v.ownBlock ∨ v'.ownBlock = some W2.heap.size) : PW (ls ++ [l]) base v' w5 := by
  subst hk
  exact PW.next h1 (own_below h2 hb) (fun r hr => (h3 r hr).below hb) (fun e => by have a := (h2.lt g0 e).2; have b := (ho.lt g0 rfl).1; omega) (own_base ho hbase) hown hg hv
/-- the pieces, and behind them those of parity -/
def allP (s K Z : Nat) (ls : List (List UInt8)) (j : Nat) : List (List UInt8) := ls ++ (List.range j).map fun i => sumR (parJ s K i) Z ls K
theorem allP_next (s K Z : Nat) (ls : List (List UInt8)) (j : Nat) : allP s K Z ls (j + 1) = allP s K Z ls j ++ [sumR (parJ s K j) Z ls K] := by
  unfold allP
  rw [List.range_succ, List.map_append, List.append_assoc]; rfl
theorem allP_length (s K Z : Nat) (ls : List (List UInt8)) (j : Nat) : (allP s K Z ls j).length = ls.length + j := by simp [allP]
def PcsOk (ls : List (List UInt8)) (w : World) (e : Ending) (w' : World) : Prop := ∃ v, e = .returned v ∧ Hid (PW ls w.heap.size v w') ∧ Hid (Below w.heap.size w w')
theorem mkRows (m : Nat) (hm : m ≤ 1000000) : ∃ C : Array Value, C.size = m ∧ ∀ w : World, (Instr.makeSlice 39 (.int .i64 0) (.int .i64 (m : Int))).run Tryd.prog w = .ok (.slice (some ⟨w.heap.size, 0, none⟩) 0 m) (w.alloc (.cells C 65)) := by
  obtain ⟨i0, hi, hz0, hz1, hz2⟩ := info_parts Tryd.info65
  refine ⟨madeCells (Value.slice none 0 0).cells m, ?_, fun w => ?_⟩
  · show (madeCells #[Value.slice none 0 0] m).size = m
    have := congrArg List.length (toList_madeCells_one (Value.slice none 0 0) m)
    simpa using this
  · have h := run_make (P := Tryd.prog) w 39 65 i0 (.slice none 0 0) Tryd.underlying39 hi hz0 .i64 .i64 0 (m : Int) (by omega) (by omega) (by rw [hz2]; omega) (by omega)
    rw [hz1, Nat.mul_one] at h
    simpa using h
/-- the blocks of the rows of parity stay, apart from v -/
def Stay (gA : Nat) (wR : World) (v : Value) (wr : World) : Prop := wR.heap.size ≤ wr.heap.size ∧ ∀ b, gA ≤ b → b < wR.heap.size → wr.heap[b]? = wR.heap[b]? ∧ v.ownBlock ≠ some b
theorem Stay.step {gA : Nat} {wR wr W2 w5 : World} {v v' : Value} (h : Stay gA wR v wr) (hb : Below wr.heap.size wr W2) (hg : W2.grownBy w5 v.ownBlock) (hv : v'.ownBlock = v.ownBlock ∨ v'.ownBlock = some W2.heap.size) : Stay gA wR v' w5 := by
  have h1 := h.1
  have h2 := hb.size
  refine ⟨by have := hg.size; omega, fun b hb1 hb2 => ?_⟩
  obtain ⟨e1, e2⟩ := h.2 b hb1 hb2
  refine ⟨?_, fun e => ?_⟩
  · rw [hg.block b (by omega) (fun e => e2 e.symm), hb.block b (by omega)]; exact e1
  · rcases hv with q | q
    · exact e2 (q.symm.trans e)
    · rw [q] at e; injection e with e; omega
set_option maxRecDepth 100000 in
set_option maxHeartbeats 3200000 in
theorem pieces_yes (s K P Z c B : Nat) (A : Option Addr) (es : List BRow) (w : World) (hs : s < 4294967296) (hK : 1 ≤ K ∧ K ≤ 64) (hP : P ≤ 16) (hZ : 1 ≤ Z ∧ Z ≤ 16) (hl : Rows2 w B A K es) (hes : ∀ r ∈ es, r.n = Z) (hB : B ≤ w.heap.size) :
    Calls Tryd.prog 20 #[parV s K P Z, .slice A K c] w (PcsOk (allP s K Z (es.map (·.l)) P) w) := by
  obtain ⟨i0, hi, hz0, hz1, hz2⟩ := info_parts Tryd.info65
  have HX0 := Lib.hid (heap_alloc_new w (.cells #[.int .u32 (s : Int), .int .i64 (K : Int), .int .i64 (P : Int), .int .i64 (Z : Int)] 24))
  have HB0 : Hid (Below w.heap.size w (w.alloc (.cells #[.int .u32 (s : Int), .int .i64 (K : Int), .int .i64 (P : Int), .int .i64 (Z : Int)] 24))) := (Below.refl _ _).alloc (Nat.le_refl _) _
  have hz : (w.alloc (.cells #[.int .u32 (s : Int), .int .i64 (K : Int), .int .i64 (P : Int), .int .i64 (Z : Int)] 24)).heap.size = w.heap.size + 1 := by simp
  generalize hw0 : (w.alloc (.cells #[.int .u32 (s : Int), .int .i64 (K : Int), .int .i64 (P : Int), .int .i64 (Z : Int)] 24)) = w0 at *
  have HW0 := Lib.hid hw0
  have HZ0 := Lib.hid hz
  have hM := fun W => may_any s (K : Int) (P : Int) (Z : Int) W
  have hmay : mayB (K : Int) (P : Int) (Z : Int) = true := (mayB_iff _ _ _).2 (by omega)
  rw [hmay] at hM
  have hkeep := Lib.hid (spar_keep HX0.out)
  have HL := Lib.hid (fun W (hW : Below w0.heap.size w0 W) => (hl.below (HB0.out.mono hB)).below (hW.mono (by omega)))
  have hF := fun W (hW : Below w0.heap.size w0 W) => fit_any s K P Z K c B A es W (HL.out W hW) (by have := hW.size; omega) (by omega) (fun r hr => by rw [hes r hr]; omega)
  rw [fitB_yes.2 ⟨rfl, hes⟩] at hF
  obtain ⟨n, hn⟩ : ∃ n, K + P = n := ⟨_, rfl⟩
  have hPi := fun W => pieces_any s (K : Int) (P : Int) (Z : Int) W (by omega) (by omega)
  rw [hmay, if_pos rfl, show (K : Int) + (P : Int) = (n : Int) by omega] at hPi
  have hR := fun W => rows_any s K P Z W hs hK hP hZ
  unfold parV at hM hF hPi hR ⊢
  have HM := Lib.hid hM
  have HF := Lib.hid hF
  have HPI := Lib.hid hPi
  have HR := Lib.hid hR
  have HES := Lib.hid hes
  have HBB : Hid (B ≤ w0.heap.size) := Lib.hid (by omega)
  have HKB := Lib.hid hK
  have HPB := Lib.hid hP
  have HZB := Lib.hid hZ
  have HNN := Lib.hid hn
  obtain ⟨C, hC, hmk⟩ := mkRows n (by omega)
  have HC := Lib.hid hC
  have hk64 : (K : Int) ≤ 64 := by omega
  have hp16 : (P : Int) ≤ 16 := by omega
  have HLEN : Hid (es.length = K) := Lib.hid (by have := hl.1.1; simpa using this)
  clear hM hF hPi hR hs hK hP hZ hes hB hl hn hC hmay hz hw0
  go_enter Tryd.func20, Tryd.ntmps20
  go_upto_region 1 with fail
  rw [HW0.out]
  obtain ⟨_, c0, c1, c2, c3⟩ := hkeep.out w0 (Below.refl _ _)
  go_wp2_with fail
  refine (HM.out _).mono ?_
  rintro e w1 ⟨rfl, hb1⟩
  clear c0 c1 c2 c3
  obtain ⟨_, c0, c1, c2, c3⟩ := hkeep.out w1 hb1.out
  go_wp2_with fail
  refine (HF.out _ hb1.out).mono ?_
  rintro e w2 ⟨rfl, hb2⟩
  have HB2 := Lib.hid (hb1.out.trans (hb2.out.mono hb1.out.size))
  clear c0 c1 c2 c3 hb1 hb2 HF HM
  obtain ⟨_, c0, c1, c2, c3⟩ := hkeep.out w2 HB2.out
  go_wp2_with fail
  refine (HPI.out _).mono ?_
  rintro e w3 ⟨rfl, hb3⟩
  have HB3 := Lib.hid (HB2.out.trans (hb3.out.mono HB2.out.size))
  clear c0 c1 c2 c3 hb3 HB2 HPI
  go_wp2_with fail
  clear hmk
  obtain ⟨G, hG⟩ : ∃ G, w0.heap.size = G := ⟨_, rfl⟩
  have HG := Lib.hid hG
  have hG3 : G ≤ w3.heap.size := by have := HB3.out.size; omega
  have HOW : Hid (PW ((es.map (·.l)).take 0) G (.slice (some ⟨w3.heap.size, 0, none⟩) 0 n) (w3.alloc (.cells C 65))) := Lib.hid ⟨[], by simp, by
    simpa using World.ownsRow_made (e := 65) (size := 1) w3 C n hG3 (by have := HNN.out; unfold maxLen; omega) (by have := HC.out; omega), fun r hr => by cases hr⟩
  have HAL : Hid (Below G w0 (w3.alloc (.cells C 65))) := Lib.hid ((show Below G w0 w3 by rw [← HG.out]; exact HB3.out).alloc hG3 _)
  generalize (w3.alloc (.cells C 65)) = w4 at *
  generalize w3.heap.size = G3 at *
  clear hG hG3 HB3
  go_loopw [5, 24] (fun v i wr => ∃ k : Nat, k ≤ K ∧ i = .int .i64 k ∧ Hid (PW ((es.map (·.l)).take k) G v wr) ∧ Hid (Below G w0 wr)) (fun _ i _ => K - (intOf i).toNat)
  case atStart => exact ⟨0, by omega, rfl, HOW, HAL⟩
  case round =>
    obtain ⟨k, hk, rfl, hpw, hbk⟩ := hrel
    have hsz := hbk.out.size
    have hG4 : G ≤ wr.heap.size := by have := HG.out; omega
    by_cases hlt : k < K
    · clear HOW HAL
      obtain ⟨fs, f1, f2, f3⟩ := hpw.out
      have hlen : ((es.map (·.l)).take k).length = k := by have := HLEN.out; simp; omega
      rw [hlen] at f2
      obtain ⟨Av, cv, rfl, _⟩ := own_slice f2
      obtain ⟨b, o, rfl, r, hr, hcell, hrow⟩ := (HL.out wr (by rw [HG.out]; exact hbk.out)).at_ hlt
      have hrn := HES.out r (List.mem_of_getElem? hr)
      have htk : (es.map (·.l)).take (k + 1) = (es.map (·.l)).take k ++ [r.l] := by
        have hlk : k < (es.map (·.l)).length := by have := HLEN.out; simp; omega
        rw [List.take_succ_eq_append_getElem hlk]
        have : es[k]'(by simpa using hlk) = r := by
          have h2 := List.getElem?_eq_getElem (l := es) (i := k) (by simpa using hlk)
          rw [h2] at hr; injection hr
        simp [this]
      have HTK := Lib.hid htk
      have hrl : r.l.length = Z := by rw [← hrn]; exact hrow.blen
      have HCL := Lib.hid (clone_any B r.n r.c r.A r.l wr hrow (by have := HZB.out; omega) (by have := HBB.out; have := HG.out; omega))
      have HF2 := Lib.hid f2
      have HF1 := Lib.hid f1
      have HF3 := Lib.hid f3
      have HRL := Lib.hid hrl
      have HLN := Lib.hid hlen
      have hki : (k : Int) < (K : Int) := by omega
      have HG4 := Lib.hid hG4
      clear f1 f2 f3 htk hr hrn hrow hpw hlen hrl
      go_wp2_with fail
      refine HCL.out.mono ?_
      rintro e w5 ⟨A5, m5, c5, rfl, hm5, hown5, hb5⟩
      have hm5' : m5 = Z := by rw [hm5.out]; exact HRL.out
      obtain ⟨g5, c5', hv5, hg5, _⟩ := hown5.form (by have := HZB.out; omega)
      injection hv5 with e1 e2 e3
      subst e1 e3
      subst hm5'
      have HB5 := Lib.hid hb5
      have HO5 := Lib.hid hown5
      clear hm5 hb5 hown5 HCL hcell hG4
      go_wp2_with (at_builtin; refine wpList_app rfl (.tmp 28) (.tmp 31) 39 rfl G 65 i0 (.slice none 0 0) 24 Tryd.underlying39 hi hz0 hz1 hz2 rfl _ k _ rfl (own_below HF2.out (HB5.out.alloc HB5.out.size _)) _ _ 1 1 _ rfl (row_new w5 _ _ _) (by intro u hu; simp at hu; subst hu; rfl) (by unfold maxLen; omega) (by omega) (Nat.le_trans HG4.out (HB5.out.alloc HB5.out.size _).size) ?_; intro v6 w6 hown6 hg6 hat6)
      have hbW := HB5.out.alloc HB5.out.size (.cells #[.slice (some ⟨g5, 0, none⟩) m5 c5] 65)
      have hnext : Hid (PW ((es.map (·.l)).take (k + 1)) G v6 w6) := by
        rw [HTK.out]
        exact Lib.hid (PW.app HLN.out HF1.out HF2.out HF3.out hbW (own_below HO5.out ((Below.refl _ _).alloc (Nat.le_refl _) _)) HG4.out hown6 hg6 hat6)
      have hbn : Hid (Below G w0 w6) := Lib.hid (below_app (hbk.out.trans (hbW.mono HG4.out)) (Nat.le_trans HG4.out hbW.size) (own_below HF2.out hbW) (Nat.le_refl _) hg6)
      clear hbW hown6 hg6 hat6 hbk
      go_wp2_with fail
      go_roundw
      case rel => exact ⟨k + 1, by omega, by go_num, hnext, hbn⟩
      case measure => simp [intOf]; omega
    · obtain rfl : K = k := by omega
      clear hlt HOW HAL
      have hpw0 := hpw.out
      rw [List.take_of_length_le (by have := HLEN.out; simp; omega)] at hpw0
      obtain ⟨fs0, q1, q2, q3⟩ := hpw0
      have hl0 : (es.map (·.l)).length = K := by have := HLEN.out; simpa using this
      rw [hl0] at q2
      obtain ⟨Av, cv, rfl, _⟩ := own_slice q2
      have hpw0 : PW (es.map (·.l)) G (.slice Av K cv) wr := ⟨fs0, q1, by rw [hl0]; exact q2, q3⟩
      clear q1 q2 q3 hl0
      obtain ⟨_, c0, c1, c2, c3⟩ := hkeep.out wr (by rw [HG.out]; exact hbk.out)
      have HPW := Lib.hid hpw0
      have hvlt : ∀ b, wr.heap.size ≤ b → (Value.slice Av K cv).ownBlock ≠ some b := by
        obtain ⟨fs, _, f2, _⟩ := hpw0
        intro b hb e
        have := (f2.lt b e).2
        omega
      have HVL := Lib.hid hvlt
      have HG4 := Lib.hid hG4
      clear hpw hpw0 hvlt hsz hG4
      go_wp2_with fail
      refine (HR.out wr).mono ?_
      rintro e wR ⟨gA, gs, hs, rfl, hvr, hown, hbR⟩
      have HBR := Lib.hid (hbk.out.trans (hbR.out.mono HG4.out))
      have HPR : Hid (PW (allP s K Z (es.map (·.l)) 0) G (.slice Av K cv) wR) := Lib.hid (by
        have := HPW.out.below hbR.out
        unfold allP
        simpa using this)
      have HST : Hid (Stay gA wR (.slice Av K cv) wR) := Lib.hid ⟨Nat.le_refl _, fun b h1 _ => ⟨rfl, HVL.out b (Nat.le_trans hvr.out.1 h1)⟩⟩
      have hgA := (hown.out.lt gA rfl).2
      have HGA := Lib.hid hgA
      have HVR := Lib.hid hvr.out.2
      clear c0 c1 c2 c3 HPW HVL hbR hvr hgA HR hbk HG4
      go_wp2_with fail
      go_loopw [5, 37] (fun v i wr => ∃ j : Nat, j ≤ P ∧ i = .int .i64 j ∧ Hid (PW (allP s K Z (es.map (·.l)) j) G v wr) ∧ Hid (Stay gA wR v wr) ∧ Hid (Below G w0 wr)) (fun _ i _ => P - (intOf i).toNat)
      case atStart => exact ⟨0, by omega, rfl, HPR, HST, HBR⟩
      case round =>
        obtain ⟨j, hj, rfl, hpw, hst, hbk⟩ := hrel
        have hsz := hbk.out.size
        have hG4 : G ≤ wr.heap.size := by have := HG.out; omega
        by_cases hlt : j < P
        · clear HPR HST HBR
          obtain ⟨fs, f1, f2, f3⟩ := hpw.out
          have hlen : (allP s K Z (es.map (·.l)) j).length = K + j := by have := HLEN.out; rw [allP_length]; simp; omega
          rw [hlen] at f2
          obtain ⟨Av, cv, rfl, _⟩ := own_slice f2
          have hcell : wr.cell? ⟨gA, j, none⟩ = some (.pointer (some ⟨gs j, 0, none⟩)) := by
            have h1 := (hown.out.cellAt j (by omega)).trans (pvk_get gs P P j hlt)
            rw [if_pos hlt] at h1
            rw [← h1]
            exact World.cell?_of_block (w := wR) ((hst.out.2 gA (Nat.le_refl _) HGA.out).1)
          obtain ⟨va, vb, vc⟩ := HVR.out j hlt
          have hvj : VecAt wr (gs j) (hs j) (K + P) (parJ s K j) := vc.keep (hst.out.2 _ (by omega) vc.lt.1).1 (hst.out.2 _ (by omega) vc.lt.2).1
          obtain ⟨_, c0, c1, c2, c3⟩ := hkeep.out wr (by rw [HG.out]; exact hbk.out)
          have HSU := Lib.hid (sum_any (gs j) (hs j) (K + P) (parJ s K j) Z K c B A es wr hvj (HL.out wr (by rw [HG.out]; exact hbk.out)) HES.out (by omega) (by have := HZB.out; omega) (by have := HBB.out; have := HG.out; omega))
          have HF2 := Lib.hid f2
          have HF1 := Lib.hid f1
          have HF3 := Lib.hid f3
          have HLN := Lib.hid hlen
          have hji : (j : Int) < (P : Int) := by omega
          have HG4 := Lib.hid hG4
          clear f1 f2 f3 hpw hlen va vb vc hvj hG4 hsz
          go_wp2_with fail
          refine HSU.out.mono ?_
          rintro e w5 ⟨g5, rfl, hg5, ho5, hb5⟩
          clear HSU hcell c0 c1 c2 c3
          obtain ⟨kj, hkj⟩ : ∃ kj, K + j = kj := ⟨_, rfl⟩
          rw [hkj] at HF2 HF3 HLN hst ⊢
          have hkj80 : kj ≤ 80 := by omega
          have HKJ := Lib.hid hkj
          clear hkj
          go_wp2_with (at_builtin; refine wpList_app rfl (.tmp 41) (.tmp 47) 39 rfl G 65 i0 (.slice none 0 0) 24 Tryd.underlying39 hi hz0 hz1 hz2 rfl _ kj _ rfl (own_below HF2.out (hb5.out.alloc hb5.out.size _)) _ _ 1 1 _ rfl (row_new w5 _ _ _) (by intro u hu; simp at hu; subst hu; rfl) (by unfold maxLen; omega) (by omega) (Nat.le_trans HG4.out (hb5.out.alloc hb5.out.size _).size) ?_; intro v6 w6 hown6 hg6 hat6)
          have hbW := hb5.out.alloc hb5.out.size (.cells #[.slice (some ⟨g5, 0, none⟩) Z Z] 65)
          have hnext : Hid (PW (allP s K Z (es.map (·.l)) (j + 1)) G v6 w6) := by
            rw [allP_next]
            exact Lib.hid (PW.app HLN.out HF1.out HF2.out HF3.out hbW (own_below ho5.out ((Below.refl _ _).alloc (Nat.le_refl _) _)) HG4.out hown6 hg6 hat6)
          have hbn : Hid (Below G w0 w6) := Lib.hid (below_app (hbk.out.trans (hbW.mono HG4.out)) (Nat.le_trans HG4.out hbW.size) (own_below HF2.out hbW) (Nat.le_refl _) hg6)
          have hsn : Hid (Stay gA wR v6 w6) := Lib.hid (hst.out.step hbW hg6 hat6)
          clear hbW hown6 hg6 hat6 hbk hst hb5 ho5 hg5
          go_wp2_with fail
          go_roundw
          case rel => exact ⟨j + 1, by omega, by go_num, hnext, hsn, hbn⟩
          case measure => simp [intOf]; omega
        · obtain rfl : P = j := by omega
          clear hlt HPR HST HBR
          have hfin := Lib.hid (hpw.out.mono (base' := w.heap.size) (by have := HG.out; have := HZ0.out; omega))
          have hbf : Hid (Below w.heap.size w wr) := Lib.hid (HB0.out.trans (hbk.out.mono (by have := HG.out; have := HZ0.out; omega)))
          clear hpw hst hbk
          go_wp2_with fail
          go_ret
          exact ⟨_, rfl, hfin, hbf⟩
end Go.Proofs.YtibleaaghhhjkaaDoor.Pc
