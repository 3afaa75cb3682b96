/- A model's manifest: by contract. -/
import Derived.StillTailTactics
import Derived.Test.YtmncpgfdpcckpaaGreatDoorZMFQN
import Derived.Test.YtmncpgfdpcckpaaGreatDoorZSQN
import Derived.Test.YtmncpgfdpcckpaaGreatDoorDcNQN
set_option maxRecDepth 100000
namespace Go.Proofs.YtmncpgfdpcckpaaGreatDoor.Mo
open Go.RowKit
open VecM RdM Vc Sp Pc El Cd Dc
theorem zqu {P : Program} {md : Region.Mode} {ops : Array Oper} {Q : Exit → Act → World → Prop} {S : World → Prop} {i : Nat} {d : Option Nat} {oi : Oper} {v : Value} {fuel : Nat} {listed : Array Bool} {a : Act} {w : World} (hi : ops[i]? = some oi) (hd : oi.dst = d := by rfl) (hs : Region.noSelect ops = true := by kernel_rfl) (hf : Region.free md ops listed i = true := by kernel_rfl) (hr : (Region.ready md ops listed).contains i = true := by kernel_rfl) (hQ : ∀ c a w, Q (.panic c) (a.put oi.dst v) w → Q (.panic c) a w := by exact fun _ _ _ h => h) (y1 : Region.wanted oi (yielded ops a.tmps) = true := by rfl) (y : ∀ w', S w' → ((execOp a.eval oi).run P w') = .ok (.value v) w' := by intro w' hSw; clear hSw; go_simp; try with_reducible rfl) (s : S w)
    (h : wpAnyH P md ops Q S fuel (listed.setIfInBounds i true) (a.put d v) w) : wpAnyH P md ops Q S (fuel + 1) listed a w := wpAnyH_take hi hs hf hr hQ (Or.inl ⟨y1, y⟩) s (hd ▸ h)
theorem admitS_any {w : World} {P P' : Nat → Prop} {cs ms : Array Value} {L : LSt} {M : LMan} (h : IsSt w P cs L) (hm : IsMan w P' ms M) : Calls Tryz.prog 41 #[.agg cs, .agg ms] w (RetSV (if L.admitR M = 0 then L.admitted M else LSt.zero) (.int .i64 (L.admitR M)) w) := by
 by_cases hr : L.admitR M = 0
 ·rw [if_pos hr, hr]
  exact admitS_yes h hm hr
 ·rw [if_neg hr]
  refine (admitS_no h hm rfl hr).mono ?_
  rintro e w' ⟨rfl, hb⟩
  exact ⟨zState, rfl, Lib.hid (zero_is _ _), Lib.hid hb⟩
set_option maxHeartbeats 6400000 in
theorem man_any {g n c : Nat} {A : Option Addr} {q : MoD} {m : List UInt8} {F : Nat → Prop} {w : World} (h : IsMo g q w F) (ok : MoOk q n) (ht : Sh.Tab w) (hd : DTab w) (hm : Row w w.heap.size A m.length (bv m)) (hc : m.length ≤ c) (hc2 : c ≤ 9223372036854775807) :
  Calls Tryz.prog 21 #[.pointer (some ⟨g, 0, none⟩), .slice A m.length c] w (MoTo g (q.man m).1 (q.man m).2 F w) := by
 have HIS := Lib.hid h
 obtain ⟨Ak, ck, cs, A0, c0, A1, c1, pd, G, Fd, H⟩ := h
 have HP := Lib.hid (manPar_any q.key.length ck Ak q.key A m.length c m w ht H.k.row (by have := ok.k; omega) hm hc hc2)
 have ck0 := H.bx.k
 have HH := Lib.hid H
 have HD := Lib.hid hd
 have HS := Lib.hid (parM_s q.key m)
 obtain ⟨Q, hQ⟩ : ∃ Q, q.man m = Q := ⟨_, rfl⟩
 rw [hQ]
 unfold MoD.man at hQ
 obtain ⟨E, hE⟩ : ∃ E, parE q.key m = E := ⟨_, rfl⟩
 obtain ⟨M, hM⟩ : ∃ M, parM q.key m = M := ⟨_, rfl⟩
 unfold MParOk at HP
 rw [hE, hM] at HP
 rw [hE, hM] at hQ
 rw [hM] at HS
 have HQ := Lib.hid hQ
 obtain ⟨kl, hkl⟩ : ∃ k, q.key.length = k := ⟨_, rfl⟩
 rw [hkl] at HP ck0
 obtain ⟨ml, hml⟩ : ∃ k, m.length = k := ⟨_, rfl⟩
 rw [hml] at HP ⊢
 clear hQ hE hM hkl hml H ok ht hd hm hc hc2
 go_enter Tryz.func21, Tryz.ntmps21
 go_wp2_with fail
 refine HP.out.mono ?_
 rintro e w1 ⟨ms, rfl, hm1, hb1⟩
 have HM1 := Lib.hid hm1.out
 have HB1 := Lib.hid hb1.out
 have IM := Lib.hid hm1.out.inf
 have OM := Lib.hid hm1.out.one
 have ZM : Hid (6 = ms.size) := Lib.hid hm1.out.size.symm
 clear hm1 hb1 HP ck0
 by_cases hE : E = 0
 case neg =>
  have hne : (E != 0) = true := by simpa using hE
  have e := HQ.out
  rw [if_neg hE] at e
  subst e
  clear hE
  go_wp2_with ((with_reducible show wpList _ _ _ _ _ _); refine wpList_store_new rfl rfl _ (.tmp 5) (.tmp 17) rfl _ _ ms _ rfl rfl IM.out ZM.out OM.out ?_)
  go_ret
  exact MoTo.same HIS.out (HB1.out.alloc HB1.out.size _)
 subst hE
 have HQ1 : Hid ((if q.L.admitR M = 0 then (({ q with L := q.L.admitted M, d := some (newDe M) } : MoD), (0 : Int)) else (q, q.L.admitR M)) = Q) := Lib.hid (by rw [← HQ.out, if_pos rfl])
 clear HQ
 go_upto_region 4 with ((with_reducible show wpList _ _ _ _ _ _); refine wpList_store_new rfl rfl _ (.tmp 5) (.tmp 17) rfl _ _ ms _ rfl rfl IM.out ZM.out OM.out ?_)
 have HX2 := Lib.hid (heap_alloc_new w1 (.cells ms 37))
 have HB2 : Hid (Below w.heap.size w (w1.alloc (.cells ms 37))) := Lib.hid (HB1.out.alloc HB1.out.size _)
 have HM2 : Hid (IsMan (w1.alloc (.cells ms 37)) (fun b => w.heap.size ≤ b) ms M) := Lib.hid (HM1.out.below ((Below.refl _ _).alloc (Nat.le_refl _) _))
 have HL2 : Hid (w1.heap.size < (w1.alloc (.cells ms 37)).heap.size ∧ w.heap.size ≤ w1.heap.size) := Lib.hid ⟨by simp, HB1.out.size⟩
 generalize w1.alloc (.cells ms 37) = w2 at *
 clear HM1 HB1 ZM OM
 have HST : Hid (∀ W, Below w2.heap.size w2 W → W.rangeAt g 1 cs.toList) := Lib.hid fun W hW => by
  have hbb : Below w.heap.size w W := HB2.out.trans (hW.mono HB2.out.size)
  exact (HH.out.bx.keep (hbb.block g HH.out.bx.lt) hbb.size).st
 have IN := Lib.hid HH.out.st.inf
 have HMB : Hid (∀ W, Below w2.heap.size w2 W → W.heap[w1.heap.size]? = some (.cells ms 37 (0, 0))) := Lib.hid fun W hW => (hW.block _ HL2.out.1).trans HX2.out
 obtain ⟨r, hr⟩ : ∃ r, q.L.admitR M = r := ⟨_, rfl⟩
 obtain ⟨KK, hK⟩ : ∃ K, (if q.L.admitR M = 0 then q.L.admitted M else LSt.zero) = K := ⟨_, rfl⟩
 have HADM : Hid (∀ W, Below w2.heap.size w2 W → Calls Tryz.prog 41 #[.agg cs, .agg ms] W (RetSV KK (.int .i64 r) W)) := Lib.hid fun W hW => by
  rw [← hr, ← hK]
  have hbb : Below w.heap.size w W := HB2.out.trans (hW.mono HB2.out.size)
  exact admitS_any (HH.out.st.keep hbb.size fun b _ hl => hbb.block b hl) (HM2.out.below hW)
 have HR := Lib.hid hr
 have HKK := Lib.hid hK
 clear hr hK
 go_cut [7, 6] (fun s7 s6 wx => ∃ gB ds, s7 = .pointer (some ⟨gB, 0, none⟩) ∧ s6 = .int .i64 r ∧ Hid (wx.heap[gB]? = some (.cells ds 39 (0, 0))) ∧ Hid (IsSt wx (fun b => w2.heap.size ≤ b ∧ b ≠ gB) ds KK) ∧ Hid (w2.heap.size ≤ gB) ∧ Hid (Below w2.heap.size w2 wx))
 case first =>
  refine wp_region_noPanic ?_
  refine wp_region_held_drew (S := (fun W => Below (w2.heap.size) w2 W)) (by kernel_rfl) (Below.refl _ _).drew (fun hH0 => ?_)
  have hH0 : Below (w2.heap.size) w2 w2.drew := hH0
  generalize w2.drew = wd3000 at *
  refine zqu (i := 0) (d := some 23) rfl (s := hH0) (h := ?_)
  try simp only [Act.put, zqa, zqb, zqc]
  refine zqu (i := 1) (d := some 24) rfl (s := hH0) (h := ?_)
  try simp only [Act.put, zqa, zqb, zqc]
  refine zqu (i := 2) (d := some 25) rfl (s := hH0) (h := ?_)
  try simp only [Act.put, zqa, zqb, zqc]
  refine wpAnyH_take (i := 3) (oi := ⟨some 26, Op.load 39 (Operand.tmp 25), _, _, _, _⟩) (v := .agg cs) rfl (by kernel_rfl) (by kernel_rfl) (by kernel_rfl) (fun _ _ _ h => h) (yields_st (by rfl) _ (.tmp 25) rfl g rfl cs _ (fun W hW => HST.out W hW) Tryz.underlying39 rfl IN.out) hH0 ?tkr3004
  try simp only [Act.put, zqa, zqb, zqc]
  refine wpAnyH_take (i := 4) (oi := ⟨some 27, Op.load 37 (Operand.tmp 5), _, _, _, _⟩) (v := .agg ms) rfl (by kernel_rfl) (by kernel_rfl) (by kernel_rfl) (fun _ _ _ h => h) (yields_row (by rfl) _ (.tmp 5) rfl w1.heap.size rfl _ _ _ _ (fun W hW => HMB.out W hW) Tryz.underlying37 rfl IM.out) hH0 ?tkr3005
  try simp only [Act.put, zqa, zqb, zqc]
  refine wpAnyH_ready (rs := [5, 9]) (by kernel_rfl) (by simp) ?_
  refine AllReadyH.cons (o := ⟨some 28, Op.call { callee := Callee.value (Operand.func 41), args := #[Operand.tmp 26, Operand.tmp 27], argTypes := #[39, 37] }, _, _, _, _⟩) rfl (fun K hK => ?_) (AllReadyH.cons (o := ⟨some 7, Op.alloc 39, _, _, _, _⟩) rfl (fun K hK => ?_) AllReadyH.nil)
  ·go_simp
   refine (HADM.out wd3000 (hH0)).mono ?_
   rintro e' wn3006 ⟨ds3006, rfl, hs3006, hbb3006⟩
   have hb3006 := hbb3006.out
   have IN3006 := Lib.hid hs3006.out.inf
   have ON3006 := Lib.hid hs3006.out.one
   have SZ3006 : Hid (17 = ds3006.size) := Lib.hid hs3006.out.size.symm
   have SS3006 : Hid (IsSt wn3006 (fun b => w2.heap.size ≤ b) ds3006 KK) := Lib.hid (hs3006.out.imp fun b _ hp => by have := (hH0).size; omega)
   clear hs3006 hbb3006
   go_simp
   have hS3006 : Below (w2.heap.size) w2 wn3006 := (hH0).trans (hb3006.mono (hH0).size)
   refine hK.out _ _ hS3006 (fun hH3006 => ?_)
   have hH3006 : Below (w2.heap.size) w2 wn3006 := hH3006
   clear hK K hS3006
   try simp only [Act.put, zqa, zqb, zqc]
   refine zqu (i := 6) (d := some 22) rfl (s := hH3006) (h := ?_)
   try simp only [Act.put, zqa, zqb, zqc]
   refine zqu (i := 7) (d := some 29) rfl (s := hH3006) (h := ?_)
   try simp only [Act.put, zqa, zqb, zqc]
   refine zqu (i := 8) (d := some 30) rfl (s := hH3006) (h := ?_)
   try simp only [Act.put, zqa, zqb, zqc]
   refine wpAnyH_ready (rs := [9]) (by kernel_rfl) (by simp) ?_
   refine AllReadyH.cons (o := ⟨some 7, Op.alloc 39, _, _, _, _⟩) rfl (fun K hK => ?_) AllReadyH.nil
   go_simp
   have hb3010 : Below wn3006.heap.size wn3006 (wn3006.alloc (.cells #[.int .i64 0, .int .i64 0, .int .u32 0, .int .u32 0, .int .u32 0, .int .i64 0, .slice none 0 0, .int .u32 0, .int .i64 0, .slice none 0 0, .bool false, .int .u32 0, .int .u32 0, .int .i64 0, .int .i64 0, .int .i64 0, .slice none 0 0] 39)) := (Below.refl _ _).alloc (Nat.le_refl _) _
   have BX3010 : Hid ((wn3006.alloc (.cells #[.int .i64 0, .int .i64 0, .int .u32 0, .int .u32 0, .int .u32 0, .int .i64 0, .slice none 0 0, .int .u32 0, .int .i64 0, .slice none 0 0, .bool false, .int .u32 0, .int .u32 0, .int .i64 0, .int .i64 0, .int .i64 0, .slice none 0 0] 39)).heap[wn3006.heap.size]? = some (.cells #[.int .i64 0, .int .i64 0, .int .u32 0, .int .u32 0, .int .u32 0, .int .i64 0, .slice none 0 0, .int .u32 0, .int .i64 0, .slice none 0 0, .bool false, .int .u32 0, .int .u32 0, .int .i64 0, .int .i64 0, .int .i64 0, .slice none 0 0] 39 (0, 0))) := Lib.hid (heap_alloc_new _ _)
   have LX3010 : Hid (wn3006.heap.size < (wn3006.alloc (.cells #[.int .i64 0, .int .i64 0, .int .u32 0, .int .u32 0, .int .u32 0, .int .i64 0, .slice none 0 0, .int .u32 0, .int .i64 0, .slice none 0 0, .bool false, .int .u32 0, .int .u32 0, .int .i64 0, .int .i64 0, .int .i64 0, .slice none 0 0] 39)).heap.size) := Lib.hid (by simp)
   have GE3010 : Hid (w2.heap.size ≤ wn3006.heap.size) := Lib.hid (hH3006).size
   have SS3010 : Hid (IsSt wn3006 (fun b => w2.heap.size ≤ b ∧ b ≠ wn3006.heap.size) ds3006 KK) := Lib.hid (SS3006.out.imp fun b hl hp => ⟨hp, by omega⟩)
   have ST3010 := Lib.hid (SS3010.out.below hb3010)
   have SS3006_3010 := Lib.hid (SS3006.out.below hb3010)
   have hS3010 : Below (w2.heap.size) w2 (wn3006.alloc (.cells #[.int .i64 0, .int .i64 0, .int .u32 0, .int .u32 0, .int .u32 0, .int .i64 0, .slice none 0 0, .int .u32 0, .int .i64 0, .slice none 0 0, .bool false, .int .u32 0, .int .u32 0, .int .i64 0, .int .i64 0, .int .i64 0, .slice none 0 0] 39)) := (hH3006).trans (hb3010.mono (hH3006).size)
   refine hK.out _ _ hS3010 (fun hH3010 => ?_)
   have hH3010 : Below (w2.heap.size) w2 (wn3006.alloc (.cells #[.int .i64 0, .int .i64 0, .int .u32 0, .int .u32 0, .int .u32 0, .int .i64 0, .slice none 0 0, .int .u32 0, .int .i64 0, .slice none 0 0, .bool false, .int .u32 0, .int .u32 0, .int .i64 0, .int .i64 0, .int .i64 0, .slice none 0 0] 39)) := hH3010
   clear hK K hS3010
   try simp only [Act.put, zqa, zqb, zqc]
   refine wpAnyH_ready (rs := [10]) (by kernel_rfl) (by simp) ?_
   refine AllReadyH.cons (o := ⟨none, Op.store 39 (Operand.tmp 7) (Operand.tmp 29), _, _, _, _⟩) rfl (fun K hK => ?_) AllReadyH.nil
   rw [if_pos (by rfl)]
   refine wp_store_row _ _ _ rfl (wn3006.heap.size) ds3006 rfl rfl _ _ BX3010.out IN3006.out SZ3006.out ON3006.out ?_
   have hS3011 : Below (w2.heap.size) w2 ((wn3006.alloc (.cells #[.int .i64 0, .int .i64 0, .int .u32 0, .int .u32 0, .int .u32 0, .int .i64 0, .slice none 0 0, .int .u32 0, .int .i64 0, .slice none 0 0, .bool false, .int .u32 0, .int .u32 0, .int .i64 0, .int .i64 0, .int .i64 0, .slice none 0 0] 39)).setRow (wn3006.heap.size) ds3006) := below_setRow2 (hH3010) GE3010.out _
   refine hK.out _ _ hS3011 (fun hH3011 => ?_)
   have hH3011 : Below (w2.heap.size) w2 ((wn3006.alloc (.cells #[.int .i64 0, .int .i64 0, .int .u32 0, .int .u32 0, .int .u32 0, .int .i64 0, .slice none 0 0, .int .u32 0, .int .i64 0, .slice none 0 0, .bool false, .int .u32 0, .int .u32 0, .int .i64 0, .int .i64 0, .int .i64 0, .slice none 0 0] 39)).setRow (wn3006.heap.size) ds3006) := hH3011
   clear hK K hS3011
   refine zqu (i := 11) (d := some 6) rfl (s := hH3011) (h := ?_)
   try simp only [Act.put, zqa, zqb, zqc]
   refine wpAnyH_done (by kernel_rfl) ?_ _
   refine NoPanic.normal ?_
   have HBX := Lib.hid (setRow_heap _ _ _ ds3006 _ _ BX3010.out)
   have HSR := Lib.hid (ST3010.out.keep (Nat.le_of_eq (setRow_size _ _ _).symm) fun b hb _ => setRow_other (wn3006.alloc (.cells #[.int .i64 0, .int .i64 0, .int .u32 0, .int .u32 0, .int .u32 0, .int .i64 0, .slice none 0 0, .int .u32 0, .int .i64 0, .slice none 0 0, .bool false, .int .u32 0, .int .u32 0, .int .i64 0, .int .i64 0, .int .i64 0, .slice none 0 0] 39)) (wn3006.heap.size) b ds3006 hb.2)
   go_wp2_with fail
   go_meet
   exact ⟨wn3006.heap.size, ds3006, rfl, rfl, HBX, HSR, GE3010, Lib.hid (hH3011)⟩
  ·go_simp
   have hb3013 : Below wd3000.heap.size wd3000 (wd3000.alloc (.cells #[.int .i64 0, .int .i64 0, .int .u32 0, .int .u32 0, .int .u32 0, .int .i64 0, .slice none 0 0, .int .u32 0, .int .i64 0, .slice none 0 0, .bool false, .int .u32 0, .int .u32 0, .int .i64 0, .int .i64 0, .int .i64 0, .slice none 0 0] 39)) := (Below.refl _ _).alloc (Nat.le_refl _) _
   have BX3013 : Hid ((wd3000.alloc (.cells #[.int .i64 0, .int .i64 0, .int .u32 0, .int .u32 0, .int .u32 0, .int .i64 0, .slice none 0 0, .int .u32 0, .int .i64 0, .slice none 0 0, .bool false, .int .u32 0, .int .u32 0, .int .i64 0, .int .i64 0, .int .i64 0, .slice none 0 0] 39)).heap[wd3000.heap.size]? = some (.cells #[.int .i64 0, .int .i64 0, .int .u32 0, .int .u32 0, .int .u32 0, .int .i64 0, .slice none 0 0, .int .u32 0, .int .i64 0, .slice none 0 0, .bool false, .int .u32 0, .int .u32 0, .int .i64 0, .int .i64 0, .int .i64 0, .slice none 0 0] 39 (0, 0))) := Lib.hid (heap_alloc_new _ _)
   have LX3013 : Hid (wd3000.heap.size < (wd3000.alloc (.cells #[.int .i64 0, .int .i64 0, .int .u32 0, .int .u32 0, .int .u32 0, .int .i64 0, .slice none 0 0, .int .u32 0, .int .i64 0, .slice none 0 0, .bool false, .int .u32 0, .int .u32 0, .int .i64 0, .int .i64 0, .int .i64 0, .slice none 0 0] 39)).heap.size) := Lib.hid (by simp)
   have GE3013 : Hid (w2.heap.size ≤ wd3000.heap.size) := Lib.hid (hH0).size
   have hS3013 : Below (w2.heap.size) w2 (wd3000.alloc (.cells #[.int .i64 0, .int .i64 0, .int .u32 0, .int .u32 0, .int .u32 0, .int .i64 0, .slice none 0 0, .int .u32 0, .int .i64 0, .slice none 0 0, .bool false, .int .u32 0, .int .u32 0, .int .i64 0, .int .i64 0, .int .i64 0, .slice none 0 0] 39)) := (hH0).trans (hb3013.mono (hH0).size)
   refine hK.out _ _ hS3013 (fun hH3013 => ?_)
   have hH3013 : Below (w2.heap.size) w2 (wd3000.alloc (.cells #[.int .i64 0, .int .i64 0, .int .u32 0, .int .u32 0, .int .u32 0, .int .i64 0, .slice none 0 0, .int .u32 0, .int .i64 0, .slice none 0 0, .bool false, .int .u32 0, .int .u32 0, .int .i64 0, .int .i64 0, .int .i64 0, .slice none 0 0] 39)) := hH3013
   clear hK K hS3013
   try simp only [Act.put, zqa, zqb, zqc]
   refine wpAnyH_ready (rs := [5]) (by kernel_rfl) (by simp) ?_
   refine AllReadyH.cons (o := ⟨some 28, Op.call { callee := Callee.value (Operand.func 41), args := #[Operand.tmp 26, Operand.tmp 27], argTypes := #[39, 37] }, _, _, _, _⟩) rfl (fun K hK => ?_) AllReadyH.nil
   go_simp
   refine (HADM.out (wd3000.alloc (.cells #[.int .i64 0, .int .i64 0, .int .u32 0, .int .u32 0, .int .u32 0, .int .i64 0, .slice none 0 0, .int .u32 0, .int .i64 0, .slice none 0 0, .bool false, .int .u32 0, .int .u32 0, .int .i64 0, .int .i64 0, .int .i64 0, .slice none 0 0] 39)) (hH3013)).mono ?_
   rintro e' wn3014 ⟨ds3014, rfl, hs3014, hbb3014⟩
   have hb3014 := hbb3014.out
   have IN3014 := Lib.hid hs3014.out.inf
   have ON3014 := Lib.hid hs3014.out.one
   have SZ3014 : Hid (17 = ds3014.size) := Lib.hid hs3014.out.size.symm
   have SS3014 : Hid (IsSt wn3014 (fun b => w2.heap.size ≤ b ∧ b ≠ wd3000.heap.size) ds3014 KK) := Lib.hid (hs3014.out.imp fun b _ hp => ⟨by have := (hH3013).size; omega, by have := LX3013.out; omega⟩)
   clear hs3014 hbb3014
   go_simp
   have BX3013_3014 := Lib.hid ((hb3014.block wd3000.heap.size LX3013.out).trans BX3013.out)
   have LX3013_3014 := Lib.hid (Nat.lt_of_lt_of_le LX3013.out hb3014.size)
   have hS3014 : Below (w2.heap.size) w2 wn3014 := (hH3013).trans (hb3014.mono (hH3013).size)
   refine hK.out _ _ hS3014 (fun hH3014 => ?_)
   have hH3014 : Below (w2.heap.size) w2 wn3014 := hH3014
   clear hK K hS3014
   try simp only [Act.put, zqa, zqb, zqc]
   refine zqu (i := 6) (d := some 22) rfl (s := hH3014) (h := ?_)
   try simp only [Act.put, zqa, zqb, zqc]
   refine zqu (i := 7) (d := some 29) rfl (s := hH3014) (h := ?_)
   try simp only [Act.put, zqa, zqb, zqc]
   refine zqu (i := 8) (d := some 30) rfl (s := hH3014) (h := ?_)
   try simp only [Act.put, zqa, zqb, zqc]
   refine wpAnyH_ready (rs := [10]) (by kernel_rfl) (by simp) ?_
   refine AllReadyH.cons (o := ⟨none, Op.store 39 (Operand.tmp 7) (Operand.tmp 29), _, _, _, _⟩) rfl (fun K hK => ?_) AllReadyH.nil
   rw [if_pos (by rfl)]
   refine wp_store_row _ _ _ rfl (wd3000.heap.size) ds3014 rfl rfl _ _ BX3013_3014.out IN3014.out SZ3014.out ON3014.out ?_
   have hS3018 : Below (w2.heap.size) w2 (wn3014.setRow (wd3000.heap.size) ds3014) := below_setRow2 (hH3014) GE3013.out _
   refine hK.out _ _ hS3018 (fun hH3018 => ?_)
   have hH3018 : Below (w2.heap.size) w2 (wn3014.setRow (wd3000.heap.size) ds3014) := hH3018
   clear hK K hS3018
   refine zqu (i := 11) (d := some 6) rfl (s := hH3018) (h := ?_)
   try simp only [Act.put, zqa, zqb, zqc]
   refine wpAnyH_done (by kernel_rfl) ?_ _
   refine NoPanic.normal ?_
   have HBX := Lib.hid (setRow_heap _ _ _ ds3014 _ _ BX3013_3014.out)
   have HSR := Lib.hid (SS3014.out.keep (Nat.le_of_eq (setRow_size _ _ _).symm) fun b hb _ => setRow_other wn3014 (wd3000.heap.size) b ds3014 hb.2)
   go_wp2_with fail
   go_meet
   exact ⟨wd3000.heap.size, ds3014, rfl, rfl, HBX, HSR, GE3013, Lib.hid (hH3018)⟩
 case rest =>
  obtain ⟨gB, ds, rfl, rfl, hbx, hsr, hge, hbw⟩ := hcut
  obtain ⟨w3, rfl⟩ : ∃ x : World, x = wc := ⟨_, rfl⟩
  have HB3 : Hid (Below w.heap.size w w3) := Lib.hid (HB2.out.trans (hbw.out.mono HB2.out.size))
  have HX3 := Lib.hid (HMB.out w3 hbw.out)
  have HM3 := Lib.hid (HM2.out.below hbw.out)
  have HL3 : Hid (w1.heap.size < w2.heap.size ∧ w.heap.size ≤ w1.heap.size ∧ w2.heap.size ≤ w3.heap.size) := Lib.hid ⟨HL2.out.1, HL2.out.2, hbw.out.size⟩
  clear HST HADM HMB HM2 HX2 HL2 HB2 hbw
  by_cases hr : r = 0
  case neg =>
   have hne : (r != 0) = true := by simpa using hr
   have e := HQ1.out
   rw [HR.out, if_neg hr] at e
   subst e
   clear hr
   go_wp2_with fail
   go_ret
   exact MoTo.same HIS.out HB3.out
  subst hr
  obtain ⟨_, hmay, _, _, _, _⟩ := admitR_zero HR.out
  have hDE := newDe_ok hmay HS.out
  have HDE := Lib.hid hDE
  obtain ⟨hof, _⟩ : ofB M.l M.z M.p = true ∧ True := ⟨by have h := hmay; unfold LMan.may manB at h; rw [Bool.and_eq_true] at h; exact h.1, trivial⟩
  have HOB := Lib.hid hof
  have e := HQ1.out
  rw [if_pos HR.out] at e
  have HQ2 := Lib.hid e
  have eK := HKK.out
  rw [if_pos HR.out] at eK
  subst eK
  obtain ⟨MA, mc, hms, hrow⟩ := HM3.out
  subst hms
  have HOF : Hid (Calls Tryz.prog 42 #[.agg (M.cells MA mc)] w3 (OfAll M.s M.l M.z M.p w3)) := Lib.hid (of_all M.s M.v M.l M.z M.p MA M.h.length mc w3)
  clear e hDE hof hmay hrow HQ1 HKK HM3 HR
  generalize M.cells MA mc = ms at *
  go_wp2_with ((with_reducible show wpList _ _ _ _ _ _); refine wpList_load_row (o := ⟨some 35, _, _, _, _, _⟩) rfl _ (.tmp 5) rfl w1.heap.size rfl _ _ _ _ HX3.out Tryz.underlying37 rfl IM.out ?_)
  refine HOF.out.mono ?_
  rintro e w4 ⟨s', K', P', Z', rfl, hb4, hv⟩
  obtain ⟨rfl, rfl, rfl, rfl⟩ := hv HOB.out
  rw [HOB.out]
  have HB34 := Lib.hid hb4
  clear hv hb4 HOF HX3
  go_upto_region 8 with fail
  have HPX5 := Lib.hid (heap_alloc_new w4 (.cells #[.int .u32 (M.s : Int), .int .i64 ((BlkM.count M.l M.z : Nat) : Int), .int .i64 M.p, .int .i64 M.z] 76))
  have HB5 : Hid (Below w3.heap.size w3 (w4.alloc (.cells #[.int .u32 (M.s : Int), .int .i64 ((BlkM.count M.l M.z : Nat) : Int), .int .i64 M.p, .int .i64 M.z] 76))) := Lib.hid (HB34.out.alloc HB34.out.size _)
  have HBX5 := Lib.hid ((HB5.out.block gB (Array.getElem?_eq_some_iff.1 hbx.out).1).trans hbx.out)
  have HSR5 := Lib.hid (hsr.out.below HB5.out)
  have IS := Lib.hid hsr.out.inf
  have OS := Lib.hid hsr.out.one
  have SS : Hid (ds.size = 17) := Lib.hid hsr.out.size
  have HBW5 : Hid (Below w.heap.size w (w4.alloc (.cells #[.int .u32 (M.s : Int), .int .i64 ((BlkM.count M.l M.z : Nat) : Int), .int .i64 M.p, .int .i64 M.z] 76))) := Lib.hid (HB3.out.trans (HB5.out.mono HB3.out.size))
  have HNG : Hid (gB ≠ g ∧ w4.heap.size ≠ g) := Lib.hid ⟨by have := HH.out.bx.lt; have := HL3.out; have := hge.out; omega, by have := HH.out.bx.lt; have := HL3.out; have := HB34.out.size; omega⟩
  clear HB34 hbx hsr
  generalize (w4.alloc (.cells #[.int .u32 (M.s : Int), .int .i64 ((BlkM.count M.l M.z : Nat) : Int), .int .i64 M.p, .int .i64 M.z] 76)) = w5 at *
  have HND : Hid (∀ W, Below w.heap.size w W → Calls Tryz.prog 43 #[.agg #[.int .u32 (M.s : Int), .int .i64 ((BlkM.count M.l M.z : Nat) : Int), .int .i64 M.p, .int .i64 M.z]] W (NewDOk (newDe M).s (newDe M).K (newDe M).P (newDe M).Z W)) := Lib.hid (fun W hW => by
   have h := newD (newDe M).s (newDe M).K (newDe M).P (newDe M).Z W HDE.out.s32 HDE.out.K HDE.out.P HDE.out.Z (HD.out.grow hW)
   unfold parV at h
   rw [HDE.out.pp, HDE.out.zz] at h
   exact h)
  refine wp_region_noPanic ?_
  refine wp_region_held_drew (S := (fun W => FrG w5 g W)) (by kernel_rfl) (Fr.of_below (Below.refl _ _).drew) (fun hH0 => ?_)
  have hH0 : FrG w5 g w5.drew := hH0
  have WDZ : Hid (w5.heap.size = w5.drew.heap.size) := Lib.hid rfl
  have WDB : Hid (∀ b, b < w5.heap.size → w5.drew.heap[b]? = w5.heap[b]?) := Lib.hid fun _ _ => rfl
  have WDD : Hid (Below w.heap.size w w5.drew) := Lib.hid HBW5.out.drew
  generalize w5.drew = wd5000 at *
  refine zqu (i := 0) (d := some 39) rfl (s := hH0) (h := ?_)
  try simp only [Act.put, zqa, zqb, zqc]
  refine zqu (i := 1) (d := some 40) rfl (s := hH0) (h := ?_)
  try simp only [Act.put, zqa, zqb, zqc]
  refine wpAnyH_take (i := 2) (oi := ⟨some 41, Op.load 39 (Operand.tmp 7), _, _, _, _⟩) (v := .agg ds) rfl (by kernel_rfl) (by kernel_rfl) (by kernel_rfl) (fun _ _ _ h => h) (yields_row (by rfl) _ (.tmp 7) rfl gB rfl _ ds _ _ (fun W hW => FrG.row hW HBX5.out HNG.out.1) Tryz.underlying39 rfl IS.out) hH0 ?tkr5003
  try simp only [Act.put, zqa, zqb, zqc]
  refine wpAnyH_take (i := 3) (oi := ⟨some 42, Op.load 76 (Operand.tmp 8), _, _, _, _⟩) (v := .agg #[.int .u32 (M.s : Int), .int .i64 ((BlkM.count M.l M.z : Nat) : Int), .int .i64 M.p, .int .i64 M.z]) rfl (by kernel_rfl) (by kernel_rfl) (by kernel_rfl) (fun _ _ _ h => h) (yields_row (by rfl) _ (.tmp 8) rfl w4.heap.size rfl _ _ _ _ (fun W hW => FrG.row hW HPX5.out HNG.out.2) Tryz.underlying76 rfl (by kernel_rfl)) hH0 ?tkr5004
  try simp only [Act.put, zqa, zqb, zqc]
  refine wpAnyH_ready (rs := [4]) (by kernel_rfl) (by simp) ?_
  refine AllReadyH.cons (o := ⟨some 43, Op.call { callee := Callee.value (Operand.func 43), args := #[Operand.tmp 42], argTypes := #[76] }, _, _, _, _⟩) rfl (fun K hK => ?_) AllReadyH.nil
  go_simp
  have hw5005 : Below w.heap.size w wd5000 := WDD.out
  refine (HND.out wd5000 hw5005).mono ?_
  rintro e' wn5005 ⟨gd5005, rfl, hd5005, -, hbb5005⟩
  have hb5005 := hbb5005.out
  have HD6 := Lib.hid hd5005.out
  have HB6 := Lib.hid hb5005
  have HBW6 : Hid (Below w.heap.size w wn5005) := Lib.hid (hw5005.trans (hb5005.mono hw5005.size))
  have HBX6 := Lib.hid (HH.out.bx.keep (HBW6.out.block g HH.out.bx.lt) HBW6.out.size)
  have TH := Lib.hid (HBX6.out.thS SS.out)
  clear hd5005 hbb5005 hw5005
  go_simp
  have hS5005 : FrG w5 g wn5005 := FrG.below (hH0) hb5005
  refine hK.out _ _ hS5005 (fun hH5005 => ?_)
  have hH5005 : FrG w5 g wn5005 := hH5005
  clear hK K hS5005
  try simp only [Act.put, zqa, zqb, zqc]
  refine zqu (i := 5) (d := some 44) rfl (s := hH5005) (h := ?_)
  try simp only [Act.put, zqa, zqb, zqc]
  refine zqu (i := 6) (d := some 45) rfl (s := hH5005) (h := ?_)
  try simp only [Act.put, zqa, zqb, zqc]
  refine wpAnyH_ready (rs := [7]) (by kernel_rfl) (by simp) ?_
  refine AllReadyH.cons (o := ⟨none, Op.store 39 (Operand.tmp 45) (Operand.tmp 41), _, _, _, _⟩) rfl (fun K hK => ?_) AllReadyH.nil
  rw [if_pos (by rfl)]
  refine wp_store_mid _ _ _ rfl g 1 ds rfl rfl TH.out IS.out OS.out ?_
  have hS5008 : FrG w5 g (wn5005.setCells g 1 ds.toList) := FrG.cells (hH5005) 1 _
  refine hK.out _ _ hS5008 (fun hH5008 => ?_)
  have hH5008 : FrG w5 g (wn5005.setCells g 1 ds.toList) := hH5008
  clear hK K hS5008
  refine zqu (i := 8) (d := some 46) rfl (s := hH5008) (h := ?_)
  try simp only [Act.put, zqa, zqb, zqc]
  refine zqu (i := 9) (d := some 47) rfl (s := hH5008) (h := ?_)
  try simp only [Act.put, zqa, zqb, zqc]
  refine wpAnyH_ready (rs := [10]) (by kernel_rfl) (by simp) ?_
  refine AllReadyH.cons (o := ⟨none, Op.store 55 (Operand.tmp 47) (Operand.tmp 43), _, _, _, _⟩) rfl (fun K hK => ?_) AllReadyH.nil
  have hbx5011 := HBX6.out.setS SS.out
  have cp := hbx5011.p
  have fp := (hbx5011.th 20 (by omega)).2
  rw [Nat.zero_add] at fp
  clear hbx5011
  go_simp
  have hS5011 : FrG w5 g ((wn5005.setCells g 1 ds.toList).setCell ⟨g, 20, none⟩ (.pointer (some ⟨gd5005, 0, none⟩))) := FrG.cell (hH5008) 20 _
  refine hK.out _ _ hS5011 (fun hH5011 => ?_)
  have hH5011 : FrG w5 g ((wn5005.setCells g 1 ds.toList).setCell ⟨g, 20, none⟩ (.pointer (some ⟨gd5005, 0, none⟩))) := hH5011
  clear hK K hS5011
  refine wpAnyH_done (by kernel_rfl) ?_ _
  refine NoPanic.normal ?_
  go_wp2_with fail
  go_ret
  have hb8 := (HBX6.out.setS SS.out).set1 SS.out (o := 20) (.pointer (some ⟨gd5005, 0, none⟩)) (by omega) (by omega)
  have hfr : Fr wn5005 ((wn5005.setCells g 1 ds.toList).setCell ⟨g, 20, none⟩ (.pointer (some ⟨gd5005, 0, none⟩))) (fun b => b = g) := (fr_setCells wn5005 g 1 ds.toList (F := fun b => b = g) rfl).trans (fr_setCell _ g 20 _ (F := fun b => b = g) rfl) (fun _ _ e => e)
  have hz5 := HB6.out.size
  have hzd : w5.heap.size = wd5000.heap.size := WDZ.out
  have hz3 := HL3.out
  have hzw := HB5.out.size
  have hge2 := hge.out
  have hS6 : IsSt wn5005 (fun b => w.heap.size ≤ b ∧ b < wd5000.heap.size) ds (q.L.admitted M) := (((HSR5.out.keep (Nat.le_of_eq WDZ.out) fun b _ hl => WDB.out b hl).imp fun b hl hb => ⟨(by omega : w.heap.size ≤ b), hl⟩).below HB6.out)
  obtain ⟨a, b⟩ := HH.out.new (B := wd5000.heap.size) (K := q.L.admitted M) (d' := some (newDe M)) (Fr.of_below HBW6.out) (by omega) hz5 hS6 (.inl ⟨rfl, rfl⟩) (.inl ⟨rfl, rfl⟩) (Fd' := fun b => wd5000.heap.size ≤ b ∧ b < wn5005.heap.size) ⟨gd5005, rfl, HD6.out⟩ (fun b hb => hb) hfr hb8
  rw [← HQ2.out]
  exact ⟨rfl, Lib.hid a, Lib.hid b⟩
end Go.Proofs.YtmncpgfdpcckpaaGreatDoor.Mo
