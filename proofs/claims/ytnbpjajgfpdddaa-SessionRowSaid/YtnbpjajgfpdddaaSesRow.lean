/- SessionRow's walk. -/
import Derived.Test.YtnbpjajgfpdddaaStEq
namespace Go.Proofs.Ytnbpjajgfpdddaa
open Go.RowKit
def LF : LSt := ⟨0, 0, 0, 0, 1, 3, n32, 0, 0, [], false, LMan.zero⟩
def GM (v : Nat) : LMan := ⟨1, v, 3, 2, 0, n32⟩
theorem firstS (w : World) : Calls Try.prog 29 #[] w (RetS LF w) := by
  refine (first_any w).mono fun e w' ⟨A, c, he, r, hb⟩ => ⟨_, he, Lib.hid ⟨A, c, none, 0, none, 0, rfl, ?_, .nil _ _ _, .nil _ _ _⟩, hb⟩
  show RowP w' _ A n32.length (bv n32)
  rw [n32_length]
  exact r.out
def RetM (M : LMan) (w : World) (e : Ending) (w' : World) : Prop := ∃ ms, e = .returned (.agg ms) ∧ Hid (IsMan w' (fun b => w.heap.size ≤ b) ms M) ∧ Hid (Below w.heap.size w w')
theorem goodS (v : Nat) (w : World) : Calls Try.prog 30 #[.int .u32 (v : Int)] w (RetM (GM v) w) := by
  refine (good_any v w).mono fun e w' ⟨A, c, he, r, hb⟩ => ⟨_, he, Lib.hid ⟨A, c, rfl, ?_⟩, hb⟩
  show RowP w' _ A n32.length (bv n32)
  rw [n32_length]
  exact r.out
theorem GM_may (v : Nat) : (GM v).may = true := by
  show manB 3 2 0 n32.length = true
  rw [n32_length]; decide
theorem wpList_store_in {P : Program} {ops : Array Oper} {rest : List Oper} {o : Oper} {a : Act} {w : World} {Q : Exit → Act → World → Prop} (hgd : o.guard = none) (hd : o.dst = none) (ty : TypeId) (x y : Operand) (ho : o.op = .store ty x y)
    (g : Nat) (cells : Array Value) (hx : a.eval x = .pointer (some ⟨g, 0, none⟩)) (hy : a.eval y = .agg cells)
    (t : TypeId) (old : Array Value) (hg : w.heap[g]? = some (.cells old t (0, 0))) (hi : (P.info? ty).map (·.size) = some cells.size) (hold : old.size = cells.size) (h1 : cells.all (·.oneCell') = true)
    (h : wpList P ops Q rest a (w.setRow g cells)) : wpList P ops Q (o :: rest) a w :=
  wpList_store_row hgd ty x y ho g cells hx hy t old hg hi hold h1 (by rw [hd]; exact h)
/-- between two rounds: of a device that is not on trial -/
structure RInv (L : LSt) (top k : Nat) : Prop where
  may : L.may = true
  tr : L.trial = 0
  act : L.act = 0
  flo : L.flo = 0
  v0 : L.v0 = 1
  gen : L.gen ≤ k
  tp : 1 ≤ top
  on : L.on = true → L.m = GM top
  off : L.on = false → top = 1
theorem LF_may : LF.may = true := by unfold LF LSt.may LMan.zero; decide
theorem RInv.start : RInv LF 1 0 := ⟨LF_may, rfl, rfl, rfl, rfl, Nat.le_refl _, Nat.le_refl _, fun h => absurd h (by decide), fun _ => rfl⟩
section
variable {L : LSt} {top k v : Nat}
theorem RInv.dup (h : RInv L top k) (ho : L.on = true) (hv : v = top) : L.admitR (GM v) = 8 := by
  unfold LSt.admitR
  rw [if_neg (by simp [h.may, GM_may]), if_neg (by simp [h.tr]), if_pos]
  rw [ho, h.on ho, hv]
  simp [LMan.eqb]
theorem RInv.old (h : RInv L top k) (hv : v ≤ top) (hn : ¬ (L.on = true ∧ v = top)) : L.admitR (GM v) = 6 := by
  unfold LSt.admitR
  have hne : ¬ (L.on && L.m.eqb (GM v)) = true := by
    intro hx
    rw [Bool.and_eq_true] at hx
    have e := hx.2
    rw [h.on hx.1] at e
    simp only [LMan.eqb, GM, decide_eq_true_eq] at e
    exact hn ⟨hx.1, e.2.1.symm⟩
  have hold : L.newer v = false := by
    cases hx : L.newer v with
    | false => rfl
    | true =>
      exfalso
      obtain ⟨n1, n2, n3⟩ := newer_parts hx
      rw [if_pos h.act, h.v0] at n2
      cases ho : L.on with
      | false => have := h.off ho; omega
      | true =>
        have := n3 ho
        rw [h.on ho] at this
        have : top < v := this
        omega
  rw [if_neg (by simp [h.may, GM_may]), if_neg (by simp [h.tr]), if_neg hne, if_pos (show L.newer (GM v).v = false from hold)]
theorem RInv.new (h : RInv L top k) (hk : k ≤ 60) (hv : top < v) : L.admitR (GM v) = 0 ∧ RInv (L.admitted (GM v)) v (k + 1) := by
  have ht := h.tp
  have hg := h.gen
  have hn : L.newer v = true := newer_of h.may (by rw [h.flo]; omega) (by rw [if_pos h.act, h.v0]; omega) (fun ho => by rw [h.on ho]; exact hv)
  have hne : ¬ (L.on && L.m.eqb (GM v)) = true := by
    intro hx
    rw [Bool.and_eq_true] at hx
    have e := hx.2
    rw [h.on hx.1] at e
    simp only [LMan.eqb, GM, decide_eq_true_eq] at e
    omega
  refine ⟨?_, may_man h.may (GM_may v) _, h.tr, h.act, h.flo, h.v0, by show L.gen + 1 ≤ k + 1; omega, by omega, fun _ => rfl, fun hx => Bool.noConfusion (show true = false from hx)⟩
  unfold LSt.admitR
  rw [if_neg (by simp [h.may, GM_may]), if_neg (by simp [h.tr]), if_neg hne, if_neg (by show ¬ L.newer v = false; simp [hn]), if_neg (by omega)]
theorem trial_no (hm : L.may = true) (ht : L.trial = 1) : L.admitR (GM v) = 12 := by
  unfold LSt.admitR
  rw [if_neg (by simp [hm, GM_may]), if_pos (by rw [ht]; decide)]
end
def LT : LSt := { LF with trial := 1, v1 := 1, l1 := 3, h1 := n32 }
theorem LT_may : LT.may = true ∧ LT.trial = 1 := ⟨by unfold LT LF LSt.may LMan.zero; decide, rfl⟩
/-- the state's box, between two rounds -/
def BoxAt (w : World) (g5 : Nat) (cs : Array Value) (L : LSt) (wr : World) : Prop := wr.heap[g5]? = some (.cells cs 30 (0, 0)) ∧ IsSt wr (fun b => b ≠ g5) cs L ∧ Below w.heap.size w wr
theorem BoxAt.below {w wr w' : World} {g5 : Nat} {cs : Array Value} {L : LSt} (h : BoxAt w g5 cs L wr) (hb : Below wr.heap.size wr w') : BoxAt w g5 cs L w' :=
  ⟨(hb.block _ (Array.getElem?_eq_some_iff.1 h.1).1).trans h.1, h.2.1.below hb, h.2.2.trans (hb.mono h.2.2.size)⟩
set_option maxRecDepth 100000 in
set_option maxHeartbeats 3200000 in
theorem row_f (A : Option Addr) (n cap : Nat) (us : List Nat) (w : World) (hn : n ≤ 60) (hu : ∀ i, i < n → ∃ b o, A = some ⟨b, o, none⟩ ∧ b < w.heap.size ∧ w.cell? ⟨b, o + i, none⟩ = some (.int .u32 ((us.getD i 0 : Nat) : Int)) ∧ us.getD i 0 < 4294967296) :
    Calls Try.prog 10 #[.slice A n cap, .bool false] w fun e w' => e = .returned (.bool true) ∧ Below w.heap.size w w' := by
  have HU := Lib.hid hu
  clear hu
  go_enter Try.func10, Try.ntmps10
  go_wp2_with fail
  refine (firstS w).mono ?_
  rintro e w1 ⟨cs, rfl, hs, hb⟩
  have I1 := Lib.hid hs.out.inf
  have O1 := Lib.hid hs.out.one
  have Z1 : Hid (17 = cs.size) := Lib.hid hs.out.size.symm
  have hba : Below w1.heap.size w1 (w1.alloc (.cells cs 30)) := (Below.refl _ _).alloc (Nat.le_refl _) _
  have HA : Hid (BoxAt w w1.heap.size cs LF (w1.alloc (.cells cs 30))) := Lib.hid ⟨heap_alloc_new _ _, (hs.out.imp (P' := fun b => b ≠ w1.heap.size) (fun b h _ => Nat.ne_of_lt h)).below hba, hb.out.trans (hba.mono hb.out.size)⟩
  have W5 : Hid (w.heap.size ≤ w1.heap.size) := Lib.hid hb.out.size
  clear hs hb hba
  go_upto_region 6 with ((with_reducible show wpList _ _ _ _ _ _); refine wpList_store_new rfl rfl _ (.tmp 5) (.tmp 16) rfl _ _ cs _ rfl rfl I1.out Z1.out O1.out ?_)
  obtain ⟨g5, hg5⟩ : ∃ g, w1.heap.size = g := ⟨_, rfl⟩
  rw [hg5] at HA W5 ⊢
  generalize w1.alloc (.cells cs 30) = wA at *
  clear hg5 O1 Z1
  have HI : Hid (RInv LF 1 0) := Lib.hid RInv.start
  go_wp2_with fail
  go_loopw [6, 26] (fun s6 x wr => ∃ k top : Nat, ∃ cs L, k ≤ n ∧ x = .int .i64 k ∧ s6 = .int .u32 (top : Int) ∧ Hid (RInv L top k) ∧ Hid (BoxAt w g5 cs L wr)) (fun _ x _ => n - (intOf x).toNat)
  case atStart => exact ⟨0, 1, cs, LF, Nat.zero_le _, rfl, rfl, HI, HA⟩
  case round =>
    obtain ⟨k, top, cs, L, hk, rfl, rfl, hinv, hbx⟩ := hrel
    clear HA HI
    by_cases hlt : k < n
    · obtain ⟨b, o, rfl, hb, hc, hv⟩ := HU.out k hlt
      obtain ⟨v, hve⟩ : ∃ v, us.getD k 0 = v := ⟨_, rfl⟩
      rw [hve] at hc hv
      have hcr := (hbx.out.2.2.cell (p := ⟨b, o + k, none⟩) hb).trans hc
      have hki : (k : Int) < (n : Int) := by omega
      have hkb : (k : Int) ≤ 60 := by omega
      clear hve hc hv hb
      have HB5 : Hid (∀ W, Below wr.heap.size wr W → W.heap[g5]? = some (.cells cs 30 (0, 0))) := Lib.hid (fun W hW => (hbx.out.below hW).1)
      have HS5 : Hid (∀ W, Below wr.heap.size wr W → IsSt W (fun b => b ≠ g5) cs L) := Lib.hid (fun W hW => (hbx.out.below hW).2.1)
      have INF := Lib.hid hbx.out.2.1.inf
      have L5 : Hid (g5 < wr.heap.size) := Lib.hid (Array.getElem?_eq_some_iff.1 hbx.out.1).1
      have HNX : Hid (RInv L top (k + 1)) := Lib.hid ⟨hinv.out.may, hinv.out.tr, hinv.out.act, hinv.out.flo, hinv.out.v0, Nat.le_succ_of_le hinv.out.gen, hinv.out.tp, hinv.out.on, hinv.out.off⟩
      by_cases hle : v ≤ top
      · cases ho2 : L.on with
        | true =>
          by_cases hvt : v = top
          · have HVT := Lib.hid hvt
            clear hvt
            have HR : Hid (L.admitR (GM v) = 8) := Lib.hid (hinv.out.dup ho2 HVT.out)
            have HNE : Hid ((8 : Int) ≠ 0) := Lib.hid (by decide)
            go_upto_region 10 with fail
            go_cut [10] (fun s10 wx => s10 = .int .i64 8 ∧ Hid (Below wr.heap.size wr wx))
            case first =>
              refine wp_region_noPanic ?_
              refine wp_region_held_drew (S := (fun W => Below (wr.heap.size) wr W)) (by kernel_rfl) (Below.refl _ _).drew (fun hH0 => ?_)
              have hH0 : Below (wr.heap.size) wr wr.drew := hH0
              generalize wr.drew = wd20000 at *
              refine wpAnyH_take (i := 0) (oi := { dst := some 31, op := Op.load 30 (Operand.tmp 5), type := 30, pos := "law.go:62", after := #[], guard := none }) (v := .agg cs) rfl (by kernel_rfl) (by kernel_rfl) (by kernel_rfl) (fun _ _ _ h => h) (yields_row (by rfl) _ _ rfl g5 rfl _ _ _ _ (fun W hW => HB5.out W hW) Try.underlying30 rfl INF.out) hH0 ?tkr20001
              try simp only [Act.put, List.setIfInBounds_toArray, List.set_cons_zero, List.set_cons_succ]
              refine wpAnyH_take (i := 1) (oi := { dst := some 32, op := Op.move (Operand.tmp 8), type := 22, pos := "law.go:62", after := #[], guard := none }) (v := ?tkv20002) rfl (by kernel_rfl) (by kernel_rfl) (by kernel_rfl) (fun _ _ _ h => h) (Or.inl ⟨by rfl, ?tky20002⟩) hH0 ?tkr20002
              case tky20002 => (intro w' hSw; clear hSw; go_simp; try with_reducible rfl)
              try simp only [Act.put, List.setIfInBounds_toArray, List.set_cons_zero, List.set_cons_succ]
              refine wpAnyH_ready (rs := [2, 7]) (by kernel_rfl) (by simp) ?_
              refine AllReadyH.cons (o := { dst := some 33, op := Op.call { callee := Callee.value (Operand.func 30), args := #[Operand.tmp 32], argTypes := #[22] }, type := 28, pos := "law.go:62", after := #[{ on := 1, ground := Ground.data }], guard := none }) rfl (fun K hK => ?_) (AllReadyH.cons (o := { dst := some 9, op := Op.alloc 30, type := 0, pos := "law.go:62", after := #[], guard := none }) rfl (fun K hK => ?_) AllReadyH.nil)
              · go_simp
                refine (goodS v wd20000).mono ?_
                rintro e' wn20003 ⟨mg20003, rfl, MG20003, hbo20003⟩
                have hb20003 := hbo20003.out
                go_simp
                have hS20003 : Below (wr.heap.size) wr wn20003 := (hH0).trans (hb20003.mono (hH0).size)
                refine hK.out _ _ hS20003 (fun hH20003 => ?_)
                have hH20003 : Below (wr.heap.size) wr wn20003 := hH20003
                clear hK K hS20003
                try simp only [Act.put, List.setIfInBounds_toArray, List.set_cons_zero, List.set_cons_succ]
                refine wpAnyH_ready (rs := [3, 7]) (by kernel_rfl) (by simp) ?_
                refine AllReadyH.cons (o := { dst := some 34, op := Op.call { callee := Callee.value (Operand.func 24), args := #[Operand.tmp 31, Operand.tmp 33], argTypes := #[30, 28] }, type := 40, pos := "law.go:62", after := #[{ on := 0, ground := Ground.data }, { on := 2, ground := Ground.data }, { on := 2, ground := Ground.chain }], guard := none }) rfl (fun K hK => ?_) (AllReadyH.cons (o := { dst := some 9, op := Op.alloc 30, type := 0, pos := "law.go:62", after := #[], guard := none }) rfl (fun K hK => ?_) AllReadyH.nil)
                · go_simp
                  refine (admitS_no (HS5.out wn20003 (hH20003)) MG20003.out HR.out HNE.out).mono ?_
                  rintro e' wn20004 ⟨rfl, hb20004⟩
                  go_simp
                  have MG20003_20004 := Lib.hid (MG20003.out.below hb20004)
                  have hS20004 : Below (wr.heap.size) wr wn20004 := (hH20003).trans (hb20004.mono (hH20003).size)
                  refine hK.out _ _ hS20004 (fun hH20004 => ?_)
                  have hH20004 : Below (wr.heap.size) wr wn20004 := hH20004
                  clear hK K hS20004
                  try simp only [Act.put, List.setIfInBounds_toArray, List.set_cons_zero, List.set_cons_succ]
                  refine wpAnyH_take (i := 4) (oi := { dst := some 30, op := Op.move (Operand.tmp 34), type := 40, pos := "law.go:62", after := #[{ on := 3, ground := Ground.data }], guard := none }) (v := ?tkv20005) rfl (by kernel_rfl) (by kernel_rfl) (by kernel_rfl) (fun _ _ _ h => h) (Or.inl ⟨by rfl, ?tky20005⟩) hH20004 ?tkr20005
                  case tky20005 => (intro w' hSw; clear hSw; go_simp; try with_reducible rfl)
                  try simp only [Act.put, List.setIfInBounds_toArray, List.set_cons_zero, List.set_cons_succ]
                  refine wpAnyH_take (i := 5) (oi := { dst := some 35, op := Op.extract (Operand.tmp 30) 0, type := 30, pos := "law.go:62", after := #[{ on := 4, ground := Ground.data }], guard := none }) (v := ?tkv20006) rfl (by kernel_rfl) (by kernel_rfl) (by kernel_rfl) (fun _ _ _ h => h) (Or.inl ⟨by rfl, ?tky20006⟩) hH20004 ?tkr20006
                  case tky20006 => (intro w' hSw; clear hSw; go_simp; try with_reducible rfl)
                  try simp only [Act.put, List.setIfInBounds_toArray, List.set_cons_zero, List.set_cons_succ]
                  refine wpAnyH_take (i := 6) (oi := { dst := some 36, op := Op.extract (Operand.tmp 30) 1, type := 33, pos := "law.go:62", after := #[{ on := 4, ground := Ground.data }, { on := 8, ground := Ground.gcOnly Departure.lateStores }], guard := none }) (v := ?tkv20007) rfl (by kernel_rfl) (by kernel_rfl) (by kernel_rfl) (fun _ _ _ h => h) (Or.inl ⟨by rfl, ?tky20007⟩) hH20004 ?tkr20007
                  case tky20007 => (intro w' hSw; clear hSw; go_simp; try with_reducible rfl)
                  try simp only [Act.put, List.setIfInBounds_toArray, List.set_cons_zero, List.set_cons_succ]
                  refine wpAnyH_ready (rs := [7]) (by kernel_rfl) (by simp) ?_
                  refine AllReadyH.cons (o := { dst := some 9, op := Op.alloc 30, type := 0, pos := "law.go:62", after := #[], guard := none }) rfl (fun K hK => ?_) AllReadyH.nil
                  go_simp
                  have hb20008 : Below wn20004.heap.size wn20004 (wn20004.alloc (.cells #[.int .i64 0, .int .i64 0, .int .u32 0, .int .u32 0, .int .u32 0, .int .i64 0, .slice none 0 0, .int .u32 0, .int .i64 0, .slice none 0 0, .bool false, .int .u32 0, .int .u32 0, .int .i64 0, .int .i64 0, .int .i64 0, .slice none 0 0] 30)) := (Below.refl _ _).alloc (Nat.le_refl _) _
                  have BX20008 : Hid ((wn20004.alloc (.cells #[.int .i64 0, .int .i64 0, .int .u32 0, .int .u32 0, .int .u32 0, .int .i64 0, .slice none 0 0, .int .u32 0, .int .i64 0, .slice none 0 0, .bool false, .int .u32 0, .int .u32 0, .int .i64 0, .int .i64 0, .int .i64 0, .slice none 0 0] 30)).heap[wn20004.heap.size]? = some (.cells #[.int .i64 0, .int .i64 0, .int .u32 0, .int .u32 0, .int .u32 0, .int .i64 0, .slice none 0 0, .int .u32 0, .int .i64 0, .slice none 0 0, .bool false, .int .u32 0, .int .u32 0, .int .i64 0, .int .i64 0, .int .i64 0, .slice none 0 0] 30 (0, 0))) := Lib.hid (heap_alloc_new _ _)
                  have LX20008 : Hid (wn20004.heap.size < (wn20004.alloc (.cells #[.int .i64 0, .int .i64 0, .int .u32 0, .int .u32 0, .int .u32 0, .int .i64 0, .slice none 0 0, .int .u32 0, .int .i64 0, .slice none 0 0, .bool false, .int .u32 0, .int .u32 0, .int .i64 0, .int .i64 0, .int .i64 0, .slice none 0 0] 30)).heap.size) := Lib.hid (by simp)
                  have GE20008 : Hid (wr.heap.size ≤ wn20004.heap.size) := Lib.hid (hH20004).size
                  generalize (wn20004.alloc (.cells #[.int .i64 0, .int .i64 0, .int .u32 0, .int .u32 0, .int .u32 0, .int .i64 0, .slice none 0 0, .int .u32 0, .int .i64 0, .slice none 0 0, .bool false, .int .u32 0, .int .u32 0, .int .i64 0, .int .i64 0, .int .i64 0, .slice none 0 0] 30)) = wn20008 at *
                  have MG20003_20008 := Lib.hid (MG20003_20004.out.below hb20008)
                  have hS20008 : Below (wr.heap.size) wr wn20008 := (hH20004).trans (hb20008.mono (hH20004).size)
                  refine hK.out _ _ hS20008 (fun hH20008 => ?_)
                  have hH20008 : Below (wr.heap.size) wr wn20008 := hH20008
                  clear hK K hS20008
                  try simp only [Act.put, List.setIfInBounds_toArray, List.set_cons_zero, List.set_cons_succ]
                  refine wpAnyH_ready (rs := [8]) (by kernel_rfl) (by simp) ?_
                  refine AllReadyH.cons (o := { dst := none, op := Op.store 30 (Operand.tmp 9) (Operand.tmp 35), type := 0, pos := "law.go:62", after := #[{ on := 7, ground := Ground.data }, { on := 5, ground := Ground.data }, { on := 3, ground := Ground.chain }, { on := 0, ground := Ground.phase }, { on := 1, ground := Ground.phase }, { on := 2, ground := Ground.phase }, { on := 3, ground := Ground.phase }, { on := 4, ground := Ground.phase }, { on := 5, ground := Ground.phase }, { on := 6, ground := Ground.textOnly Departure.lateStores }, { on := 7, ground := Ground.phase }], guard := none }) rfl (fun K hK => ?_) AllReadyH.nil
                  rw [if_pos (by rfl)]
                  refine wp_store_row _ _ _ rfl wn20004.heap.size zState rfl rfl _ _ BX20008.out (by kernel_rfl) (by rfl) (by kernel_rfl) ?_
                  have hS20009 : Below (wr.heap.size) wr (wn20008.setRow wn20004.heap.size zState) := (below_setRow2 (hH20008) GE20008.out _)
                  refine hK.out _ _ hS20009 (fun hH20009 => ?_)
                  have hH20009 : Below (wr.heap.size) wr (wn20008.setRow wn20004.heap.size zState) := hH20009
                  clear hK K hS20009
                  refine wpAnyH_take (i := 9) (oi := { dst := some 10, op := Op.assign (Operand.tmp 36), type := 33, pos := "law.go:62", after := #[{ on := 6, ground := Ground.data }, { on := 8, ground := Ground.chain }, { on := 0, ground := Ground.phase }, { on := 1, ground := Ground.phase }, { on := 2, ground := Ground.phase }, { on := 3, ground := Ground.phase }, { on := 4, ground := Ground.phase }, { on := 5, ground := Ground.phase }, { on := 6, ground := Ground.phase }, { on := 7, ground := Ground.phase }, { on := 8, ground := Ground.phase }], guard := none }) (v := ?tkv20010) rfl (by kernel_rfl) (by kernel_rfl) (by kernel_rfl) (fun _ _ _ h => h) (Or.inl ⟨by rfl, ?tky20010⟩) hH20009 ?tkr20010
                  case tky20010 => (intro w' hSw; clear hSw; go_simp; try with_reducible rfl)
                  try simp only [Act.put, List.setIfInBounds_toArray, List.set_cons_zero, List.set_cons_succ]
                  refine wpAnyH_done (by kernel_rfl) ?_ _
                  refine NoPanic.normal ?_
                  go_wp2_with fail
                  go_meet
                  exact ⟨rfl, Lib.hid (hH20009)⟩
                · go_simp
                  have hb20011 : Below wn20003.heap.size wn20003 (wn20003.alloc (.cells #[.int .i64 0, .int .i64 0, .int .u32 0, .int .u32 0, .int .u32 0, .int .i64 0, .slice none 0 0, .int .u32 0, .int .i64 0, .slice none 0 0, .bool false, .int .u32 0, .int .u32 0, .int .i64 0, .int .i64 0, .int .i64 0, .slice none 0 0] 30)) := (Below.refl _ _).alloc (Nat.le_refl _) _
                  have BX20011 : Hid ((wn20003.alloc (.cells #[.int .i64 0, .int .i64 0, .int .u32 0, .int .u32 0, .int .u32 0, .int .i64 0, .slice none 0 0, .int .u32 0, .int .i64 0, .slice none 0 0, .bool false, .int .u32 0, .int .u32 0, .int .i64 0, .int .i64 0, .int .i64 0, .slice none 0 0] 30)).heap[wn20003.heap.size]? = some (.cells #[.int .i64 0, .int .i64 0, .int .u32 0, .int .u32 0, .int .u32 0, .int .i64 0, .slice none 0 0, .int .u32 0, .int .i64 0, .slice none 0 0, .bool false, .int .u32 0, .int .u32 0, .int .i64 0, .int .i64 0, .int .i64 0, .slice none 0 0] 30 (0, 0))) := Lib.hid (heap_alloc_new _ _)
                  have LX20011 : Hid (wn20003.heap.size < (wn20003.alloc (.cells #[.int .i64 0, .int .i64 0, .int .u32 0, .int .u32 0, .int .u32 0, .int .i64 0, .slice none 0 0, .int .u32 0, .int .i64 0, .slice none 0 0, .bool false, .int .u32 0, .int .u32 0, .int .i64 0, .int .i64 0, .int .i64 0, .slice none 0 0] 30)).heap.size) := Lib.hid (by simp)
                  have GE20011 : Hid (wr.heap.size ≤ wn20003.heap.size) := Lib.hid (hH20003).size
                  generalize (wn20003.alloc (.cells #[.int .i64 0, .int .i64 0, .int .u32 0, .int .u32 0, .int .u32 0, .int .i64 0, .slice none 0 0, .int .u32 0, .int .i64 0, .slice none 0 0, .bool false, .int .u32 0, .int .u32 0, .int .i64 0, .int .i64 0, .int .i64 0, .slice none 0 0] 30)) = wn20011 at *
                  have MG20003_20011 := Lib.hid (MG20003.out.below hb20011)
                  have hS20011 : Below (wr.heap.size) wr wn20011 := (hH20003).trans (hb20011.mono (hH20003).size)
                  refine hK.out _ _ hS20011 (fun hH20011 => ?_)
                  have hH20011 : Below (wr.heap.size) wr wn20011 := hH20011
                  clear hK K hS20011
                  try simp only [Act.put, List.setIfInBounds_toArray, List.set_cons_zero, List.set_cons_succ]
                  refine wpAnyH_ready (rs := [3]) (by kernel_rfl) (by simp) ?_
                  refine AllReadyH.cons (o := { dst := some 34, op := Op.call { callee := Callee.value (Operand.func 24), args := #[Operand.tmp 31, Operand.tmp 33], argTypes := #[30, 28] }, type := 40, pos := "law.go:62", after := #[{ on := 0, ground := Ground.data }, { on := 2, ground := Ground.data }, { on := 2, ground := Ground.chain }], guard := none }) rfl (fun K hK => ?_) AllReadyH.nil
                  go_simp
                  refine (admitS_no (HS5.out wn20011 (hH20011)) MG20003_20011.out HR.out HNE.out).mono ?_
                  rintro e' wn20012 ⟨rfl, hb20012⟩
                  go_simp
                  have MG20003_20012 := Lib.hid (MG20003_20011.out.below hb20012)
                  have BX20011_20012 := Lib.hid ((hb20012.block wn20003.heap.size LX20011.out).trans BX20011.out)
                  have LX20011_20012 := Lib.hid (Nat.lt_of_lt_of_le LX20011.out hb20012.size)
                  have hS20012 : Below (wr.heap.size) wr wn20012 := (hH20011).trans (hb20012.mono (hH20011).size)
                  refine hK.out _ _ hS20012 (fun hH20012 => ?_)
                  have hH20012 : Below (wr.heap.size) wr wn20012 := hH20012
                  clear hK K hS20012
                  try simp only [Act.put, List.setIfInBounds_toArray, List.set_cons_zero, List.set_cons_succ]
                  refine wpAnyH_take (i := 4) (oi := { dst := some 30, op := Op.move (Operand.tmp 34), type := 40, pos := "law.go:62", after := #[{ on := 3, ground := Ground.data }], guard := none }) (v := ?tkv20013) rfl (by kernel_rfl) (by kernel_rfl) (by kernel_rfl) (fun _ _ _ h => h) (Or.inl ⟨by rfl, ?tky20013⟩) hH20012 ?tkr20013
                  case tky20013 => (intro w' hSw; clear hSw; go_simp; try with_reducible rfl)
                  try simp only [Act.put, List.setIfInBounds_toArray, List.set_cons_zero, List.set_cons_succ]
                  refine wpAnyH_take (i := 5) (oi := { dst := some 35, op := Op.extract (Operand.tmp 30) 0, type := 30, pos := "law.go:62", after := #[{ on := 4, ground := Ground.data }], guard := none }) (v := ?tkv20014) rfl (by kernel_rfl) (by kernel_rfl) (by kernel_rfl) (fun _ _ _ h => h) (Or.inl ⟨by rfl, ?tky20014⟩) hH20012 ?tkr20014
                  case tky20014 => (intro w' hSw; clear hSw; go_simp; try with_reducible rfl)
                  try simp only [Act.put, List.setIfInBounds_toArray, List.set_cons_zero, List.set_cons_succ]
                  refine wpAnyH_take (i := 6) (oi := { dst := some 36, op := Op.extract (Operand.tmp 30) 1, type := 33, pos := "law.go:62", after := #[{ on := 4, ground := Ground.data }, { on := 8, ground := Ground.gcOnly Departure.lateStores }], guard := none }) (v := ?tkv20015) rfl (by kernel_rfl) (by kernel_rfl) (by kernel_rfl) (fun _ _ _ h => h) (Or.inl ⟨by rfl, ?tky20015⟩) hH20012 ?tkr20015
                  case tky20015 => (intro w' hSw; clear hSw; go_simp; try with_reducible rfl)
                  try simp only [Act.put, List.setIfInBounds_toArray, List.set_cons_zero, List.set_cons_succ]
                  refine wpAnyH_ready (rs := [8]) (by kernel_rfl) (by simp) ?_
                  refine AllReadyH.cons (o := { dst := none, op := Op.store 30 (Operand.tmp 9) (Operand.tmp 35), type := 0, pos := "law.go:62", after := #[{ on := 7, ground := Ground.data }, { on := 5, ground := Ground.data }, { on := 3, ground := Ground.chain }, { on := 0, ground := Ground.phase }, { on := 1, ground := Ground.phase }, { on := 2, ground := Ground.phase }, { on := 3, ground := Ground.phase }, { on := 4, ground := Ground.phase }, { on := 5, ground := Ground.phase }, { on := 6, ground := Ground.textOnly Departure.lateStores }, { on := 7, ground := Ground.phase }], guard := none }) rfl (fun K hK => ?_) AllReadyH.nil
                  rw [if_pos (by rfl)]
                  refine wp_store_row _ _ _ rfl wn20003.heap.size zState rfl rfl _ _ BX20011_20012.out (by kernel_rfl) (by rfl) (by kernel_rfl) ?_
                  have hS20016 : Below (wr.heap.size) wr (wn20012.setRow wn20003.heap.size zState) := (below_setRow2 (hH20012) GE20011.out _)
                  refine hK.out _ _ hS20016 (fun hH20016 => ?_)
                  have hH20016 : Below (wr.heap.size) wr (wn20012.setRow wn20003.heap.size zState) := hH20016
                  clear hK K hS20016
                  refine wpAnyH_take (i := 9) (oi := { dst := some 10, op := Op.assign (Operand.tmp 36), type := 33, pos := "law.go:62", after := #[{ on := 6, ground := Ground.data }, { on := 8, ground := Ground.chain }, { on := 0, ground := Ground.phase }, { on := 1, ground := Ground.phase }, { on := 2, ground := Ground.phase }, { on := 3, ground := Ground.phase }, { on := 4, ground := Ground.phase }, { on := 5, ground := Ground.phase }, { on := 6, ground := Ground.phase }, { on := 7, ground := Ground.phase }, { on := 8, ground := Ground.phase }], guard := none }) (v := ?tkv20017) rfl (by kernel_rfl) (by kernel_rfl) (by kernel_rfl) (fun _ _ _ h => h) (Or.inl ⟨by rfl, ?tky20017⟩) hH20016 ?tkr20017
                  case tky20017 => (intro w' hSw; clear hSw; go_simp; try with_reducible rfl)
                  try simp only [Act.put, List.setIfInBounds_toArray, List.set_cons_zero, List.set_cons_succ]
                  refine wpAnyH_done (by kernel_rfl) ?_ _
                  refine NoPanic.normal ?_
                  go_wp2_with fail
                  go_meet
                  exact ⟨rfl, Lib.hid (hH20016)⟩
              · go_simp
                have hb20018 : Below wd20000.heap.size wd20000 (wd20000.alloc (.cells #[.int .i64 0, .int .i64 0, .int .u32 0, .int .u32 0, .int .u32 0, .int .i64 0, .slice none 0 0, .int .u32 0, .int .i64 0, .slice none 0 0, .bool false, .int .u32 0, .int .u32 0, .int .i64 0, .int .i64 0, .int .i64 0, .slice none 0 0] 30)) := (Below.refl _ _).alloc (Nat.le_refl _) _
                have BX20018 : Hid ((wd20000.alloc (.cells #[.int .i64 0, .int .i64 0, .int .u32 0, .int .u32 0, .int .u32 0, .int .i64 0, .slice none 0 0, .int .u32 0, .int .i64 0, .slice none 0 0, .bool false, .int .u32 0, .int .u32 0, .int .i64 0, .int .i64 0, .int .i64 0, .slice none 0 0] 30)).heap[wd20000.heap.size]? = some (.cells #[.int .i64 0, .int .i64 0, .int .u32 0, .int .u32 0, .int .u32 0, .int .i64 0, .slice none 0 0, .int .u32 0, .int .i64 0, .slice none 0 0, .bool false, .int .u32 0, .int .u32 0, .int .i64 0, .int .i64 0, .int .i64 0, .slice none 0 0] 30 (0, 0))) := Lib.hid (heap_alloc_new _ _)
                have LX20018 : Hid (wd20000.heap.size < (wd20000.alloc (.cells #[.int .i64 0, .int .i64 0, .int .u32 0, .int .u32 0, .int .u32 0, .int .i64 0, .slice none 0 0, .int .u32 0, .int .i64 0, .slice none 0 0, .bool false, .int .u32 0, .int .u32 0, .int .i64 0, .int .i64 0, .int .i64 0, .slice none 0 0] 30)).heap.size) := Lib.hid (by simp)
                have GE20018 : Hid (wr.heap.size ≤ wd20000.heap.size) := Lib.hid (hH0).size
                generalize (wd20000.alloc (.cells #[.int .i64 0, .int .i64 0, .int .u32 0, .int .u32 0, .int .u32 0, .int .i64 0, .slice none 0 0, .int .u32 0, .int .i64 0, .slice none 0 0, .bool false, .int .u32 0, .int .u32 0, .int .i64 0, .int .i64 0, .int .i64 0, .slice none 0 0] 30)) = wn20018 at *
                have hS20018 : Below (wr.heap.size) wr wn20018 := (hH0).trans (hb20018.mono (hH0).size)
                refine hK.out _ _ hS20018 (fun hH20018 => ?_)
                have hH20018 : Below (wr.heap.size) wr wn20018 := hH20018
                clear hK K hS20018
                try simp only [Act.put, List.setIfInBounds_toArray, List.set_cons_zero, List.set_cons_succ]
                refine wpAnyH_ready (rs := [2]) (by kernel_rfl) (by simp) ?_
                refine AllReadyH.cons (o := { dst := some 33, op := Op.call { callee := Callee.value (Operand.func 30), args := #[Operand.tmp 32], argTypes := #[22] }, type := 28, pos := "law.go:62", after := #[{ on := 1, ground := Ground.data }], guard := none }) rfl (fun K hK => ?_) AllReadyH.nil
                go_simp
                refine (goodS v wn20018).mono ?_
                rintro e' wn20019 ⟨mg20019, rfl, MG20019, hbo20019⟩
                have hb20019 := hbo20019.out
                go_simp
                have BX20018_20019 := Lib.hid ((hb20019.block wd20000.heap.size LX20018.out).trans BX20018.out)
                have LX20018_20019 := Lib.hid (Nat.lt_of_lt_of_le LX20018.out hb20019.size)
                have hS20019 : Below (wr.heap.size) wr wn20019 := (hH20018).trans (hb20019.mono (hH20018).size)
                refine hK.out _ _ hS20019 (fun hH20019 => ?_)
                have hH20019 : Below (wr.heap.size) wr wn20019 := hH20019
                clear hK K hS20019
                try simp only [Act.put, List.setIfInBounds_toArray, List.set_cons_zero, List.set_cons_succ]
                refine wpAnyH_ready (rs := [3]) (by kernel_rfl) (by simp) ?_
                refine AllReadyH.cons (o := { dst := some 34, op := Op.call { callee := Callee.value (Operand.func 24), args := #[Operand.tmp 31, Operand.tmp 33], argTypes := #[30, 28] }, type := 40, pos := "law.go:62", after := #[{ on := 0, ground := Ground.data }, { on := 2, ground := Ground.data }, { on := 2, ground := Ground.chain }], guard := none }) rfl (fun K hK => ?_) AllReadyH.nil
                go_simp
                refine (admitS_no (HS5.out wn20019 (hH20019)) MG20019.out HR.out HNE.out).mono ?_
                rintro e' wn20020 ⟨rfl, hb20020⟩
                go_simp
                have BX20018_20020 := Lib.hid ((hb20020.block wd20000.heap.size LX20018_20019.out).trans BX20018_20019.out)
                have LX20018_20020 := Lib.hid (Nat.lt_of_lt_of_le LX20018_20019.out hb20020.size)
                have MG20019_20020 := Lib.hid (MG20019.out.below hb20020)
                have hS20020 : Below (wr.heap.size) wr wn20020 := (hH20019).trans (hb20020.mono (hH20019).size)
                refine hK.out _ _ hS20020 (fun hH20020 => ?_)
                have hH20020 : Below (wr.heap.size) wr wn20020 := hH20020
                clear hK K hS20020
                try simp only [Act.put, List.setIfInBounds_toArray, List.set_cons_zero, List.set_cons_succ]
                refine wpAnyH_take (i := 4) (oi := { dst := some 30, op := Op.move (Operand.tmp 34), type := 40, pos := "law.go:62", after := #[{ on := 3, ground := Ground.data }], guard := none }) (v := ?tkv20021) rfl (by kernel_rfl) (by kernel_rfl) (by kernel_rfl) (fun _ _ _ h => h) (Or.inl ⟨by rfl, ?tky20021⟩) hH20020 ?tkr20021
                case tky20021 => (intro w' hSw; clear hSw; go_simp; try with_reducible rfl)
                try simp only [Act.put, List.setIfInBounds_toArray, List.set_cons_zero, List.set_cons_succ]
                refine wpAnyH_take (i := 5) (oi := { dst := some 35, op := Op.extract (Operand.tmp 30) 0, type := 30, pos := "law.go:62", after := #[{ on := 4, ground := Ground.data }], guard := none }) (v := ?tkv20022) rfl (by kernel_rfl) (by kernel_rfl) (by kernel_rfl) (fun _ _ _ h => h) (Or.inl ⟨by rfl, ?tky20022⟩) hH20020 ?tkr20022
                case tky20022 => (intro w' hSw; clear hSw; go_simp; try with_reducible rfl)
                try simp only [Act.put, List.setIfInBounds_toArray, List.set_cons_zero, List.set_cons_succ]
                refine wpAnyH_take (i := 6) (oi := { dst := some 36, op := Op.extract (Operand.tmp 30) 1, type := 33, pos := "law.go:62", after := #[{ on := 4, ground := Ground.data }, { on := 8, ground := Ground.gcOnly Departure.lateStores }], guard := none }) (v := ?tkv20023) rfl (by kernel_rfl) (by kernel_rfl) (by kernel_rfl) (fun _ _ _ h => h) (Or.inl ⟨by rfl, ?tky20023⟩) hH20020 ?tkr20023
                case tky20023 => (intro w' hSw; clear hSw; go_simp; try with_reducible rfl)
                try simp only [Act.put, List.setIfInBounds_toArray, List.set_cons_zero, List.set_cons_succ]
                refine wpAnyH_ready (rs := [8]) (by kernel_rfl) (by simp) ?_
                refine AllReadyH.cons (o := { dst := none, op := Op.store 30 (Operand.tmp 9) (Operand.tmp 35), type := 0, pos := "law.go:62", after := #[{ on := 7, ground := Ground.data }, { on := 5, ground := Ground.data }, { on := 3, ground := Ground.chain }, { on := 0, ground := Ground.phase }, { on := 1, ground := Ground.phase }, { on := 2, ground := Ground.phase }, { on := 3, ground := Ground.phase }, { on := 4, ground := Ground.phase }, { on := 5, ground := Ground.phase }, { on := 6, ground := Ground.textOnly Departure.lateStores }, { on := 7, ground := Ground.phase }], guard := none }) rfl (fun K hK => ?_) AllReadyH.nil
                rw [if_pos (by rfl)]
                refine wp_store_row _ _ _ rfl wd20000.heap.size zState rfl rfl _ _ BX20018_20020.out (by kernel_rfl) (by rfl) (by kernel_rfl) ?_
                have hS20024 : Below (wr.heap.size) wr (wn20020.setRow wd20000.heap.size zState) := (below_setRow2 (hH20020) GE20018.out _)
                refine hK.out _ _ hS20024 (fun hH20024 => ?_)
                have hH20024 : Below (wr.heap.size) wr (wn20020.setRow wd20000.heap.size zState) := hH20024
                clear hK K hS20024
                refine wpAnyH_take (i := 9) (oi := { dst := some 10, op := Op.assign (Operand.tmp 36), type := 33, pos := "law.go:62", after := #[{ on := 6, ground := Ground.data }, { on := 8, ground := Ground.chain }, { on := 0, ground := Ground.phase }, { on := 1, ground := Ground.phase }, { on := 2, ground := Ground.phase }, { on := 3, ground := Ground.phase }, { on := 4, ground := Ground.phase }, { on := 5, ground := Ground.phase }, { on := 6, ground := Ground.phase }, { on := 7, ground := Ground.phase }, { on := 8, ground := Ground.phase }], guard := none }) (v := ?tkv20025) rfl (by kernel_rfl) (by kernel_rfl) (by kernel_rfl) (fun _ _ _ h => h) (Or.inl ⟨by rfl, ?tky20025⟩) hH20024 ?tkr20025
                case tky20025 => (intro w' hSw; clear hSw; go_simp; try with_reducible rfl)
                try simp only [Act.put, List.setIfInBounds_toArray, List.set_cons_zero, List.set_cons_succ]
                refine wpAnyH_done (by kernel_rfl) ?_ _
                refine NoPanic.normal ?_
                go_wp2_with fail
                go_meet
                exact ⟨rfl, Lib.hid (hH20024)⟩
            case rest =>
              obtain ⟨rfl, hbe⟩ := hcut
              have HX := Lib.hid (hbx.out.below hbe.out)
              have ho : wc.cell? ⟨g5, 10, none⟩ = some (.bool L.on) := (cell_of_row wc g5 10 cs _ (0, 0) HX.out.1).trans HX.out.2.1.c10
              have q1 : ((v : Int) == (top : Int)) = true := by have := HVT.out; simp; omega
              rw [ho2] at ho
              clear hbe HR HNE
              go_wp2_with fail
              go_roundw
              case rel => exact ⟨k + 1, top, cs, L, by omega, by go_num, rfl, HNX, HX⟩
              case measure => simp [intOf]; omega
          · skip
            have HR : Hid (L.admitR (GM v) = 6) := Lib.hid (hinv.out.old (by omega) (fun h => hvt h.2))
            have HNE : Hid ((6 : Int) ≠ 0) := Lib.hid (by decide)
            go_upto_region 10 with fail
            go_cut [10] (fun s10 wx => s10 = .int .i64 6 ∧ Hid (Below wr.heap.size wr wx))
            case first =>
              refine wp_region_noPanic ?_
              refine wp_region_held_drew (S := (fun W => Below (wr.heap.size) wr W)) (by kernel_rfl) (Below.refl _ _).drew (fun hH0 => ?_)
              have hH0 : Below (wr.heap.size) wr wr.drew := hH0
              generalize wr.drew = wd21000 at *
              refine wpAnyH_take (i := 0) (oi := { dst := some 31, op := Op.load 30 (Operand.tmp 5), type := 30, pos := "law.go:62", after := #[], guard := none }) (v := .agg cs) rfl (by kernel_rfl) (by kernel_rfl) (by kernel_rfl) (fun _ _ _ h => h) (yields_row (by rfl) _ _ rfl g5 rfl _ _ _ _ (fun W hW => HB5.out W hW) Try.underlying30 rfl INF.out) hH0 ?tkr21001
              try simp only [Act.put, List.setIfInBounds_toArray, List.set_cons_zero, List.set_cons_succ]
              refine wpAnyH_take (i := 1) (oi := { dst := some 32, op := Op.move (Operand.tmp 8), type := 22, pos := "law.go:62", after := #[], guard := none }) (v := ?tkv21002) rfl (by kernel_rfl) (by kernel_rfl) (by kernel_rfl) (fun _ _ _ h => h) (Or.inl ⟨by rfl, ?tky21002⟩) hH0 ?tkr21002
              case tky21002 => (intro w' hSw; clear hSw; go_simp; try with_reducible rfl)
              try simp only [Act.put, List.setIfInBounds_toArray, List.set_cons_zero, List.set_cons_succ]
              refine wpAnyH_ready (rs := [2, 7]) (by kernel_rfl) (by simp) ?_
              refine AllReadyH.cons (o := { dst := some 33, op := Op.call { callee := Callee.value (Operand.func 30), args := #[Operand.tmp 32], argTypes := #[22] }, type := 28, pos := "law.go:62", after := #[{ on := 1, ground := Ground.data }], guard := none }) rfl (fun K hK => ?_) (AllReadyH.cons (o := { dst := some 9, op := Op.alloc 30, type := 0, pos := "law.go:62", after := #[], guard := none }) rfl (fun K hK => ?_) AllReadyH.nil)
              · go_simp
                refine (goodS v wd21000).mono ?_
                rintro e' wn21003 ⟨mg21003, rfl, MG21003, hbo21003⟩
                have hb21003 := hbo21003.out
                go_simp
                have hS21003 : Below (wr.heap.size) wr wn21003 := (hH0).trans (hb21003.mono (hH0).size)
                refine hK.out _ _ hS21003 (fun hH21003 => ?_)
                have hH21003 : Below (wr.heap.size) wr wn21003 := hH21003
                clear hK K hS21003
                try simp only [Act.put, List.setIfInBounds_toArray, List.set_cons_zero, List.set_cons_succ]
                refine wpAnyH_ready (rs := [3, 7]) (by kernel_rfl) (by simp) ?_
                refine AllReadyH.cons (o := { dst := some 34, op := Op.call { callee := Callee.value (Operand.func 24), args := #[Operand.tmp 31, Operand.tmp 33], argTypes := #[30, 28] }, type := 40, pos := "law.go:62", after := #[{ on := 0, ground := Ground.data }, { on := 2, ground := Ground.data }, { on := 2, ground := Ground.chain }], guard := none }) rfl (fun K hK => ?_) (AllReadyH.cons (o := { dst := some 9, op := Op.alloc 30, type := 0, pos := "law.go:62", after := #[], guard := none }) rfl (fun K hK => ?_) AllReadyH.nil)
                · go_simp
                  refine (admitS_no (HS5.out wn21003 (hH21003)) MG21003.out HR.out HNE.out).mono ?_
                  rintro e' wn21004 ⟨rfl, hb21004⟩
                  go_simp
                  have MG21003_21004 := Lib.hid (MG21003.out.below hb21004)
                  have hS21004 : Below (wr.heap.size) wr wn21004 := (hH21003).trans (hb21004.mono (hH21003).size)
                  refine hK.out _ _ hS21004 (fun hH21004 => ?_)
                  have hH21004 : Below (wr.heap.size) wr wn21004 := hH21004
                  clear hK K hS21004
                  try simp only [Act.put, List.setIfInBounds_toArray, List.set_cons_zero, List.set_cons_succ]
                  refine wpAnyH_take (i := 4) (oi := { dst := some 30, op := Op.move (Operand.tmp 34), type := 40, pos := "law.go:62", after := #[{ on := 3, ground := Ground.data }], guard := none }) (v := ?tkv21005) rfl (by kernel_rfl) (by kernel_rfl) (by kernel_rfl) (fun _ _ _ h => h) (Or.inl ⟨by rfl, ?tky21005⟩) hH21004 ?tkr21005
                  case tky21005 => (intro w' hSw; clear hSw; go_simp; try with_reducible rfl)
                  try simp only [Act.put, List.setIfInBounds_toArray, List.set_cons_zero, List.set_cons_succ]
                  refine wpAnyH_take (i := 5) (oi := { dst := some 35, op := Op.extract (Operand.tmp 30) 0, type := 30, pos := "law.go:62", after := #[{ on := 4, ground := Ground.data }], guard := none }) (v := ?tkv21006) rfl (by kernel_rfl) (by kernel_rfl) (by kernel_rfl) (fun _ _ _ h => h) (Or.inl ⟨by rfl, ?tky21006⟩) hH21004 ?tkr21006
                  case tky21006 => (intro w' hSw; clear hSw; go_simp; try with_reducible rfl)
                  try simp only [Act.put, List.setIfInBounds_toArray, List.set_cons_zero, List.set_cons_succ]
                  refine wpAnyH_take (i := 6) (oi := { dst := some 36, op := Op.extract (Operand.tmp 30) 1, type := 33, pos := "law.go:62", after := #[{ on := 4, ground := Ground.data }, { on := 8, ground := Ground.gcOnly Departure.lateStores }], guard := none }) (v := ?tkv21007) rfl (by kernel_rfl) (by kernel_rfl) (by kernel_rfl) (fun _ _ _ h => h) (Or.inl ⟨by rfl, ?tky21007⟩) hH21004 ?tkr21007
                  case tky21007 => (intro w' hSw; clear hSw; go_simp; try with_reducible rfl)
                  try simp only [Act.put, List.setIfInBounds_toArray, List.set_cons_zero, List.set_cons_succ]
                  refine wpAnyH_ready (rs := [7]) (by kernel_rfl) (by simp) ?_
                  refine AllReadyH.cons (o := { dst := some 9, op := Op.alloc 30, type := 0, pos := "law.go:62", after := #[], guard := none }) rfl (fun K hK => ?_) AllReadyH.nil
                  go_simp
                  have hb21008 : Below wn21004.heap.size wn21004 (wn21004.alloc (.cells #[.int .i64 0, .int .i64 0, .int .u32 0, .int .u32 0, .int .u32 0, .int .i64 0, .slice none 0 0, .int .u32 0, .int .i64 0, .slice none 0 0, .bool false, .int .u32 0, .int .u32 0, .int .i64 0, .int .i64 0, .int .i64 0, .slice none 0 0] 30)) := (Below.refl _ _).alloc (Nat.le_refl _) _
                  have BX21008 : Hid ((wn21004.alloc (.cells #[.int .i64 0, .int .i64 0, .int .u32 0, .int .u32 0, .int .u32 0, .int .i64 0, .slice none 0 0, .int .u32 0, .int .i64 0, .slice none 0 0, .bool false, .int .u32 0, .int .u32 0, .int .i64 0, .int .i64 0, .int .i64 0, .slice none 0 0] 30)).heap[wn21004.heap.size]? = some (.cells #[.int .i64 0, .int .i64 0, .int .u32 0, .int .u32 0, .int .u32 0, .int .i64 0, .slice none 0 0, .int .u32 0, .int .i64 0, .slice none 0 0, .bool false, .int .u32 0, .int .u32 0, .int .i64 0, .int .i64 0, .int .i64 0, .slice none 0 0] 30 (0, 0))) := Lib.hid (heap_alloc_new _ _)
                  have LX21008 : Hid (wn21004.heap.size < (wn21004.alloc (.cells #[.int .i64 0, .int .i64 0, .int .u32 0, .int .u32 0, .int .u32 0, .int .i64 0, .slice none 0 0, .int .u32 0, .int .i64 0, .slice none 0 0, .bool false, .int .u32 0, .int .u32 0, .int .i64 0, .int .i64 0, .int .i64 0, .slice none 0 0] 30)).heap.size) := Lib.hid (by simp)
                  have GE21008 : Hid (wr.heap.size ≤ wn21004.heap.size) := Lib.hid (hH21004).size
                  generalize (wn21004.alloc (.cells #[.int .i64 0, .int .i64 0, .int .u32 0, .int .u32 0, .int .u32 0, .int .i64 0, .slice none 0 0, .int .u32 0, .int .i64 0, .slice none 0 0, .bool false, .int .u32 0, .int .u32 0, .int .i64 0, .int .i64 0, .int .i64 0, .slice none 0 0] 30)) = wn21008 at *
                  have MG21003_21008 := Lib.hid (MG21003_21004.out.below hb21008)
                  have hS21008 : Below (wr.heap.size) wr wn21008 := (hH21004).trans (hb21008.mono (hH21004).size)
                  refine hK.out _ _ hS21008 (fun hH21008 => ?_)
                  have hH21008 : Below (wr.heap.size) wr wn21008 := hH21008
                  clear hK K hS21008
                  try simp only [Act.put, List.setIfInBounds_toArray, List.set_cons_zero, List.set_cons_succ]
                  refine wpAnyH_ready (rs := [8]) (by kernel_rfl) (by simp) ?_
                  refine AllReadyH.cons (o := { dst := none, op := Op.store 30 (Operand.tmp 9) (Operand.tmp 35), type := 0, pos := "law.go:62", after := #[{ on := 7, ground := Ground.data }, { on := 5, ground := Ground.data }, { on := 3, ground := Ground.chain }, { on := 0, ground := Ground.phase }, { on := 1, ground := Ground.phase }, { on := 2, ground := Ground.phase }, { on := 3, ground := Ground.phase }, { on := 4, ground := Ground.phase }, { on := 5, ground := Ground.phase }, { on := 6, ground := Ground.textOnly Departure.lateStores }, { on := 7, ground := Ground.phase }], guard := none }) rfl (fun K hK => ?_) AllReadyH.nil
                  rw [if_pos (by rfl)]
                  refine wp_store_row _ _ _ rfl wn21004.heap.size zState rfl rfl _ _ BX21008.out (by kernel_rfl) (by rfl) (by kernel_rfl) ?_
                  have hS21009 : Below (wr.heap.size) wr (wn21008.setRow wn21004.heap.size zState) := (below_setRow2 (hH21008) GE21008.out _)
                  refine hK.out _ _ hS21009 (fun hH21009 => ?_)
                  have hH21009 : Below (wr.heap.size) wr (wn21008.setRow wn21004.heap.size zState) := hH21009
                  clear hK K hS21009
                  refine wpAnyH_take (i := 9) (oi := { dst := some 10, op := Op.assign (Operand.tmp 36), type := 33, pos := "law.go:62", after := #[{ on := 6, ground := Ground.data }, { on := 8, ground := Ground.chain }, { on := 0, ground := Ground.phase }, { on := 1, ground := Ground.phase }, { on := 2, ground := Ground.phase }, { on := 3, ground := Ground.phase }, { on := 4, ground := Ground.phase }, { on := 5, ground := Ground.phase }, { on := 6, ground := Ground.phase }, { on := 7, ground := Ground.phase }, { on := 8, ground := Ground.phase }], guard := none }) (v := ?tkv21010) rfl (by kernel_rfl) (by kernel_rfl) (by kernel_rfl) (fun _ _ _ h => h) (Or.inl ⟨by rfl, ?tky21010⟩) hH21009 ?tkr21010
                  case tky21010 => (intro w' hSw; clear hSw; go_simp; try with_reducible rfl)
                  try simp only [Act.put, List.setIfInBounds_toArray, List.set_cons_zero, List.set_cons_succ]
                  refine wpAnyH_done (by kernel_rfl) ?_ _
                  refine NoPanic.normal ?_
                  go_wp2_with fail
                  go_meet
                  exact ⟨rfl, Lib.hid (hH21009)⟩
                · go_simp
                  have hb21011 : Below wn21003.heap.size wn21003 (wn21003.alloc (.cells #[.int .i64 0, .int .i64 0, .int .u32 0, .int .u32 0, .int .u32 0, .int .i64 0, .slice none 0 0, .int .u32 0, .int .i64 0, .slice none 0 0, .bool false, .int .u32 0, .int .u32 0, .int .i64 0, .int .i64 0, .int .i64 0, .slice none 0 0] 30)) := (Below.refl _ _).alloc (Nat.le_refl _) _
                  have BX21011 : Hid ((wn21003.alloc (.cells #[.int .i64 0, .int .i64 0, .int .u32 0, .int .u32 0, .int .u32 0, .int .i64 0, .slice none 0 0, .int .u32 0, .int .i64 0, .slice none 0 0, .bool false, .int .u32 0, .int .u32 0, .int .i64 0, .int .i64 0, .int .i64 0, .slice none 0 0] 30)).heap[wn21003.heap.size]? = some (.cells #[.int .i64 0, .int .i64 0, .int .u32 0, .int .u32 0, .int .u32 0, .int .i64 0, .slice none 0 0, .int .u32 0, .int .i64 0, .slice none 0 0, .bool false, .int .u32 0, .int .u32 0, .int .i64 0, .int .i64 0, .int .i64 0, .slice none 0 0] 30 (0, 0))) := Lib.hid (heap_alloc_new _ _)
                  have LX21011 : Hid (wn21003.heap.size < (wn21003.alloc (.cells #[.int .i64 0, .int .i64 0, .int .u32 0, .int .u32 0, .int .u32 0, .int .i64 0, .slice none 0 0, .int .u32 0, .int .i64 0, .slice none 0 0, .bool false, .int .u32 0, .int .u32 0, .int .i64 0, .int .i64 0, .int .i64 0, .slice none 0 0] 30)).heap.size) := Lib.hid (by simp)
                  have GE21011 : Hid (wr.heap.size ≤ wn21003.heap.size) := Lib.hid (hH21003).size
                  generalize (wn21003.alloc (.cells #[.int .i64 0, .int .i64 0, .int .u32 0, .int .u32 0, .int .u32 0, .int .i64 0, .slice none 0 0, .int .u32 0, .int .i64 0, .slice none 0 0, .bool false, .int .u32 0, .int .u32 0, .int .i64 0, .int .i64 0, .int .i64 0, .slice none 0 0] 30)) = wn21011 at *
                  have MG21003_21011 := Lib.hid (MG21003.out.below hb21011)
                  have hS21011 : Below (wr.heap.size) wr wn21011 := (hH21003).trans (hb21011.mono (hH21003).size)
                  refine hK.out _ _ hS21011 (fun hH21011 => ?_)
                  have hH21011 : Below (wr.heap.size) wr wn21011 := hH21011
                  clear hK K hS21011
                  try simp only [Act.put, List.setIfInBounds_toArray, List.set_cons_zero, List.set_cons_succ]
                  refine wpAnyH_ready (rs := [3]) (by kernel_rfl) (by simp) ?_
                  refine AllReadyH.cons (o := { dst := some 34, op := Op.call { callee := Callee.value (Operand.func 24), args := #[Operand.tmp 31, Operand.tmp 33], argTypes := #[30, 28] }, type := 40, pos := "law.go:62", after := #[{ on := 0, ground := Ground.data }, { on := 2, ground := Ground.data }, { on := 2, ground := Ground.chain }], guard := none }) rfl (fun K hK => ?_) AllReadyH.nil
                  go_simp
                  refine (admitS_no (HS5.out wn21011 (hH21011)) MG21003_21011.out HR.out HNE.out).mono ?_
                  rintro e' wn21012 ⟨rfl, hb21012⟩
                  go_simp
                  have MG21003_21012 := Lib.hid (MG21003_21011.out.below hb21012)
                  have BX21011_21012 := Lib.hid ((hb21012.block wn21003.heap.size LX21011.out).trans BX21011.out)
                  have LX21011_21012 := Lib.hid (Nat.lt_of_lt_of_le LX21011.out hb21012.size)
                  have hS21012 : Below (wr.heap.size) wr wn21012 := (hH21011).trans (hb21012.mono (hH21011).size)
                  refine hK.out _ _ hS21012 (fun hH21012 => ?_)
                  have hH21012 : Below (wr.heap.size) wr wn21012 := hH21012
                  clear hK K hS21012
                  try simp only [Act.put, List.setIfInBounds_toArray, List.set_cons_zero, List.set_cons_succ]
                  refine wpAnyH_take (i := 4) (oi := { dst := some 30, op := Op.move (Operand.tmp 34), type := 40, pos := "law.go:62", after := #[{ on := 3, ground := Ground.data }], guard := none }) (v := ?tkv21013) rfl (by kernel_rfl) (by kernel_rfl) (by kernel_rfl) (fun _ _ _ h => h) (Or.inl ⟨by rfl, ?tky21013⟩) hH21012 ?tkr21013
                  case tky21013 => (intro w' hSw; clear hSw; go_simp; try with_reducible rfl)
                  try simp only [Act.put, List.setIfInBounds_toArray, List.set_cons_zero, List.set_cons_succ]
                  refine wpAnyH_take (i := 5) (oi := { dst := some 35, op := Op.extract (Operand.tmp 30) 0, type := 30, pos := "law.go:62", after := #[{ on := 4, ground := Ground.data }], guard := none }) (v := ?tkv21014) rfl (by kernel_rfl) (by kernel_rfl) (by kernel_rfl) (fun _ _ _ h => h) (Or.inl ⟨by rfl, ?tky21014⟩) hH21012 ?tkr21014
                  case tky21014 => (intro w' hSw; clear hSw; go_simp; try with_reducible rfl)
                  try simp only [Act.put, List.setIfInBounds_toArray, List.set_cons_zero, List.set_cons_succ]
                  refine wpAnyH_take (i := 6) (oi := { dst := some 36, op := Op.extract (Operand.tmp 30) 1, type := 33, pos := "law.go:62", after := #[{ on := 4, ground := Ground.data }, { on := 8, ground := Ground.gcOnly Departure.lateStores }], guard := none }) (v := ?tkv21015) rfl (by kernel_rfl) (by kernel_rfl) (by kernel_rfl) (fun _ _ _ h => h) (Or.inl ⟨by rfl, ?tky21015⟩) hH21012 ?tkr21015
                  case tky21015 => (intro w' hSw; clear hSw; go_simp; try with_reducible rfl)
                  try simp only [Act.put, List.setIfInBounds_toArray, List.set_cons_zero, List.set_cons_succ]
                  refine wpAnyH_ready (rs := [8]) (by kernel_rfl) (by simp) ?_
                  refine AllReadyH.cons (o := { dst := none, op := Op.store 30 (Operand.tmp 9) (Operand.tmp 35), type := 0, pos := "law.go:62", after := #[{ on := 7, ground := Ground.data }, { on := 5, ground := Ground.data }, { on := 3, ground := Ground.chain }, { on := 0, ground := Ground.phase }, { on := 1, ground := Ground.phase }, { on := 2, ground := Ground.phase }, { on := 3, ground := Ground.phase }, { on := 4, ground := Ground.phase }, { on := 5, ground := Ground.phase }, { on := 6, ground := Ground.textOnly Departure.lateStores }, { on := 7, ground := Ground.phase }], guard := none }) rfl (fun K hK => ?_) AllReadyH.nil
                  rw [if_pos (by rfl)]
                  refine wp_store_row _ _ _ rfl wn21003.heap.size zState rfl rfl _ _ BX21011_21012.out (by kernel_rfl) (by rfl) (by kernel_rfl) ?_
                  have hS21016 : Below (wr.heap.size) wr (wn21012.setRow wn21003.heap.size zState) := (below_setRow2 (hH21012) GE21011.out _)
                  refine hK.out _ _ hS21016 (fun hH21016 => ?_)
                  have hH21016 : Below (wr.heap.size) wr (wn21012.setRow wn21003.heap.size zState) := hH21016
                  clear hK K hS21016
                  refine wpAnyH_take (i := 9) (oi := { dst := some 10, op := Op.assign (Operand.tmp 36), type := 33, pos := "law.go:62", after := #[{ on := 6, ground := Ground.data }, { on := 8, ground := Ground.chain }, { on := 0, ground := Ground.phase }, { on := 1, ground := Ground.phase }, { on := 2, ground := Ground.phase }, { on := 3, ground := Ground.phase }, { on := 4, ground := Ground.phase }, { on := 5, ground := Ground.phase }, { on := 6, ground := Ground.phase }, { on := 7, ground := Ground.phase }, { on := 8, ground := Ground.phase }], guard := none }) (v := ?tkv21017) rfl (by kernel_rfl) (by kernel_rfl) (by kernel_rfl) (fun _ _ _ h => h) (Or.inl ⟨by rfl, ?tky21017⟩) hH21016 ?tkr21017
                  case tky21017 => (intro w' hSw; clear hSw; go_simp; try with_reducible rfl)
                  try simp only [Act.put, List.setIfInBounds_toArray, List.set_cons_zero, List.set_cons_succ]
                  refine wpAnyH_done (by kernel_rfl) ?_ _
                  refine NoPanic.normal ?_
                  go_wp2_with fail
                  go_meet
                  exact ⟨rfl, Lib.hid (hH21016)⟩
              · go_simp
                have hb21018 : Below wd21000.heap.size wd21000 (wd21000.alloc (.cells #[.int .i64 0, .int .i64 0, .int .u32 0, .int .u32 0, .int .u32 0, .int .i64 0, .slice none 0 0, .int .u32 0, .int .i64 0, .slice none 0 0, .bool false, .int .u32 0, .int .u32 0, .int .i64 0, .int .i64 0, .int .i64 0, .slice none 0 0] 30)) := (Below.refl _ _).alloc (Nat.le_refl _) _
                have BX21018 : Hid ((wd21000.alloc (.cells #[.int .i64 0, .int .i64 0, .int .u32 0, .int .u32 0, .int .u32 0, .int .i64 0, .slice none 0 0, .int .u32 0, .int .i64 0, .slice none 0 0, .bool false, .int .u32 0, .int .u32 0, .int .i64 0, .int .i64 0, .int .i64 0, .slice none 0 0] 30)).heap[wd21000.heap.size]? = some (.cells #[.int .i64 0, .int .i64 0, .int .u32 0, .int .u32 0, .int .u32 0, .int .i64 0, .slice none 0 0, .int .u32 0, .int .i64 0, .slice none 0 0, .bool false, .int .u32 0, .int .u32 0, .int .i64 0, .int .i64 0, .int .i64 0, .slice none 0 0] 30 (0, 0))) := Lib.hid (heap_alloc_new _ _)
                have LX21018 : Hid (wd21000.heap.size < (wd21000.alloc (.cells #[.int .i64 0, .int .i64 0, .int .u32 0, .int .u32 0, .int .u32 0, .int .i64 0, .slice none 0 0, .int .u32 0, .int .i64 0, .slice none 0 0, .bool false, .int .u32 0, .int .u32 0, .int .i64 0, .int .i64 0, .int .i64 0, .slice none 0 0] 30)).heap.size) := Lib.hid (by simp)
                have GE21018 : Hid (wr.heap.size ≤ wd21000.heap.size) := Lib.hid (hH0).size
                generalize (wd21000.alloc (.cells #[.int .i64 0, .int .i64 0, .int .u32 0, .int .u32 0, .int .u32 0, .int .i64 0, .slice none 0 0, .int .u32 0, .int .i64 0, .slice none 0 0, .bool false, .int .u32 0, .int .u32 0, .int .i64 0, .int .i64 0, .int .i64 0, .slice none 0 0] 30)) = wn21018 at *
                have hS21018 : Below (wr.heap.size) wr wn21018 := (hH0).trans (hb21018.mono (hH0).size)
                refine hK.out _ _ hS21018 (fun hH21018 => ?_)
                have hH21018 : Below (wr.heap.size) wr wn21018 := hH21018
                clear hK K hS21018
                try simp only [Act.put, List.setIfInBounds_toArray, List.set_cons_zero, List.set_cons_succ]
                refine wpAnyH_ready (rs := [2]) (by kernel_rfl) (by simp) ?_
                refine AllReadyH.cons (o := { dst := some 33, op := Op.call { callee := Callee.value (Operand.func 30), args := #[Operand.tmp 32], argTypes := #[22] }, type := 28, pos := "law.go:62", after := #[{ on := 1, ground := Ground.data }], guard := none }) rfl (fun K hK => ?_) AllReadyH.nil
                go_simp
                refine (goodS v wn21018).mono ?_
                rintro e' wn21019 ⟨mg21019, rfl, MG21019, hbo21019⟩
                have hb21019 := hbo21019.out
                go_simp
                have BX21018_21019 := Lib.hid ((hb21019.block wd21000.heap.size LX21018.out).trans BX21018.out)
                have LX21018_21019 := Lib.hid (Nat.lt_of_lt_of_le LX21018.out hb21019.size)
                have hS21019 : Below (wr.heap.size) wr wn21019 := (hH21018).trans (hb21019.mono (hH21018).size)
                refine hK.out _ _ hS21019 (fun hH21019 => ?_)
                have hH21019 : Below (wr.heap.size) wr wn21019 := hH21019
                clear hK K hS21019
                try simp only [Act.put, List.setIfInBounds_toArray, List.set_cons_zero, List.set_cons_succ]
                refine wpAnyH_ready (rs := [3]) (by kernel_rfl) (by simp) ?_
                refine AllReadyH.cons (o := { dst := some 34, op := Op.call { callee := Callee.value (Operand.func 24), args := #[Operand.tmp 31, Operand.tmp 33], argTypes := #[30, 28] }, type := 40, pos := "law.go:62", after := #[{ on := 0, ground := Ground.data }, { on := 2, ground := Ground.data }, { on := 2, ground := Ground.chain }], guard := none }) rfl (fun K hK => ?_) AllReadyH.nil
                go_simp
                refine (admitS_no (HS5.out wn21019 (hH21019)) MG21019.out HR.out HNE.out).mono ?_
                rintro e' wn21020 ⟨rfl, hb21020⟩
                go_simp
                have BX21018_21020 := Lib.hid ((hb21020.block wd21000.heap.size LX21018_21019.out).trans BX21018_21019.out)
                have LX21018_21020 := Lib.hid (Nat.lt_of_lt_of_le LX21018_21019.out hb21020.size)
                have MG21019_21020 := Lib.hid (MG21019.out.below hb21020)
                have hS21020 : Below (wr.heap.size) wr wn21020 := (hH21019).trans (hb21020.mono (hH21019).size)
                refine hK.out _ _ hS21020 (fun hH21020 => ?_)
                have hH21020 : Below (wr.heap.size) wr wn21020 := hH21020
                clear hK K hS21020
                try simp only [Act.put, List.setIfInBounds_toArray, List.set_cons_zero, List.set_cons_succ]
                refine wpAnyH_take (i := 4) (oi := { dst := some 30, op := Op.move (Operand.tmp 34), type := 40, pos := "law.go:62", after := #[{ on := 3, ground := Ground.data }], guard := none }) (v := ?tkv21021) rfl (by kernel_rfl) (by kernel_rfl) (by kernel_rfl) (fun _ _ _ h => h) (Or.inl ⟨by rfl, ?tky21021⟩) hH21020 ?tkr21021
                case tky21021 => (intro w' hSw; clear hSw; go_simp; try with_reducible rfl)
                try simp only [Act.put, List.setIfInBounds_toArray, List.set_cons_zero, List.set_cons_succ]
                refine wpAnyH_take (i := 5) (oi := { dst := some 35, op := Op.extract (Operand.tmp 30) 0, type := 30, pos := "law.go:62", after := #[{ on := 4, ground := Ground.data }], guard := none }) (v := ?tkv21022) rfl (by kernel_rfl) (by kernel_rfl) (by kernel_rfl) (fun _ _ _ h => h) (Or.inl ⟨by rfl, ?tky21022⟩) hH21020 ?tkr21022
                case tky21022 => (intro w' hSw; clear hSw; go_simp; try with_reducible rfl)
                try simp only [Act.put, List.setIfInBounds_toArray, List.set_cons_zero, List.set_cons_succ]
                refine wpAnyH_take (i := 6) (oi := { dst := some 36, op := Op.extract (Operand.tmp 30) 1, type := 33, pos := "law.go:62", after := #[{ on := 4, ground := Ground.data }, { on := 8, ground := Ground.gcOnly Departure.lateStores }], guard := none }) (v := ?tkv21023) rfl (by kernel_rfl) (by kernel_rfl) (by kernel_rfl) (fun _ _ _ h => h) (Or.inl ⟨by rfl, ?tky21023⟩) hH21020 ?tkr21023
                case tky21023 => (intro w' hSw; clear hSw; go_simp; try with_reducible rfl)
                try simp only [Act.put, List.setIfInBounds_toArray, List.set_cons_zero, List.set_cons_succ]
                refine wpAnyH_ready (rs := [8]) (by kernel_rfl) (by simp) ?_
                refine AllReadyH.cons (o := { dst := none, op := Op.store 30 (Operand.tmp 9) (Operand.tmp 35), type := 0, pos := "law.go:62", after := #[{ on := 7, ground := Ground.data }, { on := 5, ground := Ground.data }, { on := 3, ground := Ground.chain }, { on := 0, ground := Ground.phase }, { on := 1, ground := Ground.phase }, { on := 2, ground := Ground.phase }, { on := 3, ground := Ground.phase }, { on := 4, ground := Ground.phase }, { on := 5, ground := Ground.phase }, { on := 6, ground := Ground.textOnly Departure.lateStores }, { on := 7, ground := Ground.phase }], guard := none }) rfl (fun K hK => ?_) AllReadyH.nil
                rw [if_pos (by rfl)]
                refine wp_store_row _ _ _ rfl wd21000.heap.size zState rfl rfl _ _ BX21018_21020.out (by kernel_rfl) (by rfl) (by kernel_rfl) ?_
                have hS21024 : Below (wr.heap.size) wr (wn21020.setRow wd21000.heap.size zState) := (below_setRow2 (hH21020) GE21018.out _)
                refine hK.out _ _ hS21024 (fun hH21024 => ?_)
                have hH21024 : Below (wr.heap.size) wr (wn21020.setRow wd21000.heap.size zState) := hH21024
                clear hK K hS21024
                refine wpAnyH_take (i := 9) (oi := { dst := some 10, op := Op.assign (Operand.tmp 36), type := 33, pos := "law.go:62", after := #[{ on := 6, ground := Ground.data }, { on := 8, ground := Ground.chain }, { on := 0, ground := Ground.phase }, { on := 1, ground := Ground.phase }, { on := 2, ground := Ground.phase }, { on := 3, ground := Ground.phase }, { on := 4, ground := Ground.phase }, { on := 5, ground := Ground.phase }, { on := 6, ground := Ground.phase }, { on := 7, ground := Ground.phase }, { on := 8, ground := Ground.phase }], guard := none }) (v := ?tkv21025) rfl (by kernel_rfl) (by kernel_rfl) (by kernel_rfl) (fun _ _ _ h => h) (Or.inl ⟨by rfl, ?tky21025⟩) hH21024 ?tkr21025
                case tky21025 => (intro w' hSw; clear hSw; go_simp; try with_reducible rfl)
                try simp only [Act.put, List.setIfInBounds_toArray, List.set_cons_zero, List.set_cons_succ]
                refine wpAnyH_done (by kernel_rfl) ?_ _
                refine NoPanic.normal ?_
                go_wp2_with fail
                go_meet
                exact ⟨rfl, Lib.hid (hH21024)⟩
            case rest =>
              obtain ⟨rfl, hbe⟩ := hcut
              have HX := Lib.hid (hbx.out.below hbe.out)
              have ho : wc.cell? ⟨g5, 10, none⟩ = some (.bool L.on) := (cell_of_row wc g5 10 cs _ (0, 0) HX.out.1).trans HX.out.2.1.c10
              rw [ho2] at ho
              have q1 : ((v : Int) == (top : Int)) = false := by simp; omega
              have q2 : (v : Int) ≤ (top : Int) := by omega
              clear hbe HR HNE
              go_wp2_with fail
              go_roundw
              case rel => exact ⟨k + 1, top, cs, L, by omega, by go_num, rfl, HNX, HX⟩
              case measure => simp [intOf]; omega
        | false =>
          have HR : Hid (L.admitR (GM v) = 6) := Lib.hid (hinv.out.old hle (fun h => Bool.noConfusion (ho2.symm.trans h.1)))
          have HNE : Hid ((6 : Int) ≠ 0) := Lib.hid (by decide)
          go_upto_region 10 with fail
          go_cut [10] (fun s10 wx => s10 = .int .i64 6 ∧ Hid (Below wr.heap.size wr wx))
          case first =>
            refine wp_region_noPanic ?_
            refine wp_region_held_drew (S := (fun W => Below (wr.heap.size) wr W)) (by kernel_rfl) (Below.refl _ _).drew (fun hH0 => ?_)
            have hH0 : Below (wr.heap.size) wr wr.drew := hH0
            generalize wr.drew = wd22000 at *
            refine wpAnyH_take (i := 0) (oi := { dst := some 31, op := Op.load 30 (Operand.tmp 5), type := 30, pos := "law.go:62", after := #[], guard := none }) (v := .agg cs) rfl (by kernel_rfl) (by kernel_rfl) (by kernel_rfl) (fun _ _ _ h => h) (yields_row (by rfl) _ _ rfl g5 rfl _ _ _ _ (fun W hW => HB5.out W hW) Try.underlying30 rfl INF.out) hH0 ?tkr22001
            try simp only [Act.put, List.setIfInBounds_toArray, List.set_cons_zero, List.set_cons_succ]
            refine wpAnyH_take (i := 1) (oi := { dst := some 32, op := Op.move (Operand.tmp 8), type := 22, pos := "law.go:62", after := #[], guard := none }) (v := ?tkv22002) rfl (by kernel_rfl) (by kernel_rfl) (by kernel_rfl) (fun _ _ _ h => h) (Or.inl ⟨by rfl, ?tky22002⟩) hH0 ?tkr22002
            case tky22002 => (intro w' hSw; clear hSw; go_simp; try with_reducible rfl)
            try simp only [Act.put, List.setIfInBounds_toArray, List.set_cons_zero, List.set_cons_succ]
            refine wpAnyH_ready (rs := [2, 7]) (by kernel_rfl) (by simp) ?_
            refine AllReadyH.cons (o := { dst := some 33, op := Op.call { callee := Callee.value (Operand.func 30), args := #[Operand.tmp 32], argTypes := #[22] }, type := 28, pos := "law.go:62", after := #[{ on := 1, ground := Ground.data }], guard := none }) rfl (fun K hK => ?_) (AllReadyH.cons (o := { dst := some 9, op := Op.alloc 30, type := 0, pos := "law.go:62", after := #[], guard := none }) rfl (fun K hK => ?_) AllReadyH.nil)
            · go_simp
              refine (goodS v wd22000).mono ?_
              rintro e' wn22003 ⟨mg22003, rfl, MG22003, hbo22003⟩
              have hb22003 := hbo22003.out
              go_simp
              have hS22003 : Below (wr.heap.size) wr wn22003 := (hH0).trans (hb22003.mono (hH0).size)
              refine hK.out _ _ hS22003 (fun hH22003 => ?_)
              have hH22003 : Below (wr.heap.size) wr wn22003 := hH22003
              clear hK K hS22003
              try simp only [Act.put, List.setIfInBounds_toArray, List.set_cons_zero, List.set_cons_succ]
              refine wpAnyH_ready (rs := [3, 7]) (by kernel_rfl) (by simp) ?_
              refine AllReadyH.cons (o := { dst := some 34, op := Op.call { callee := Callee.value (Operand.func 24), args := #[Operand.tmp 31, Operand.tmp 33], argTypes := #[30, 28] }, type := 40, pos := "law.go:62", after := #[{ on := 0, ground := Ground.data }, { on := 2, ground := Ground.data }, { on := 2, ground := Ground.chain }], guard := none }) rfl (fun K hK => ?_) (AllReadyH.cons (o := { dst := some 9, op := Op.alloc 30, type := 0, pos := "law.go:62", after := #[], guard := none }) rfl (fun K hK => ?_) AllReadyH.nil)
              · go_simp
                refine (admitS_no (HS5.out wn22003 (hH22003)) MG22003.out HR.out HNE.out).mono ?_
                rintro e' wn22004 ⟨rfl, hb22004⟩
                go_simp
                have MG22003_22004 := Lib.hid (MG22003.out.below hb22004)
                have hS22004 : Below (wr.heap.size) wr wn22004 := (hH22003).trans (hb22004.mono (hH22003).size)
                refine hK.out _ _ hS22004 (fun hH22004 => ?_)
                have hH22004 : Below (wr.heap.size) wr wn22004 := hH22004
                clear hK K hS22004
                try simp only [Act.put, List.setIfInBounds_toArray, List.set_cons_zero, List.set_cons_succ]
                refine wpAnyH_take (i := 4) (oi := { dst := some 30, op := Op.move (Operand.tmp 34), type := 40, pos := "law.go:62", after := #[{ on := 3, ground := Ground.data }], guard := none }) (v := ?tkv22005) rfl (by kernel_rfl) (by kernel_rfl) (by kernel_rfl) (fun _ _ _ h => h) (Or.inl ⟨by rfl, ?tky22005⟩) hH22004 ?tkr22005
                case tky22005 => (intro w' hSw; clear hSw; go_simp; try with_reducible rfl)
                try simp only [Act.put, List.setIfInBounds_toArray, List.set_cons_zero, List.set_cons_succ]
                refine wpAnyH_take (i := 5) (oi := { dst := some 35, op := Op.extract (Operand.tmp 30) 0, type := 30, pos := "law.go:62", after := #[{ on := 4, ground := Ground.data }], guard := none }) (v := ?tkv22006) rfl (by kernel_rfl) (by kernel_rfl) (by kernel_rfl) (fun _ _ _ h => h) (Or.inl ⟨by rfl, ?tky22006⟩) hH22004 ?tkr22006
                case tky22006 => (intro w' hSw; clear hSw; go_simp; try with_reducible rfl)
                try simp only [Act.put, List.setIfInBounds_toArray, List.set_cons_zero, List.set_cons_succ]
                refine wpAnyH_take (i := 6) (oi := { dst := some 36, op := Op.extract (Operand.tmp 30) 1, type := 33, pos := "law.go:62", after := #[{ on := 4, ground := Ground.data }, { on := 8, ground := Ground.gcOnly Departure.lateStores }], guard := none }) (v := ?tkv22007) rfl (by kernel_rfl) (by kernel_rfl) (by kernel_rfl) (fun _ _ _ h => h) (Or.inl ⟨by rfl, ?tky22007⟩) hH22004 ?tkr22007
                case tky22007 => (intro w' hSw; clear hSw; go_simp; try with_reducible rfl)
                try simp only [Act.put, List.setIfInBounds_toArray, List.set_cons_zero, List.set_cons_succ]
                refine wpAnyH_ready (rs := [7]) (by kernel_rfl) (by simp) ?_
                refine AllReadyH.cons (o := { dst := some 9, op := Op.alloc 30, type := 0, pos := "law.go:62", after := #[], guard := none }) rfl (fun K hK => ?_) AllReadyH.nil
                go_simp
                have hb22008 : Below wn22004.heap.size wn22004 (wn22004.alloc (.cells #[.int .i64 0, .int .i64 0, .int .u32 0, .int .u32 0, .int .u32 0, .int .i64 0, .slice none 0 0, .int .u32 0, .int .i64 0, .slice none 0 0, .bool false, .int .u32 0, .int .u32 0, .int .i64 0, .int .i64 0, .int .i64 0, .slice none 0 0] 30)) := (Below.refl _ _).alloc (Nat.le_refl _) _
                have BX22008 : Hid ((wn22004.alloc (.cells #[.int .i64 0, .int .i64 0, .int .u32 0, .int .u32 0, .int .u32 0, .int .i64 0, .slice none 0 0, .int .u32 0, .int .i64 0, .slice none 0 0, .bool false, .int .u32 0, .int .u32 0, .int .i64 0, .int .i64 0, .int .i64 0, .slice none 0 0] 30)).heap[wn22004.heap.size]? = some (.cells #[.int .i64 0, .int .i64 0, .int .u32 0, .int .u32 0, .int .u32 0, .int .i64 0, .slice none 0 0, .int .u32 0, .int .i64 0, .slice none 0 0, .bool false, .int .u32 0, .int .u32 0, .int .i64 0, .int .i64 0, .int .i64 0, .slice none 0 0] 30 (0, 0))) := Lib.hid (heap_alloc_new _ _)
                have LX22008 : Hid (wn22004.heap.size < (wn22004.alloc (.cells #[.int .i64 0, .int .i64 0, .int .u32 0, .int .u32 0, .int .u32 0, .int .i64 0, .slice none 0 0, .int .u32 0, .int .i64 0, .slice none 0 0, .bool false, .int .u32 0, .int .u32 0, .int .i64 0, .int .i64 0, .int .i64 0, .slice none 0 0] 30)).heap.size) := Lib.hid (by simp)
                have GE22008 : Hid (wr.heap.size ≤ wn22004.heap.size) := Lib.hid (hH22004).size
                generalize (wn22004.alloc (.cells #[.int .i64 0, .int .i64 0, .int .u32 0, .int .u32 0, .int .u32 0, .int .i64 0, .slice none 0 0, .int .u32 0, .int .i64 0, .slice none 0 0, .bool false, .int .u32 0, .int .u32 0, .int .i64 0, .int .i64 0, .int .i64 0, .slice none 0 0] 30)) = wn22008 at *
                have MG22003_22008 := Lib.hid (MG22003_22004.out.below hb22008)
                have hS22008 : Below (wr.heap.size) wr wn22008 := (hH22004).trans (hb22008.mono (hH22004).size)
                refine hK.out _ _ hS22008 (fun hH22008 => ?_)
                have hH22008 : Below (wr.heap.size) wr wn22008 := hH22008
                clear hK K hS22008
                try simp only [Act.put, List.setIfInBounds_toArray, List.set_cons_zero, List.set_cons_succ]
                refine wpAnyH_ready (rs := [8]) (by kernel_rfl) (by simp) ?_
                refine AllReadyH.cons (o := { dst := none, op := Op.store 30 (Operand.tmp 9) (Operand.tmp 35), type := 0, pos := "law.go:62", after := #[{ on := 7, ground := Ground.data }, { on := 5, ground := Ground.data }, { on := 3, ground := Ground.chain }, { on := 0, ground := Ground.phase }, { on := 1, ground := Ground.phase }, { on := 2, ground := Ground.phase }, { on := 3, ground := Ground.phase }, { on := 4, ground := Ground.phase }, { on := 5, ground := Ground.phase }, { on := 6, ground := Ground.textOnly Departure.lateStores }, { on := 7, ground := Ground.phase }], guard := none }) rfl (fun K hK => ?_) AllReadyH.nil
                rw [if_pos (by rfl)]
                refine wp_store_row _ _ _ rfl wn22004.heap.size zState rfl rfl _ _ BX22008.out (by kernel_rfl) (by rfl) (by kernel_rfl) ?_
                have hS22009 : Below (wr.heap.size) wr (wn22008.setRow wn22004.heap.size zState) := (below_setRow2 (hH22008) GE22008.out _)
                refine hK.out _ _ hS22009 (fun hH22009 => ?_)
                have hH22009 : Below (wr.heap.size) wr (wn22008.setRow wn22004.heap.size zState) := hH22009
                clear hK K hS22009
                refine wpAnyH_take (i := 9) (oi := { dst := some 10, op := Op.assign (Operand.tmp 36), type := 33, pos := "law.go:62", after := #[{ on := 6, ground := Ground.data }, { on := 8, ground := Ground.chain }, { on := 0, ground := Ground.phase }, { on := 1, ground := Ground.phase }, { on := 2, ground := Ground.phase }, { on := 3, ground := Ground.phase }, { on := 4, ground := Ground.phase }, { on := 5, ground := Ground.phase }, { on := 6, ground := Ground.phase }, { on := 7, ground := Ground.phase }, { on := 8, ground := Ground.phase }], guard := none }) (v := ?tkv22010) rfl (by kernel_rfl) (by kernel_rfl) (by kernel_rfl) (fun _ _ _ h => h) (Or.inl ⟨by rfl, ?tky22010⟩) hH22009 ?tkr22010
                case tky22010 => (intro w' hSw; clear hSw; go_simp; try with_reducible rfl)
                try simp only [Act.put, List.setIfInBounds_toArray, List.set_cons_zero, List.set_cons_succ]
                refine wpAnyH_done (by kernel_rfl) ?_ _
                refine NoPanic.normal ?_
                go_wp2_with fail
                go_meet
                exact ⟨rfl, Lib.hid (hH22009)⟩
              · go_simp
                have hb22011 : Below wn22003.heap.size wn22003 (wn22003.alloc (.cells #[.int .i64 0, .int .i64 0, .int .u32 0, .int .u32 0, .int .u32 0, .int .i64 0, .slice none 0 0, .int .u32 0, .int .i64 0, .slice none 0 0, .bool false, .int .u32 0, .int .u32 0, .int .i64 0, .int .i64 0, .int .i64 0, .slice none 0 0] 30)) := (Below.refl _ _).alloc (Nat.le_refl _) _
                have BX22011 : Hid ((wn22003.alloc (.cells #[.int .i64 0, .int .i64 0, .int .u32 0, .int .u32 0, .int .u32 0, .int .i64 0, .slice none 0 0, .int .u32 0, .int .i64 0, .slice none 0 0, .bool false, .int .u32 0, .int .u32 0, .int .i64 0, .int .i64 0, .int .i64 0, .slice none 0 0] 30)).heap[wn22003.heap.size]? = some (.cells #[.int .i64 0, .int .i64 0, .int .u32 0, .int .u32 0, .int .u32 0, .int .i64 0, .slice none 0 0, .int .u32 0, .int .i64 0, .slice none 0 0, .bool false, .int .u32 0, .int .u32 0, .int .i64 0, .int .i64 0, .int .i64 0, .slice none 0 0] 30 (0, 0))) := Lib.hid (heap_alloc_new _ _)
                have LX22011 : Hid (wn22003.heap.size < (wn22003.alloc (.cells #[.int .i64 0, .int .i64 0, .int .u32 0, .int .u32 0, .int .u32 0, .int .i64 0, .slice none 0 0, .int .u32 0, .int .i64 0, .slice none 0 0, .bool false, .int .u32 0, .int .u32 0, .int .i64 0, .int .i64 0, .int .i64 0, .slice none 0 0] 30)).heap.size) := Lib.hid (by simp)
                have GE22011 : Hid (wr.heap.size ≤ wn22003.heap.size) := Lib.hid (hH22003).size
                generalize (wn22003.alloc (.cells #[.int .i64 0, .int .i64 0, .int .u32 0, .int .u32 0, .int .u32 0, .int .i64 0, .slice none 0 0, .int .u32 0, .int .i64 0, .slice none 0 0, .bool false, .int .u32 0, .int .u32 0, .int .i64 0, .int .i64 0, .int .i64 0, .slice none 0 0] 30)) = wn22011 at *
                have MG22003_22011 := Lib.hid (MG22003.out.below hb22011)
                have hS22011 : Below (wr.heap.size) wr wn22011 := (hH22003).trans (hb22011.mono (hH22003).size)
                refine hK.out _ _ hS22011 (fun hH22011 => ?_)
                have hH22011 : Below (wr.heap.size) wr wn22011 := hH22011
                clear hK K hS22011
                try simp only [Act.put, List.setIfInBounds_toArray, List.set_cons_zero, List.set_cons_succ]
                refine wpAnyH_ready (rs := [3]) (by kernel_rfl) (by simp) ?_
                refine AllReadyH.cons (o := { dst := some 34, op := Op.call { callee := Callee.value (Operand.func 24), args := #[Operand.tmp 31, Operand.tmp 33], argTypes := #[30, 28] }, type := 40, pos := "law.go:62", after := #[{ on := 0, ground := Ground.data }, { on := 2, ground := Ground.data }, { on := 2, ground := Ground.chain }], guard := none }) rfl (fun K hK => ?_) AllReadyH.nil
                go_simp
                refine (admitS_no (HS5.out wn22011 (hH22011)) MG22003_22011.out HR.out HNE.out).mono ?_
                rintro e' wn22012 ⟨rfl, hb22012⟩
                go_simp
                have MG22003_22012 := Lib.hid (MG22003_22011.out.below hb22012)
                have BX22011_22012 := Lib.hid ((hb22012.block wn22003.heap.size LX22011.out).trans BX22011.out)
                have LX22011_22012 := Lib.hid (Nat.lt_of_lt_of_le LX22011.out hb22012.size)
                have hS22012 : Below (wr.heap.size) wr wn22012 := (hH22011).trans (hb22012.mono (hH22011).size)
                refine hK.out _ _ hS22012 (fun hH22012 => ?_)
                have hH22012 : Below (wr.heap.size) wr wn22012 := hH22012
                clear hK K hS22012
                try simp only [Act.put, List.setIfInBounds_toArray, List.set_cons_zero, List.set_cons_succ]
                refine wpAnyH_take (i := 4) (oi := { dst := some 30, op := Op.move (Operand.tmp 34), type := 40, pos := "law.go:62", after := #[{ on := 3, ground := Ground.data }], guard := none }) (v := ?tkv22013) rfl (by kernel_rfl) (by kernel_rfl) (by kernel_rfl) (fun _ _ _ h => h) (Or.inl ⟨by rfl, ?tky22013⟩) hH22012 ?tkr22013
                case tky22013 => (intro w' hSw; clear hSw; go_simp; try with_reducible rfl)
                try simp only [Act.put, List.setIfInBounds_toArray, List.set_cons_zero, List.set_cons_succ]
                refine wpAnyH_take (i := 5) (oi := { dst := some 35, op := Op.extract (Operand.tmp 30) 0, type := 30, pos := "law.go:62", after := #[{ on := 4, ground := Ground.data }], guard := none }) (v := ?tkv22014) rfl (by kernel_rfl) (by kernel_rfl) (by kernel_rfl) (fun _ _ _ h => h) (Or.inl ⟨by rfl, ?tky22014⟩) hH22012 ?tkr22014
                case tky22014 => (intro w' hSw; clear hSw; go_simp; try with_reducible rfl)
                try simp only [Act.put, List.setIfInBounds_toArray, List.set_cons_zero, List.set_cons_succ]
                refine wpAnyH_take (i := 6) (oi := { dst := some 36, op := Op.extract (Operand.tmp 30) 1, type := 33, pos := "law.go:62", after := #[{ on := 4, ground := Ground.data }, { on := 8, ground := Ground.gcOnly Departure.lateStores }], guard := none }) (v := ?tkv22015) rfl (by kernel_rfl) (by kernel_rfl) (by kernel_rfl) (fun _ _ _ h => h) (Or.inl ⟨by rfl, ?tky22015⟩) hH22012 ?tkr22015
                case tky22015 => (intro w' hSw; clear hSw; go_simp; try with_reducible rfl)
                try simp only [Act.put, List.setIfInBounds_toArray, List.set_cons_zero, List.set_cons_succ]
                refine wpAnyH_ready (rs := [8]) (by kernel_rfl) (by simp) ?_
                refine AllReadyH.cons (o := { dst := none, op := Op.store 30 (Operand.tmp 9) (Operand.tmp 35), type := 0, pos := "law.go:62", after := #[{ on := 7, ground := Ground.data }, { on := 5, ground := Ground.data }, { on := 3, ground := Ground.chain }, { on := 0, ground := Ground.phase }, { on := 1, ground := Ground.phase }, { on := 2, ground := Ground.phase }, { on := 3, ground := Ground.phase }, { on := 4, ground := Ground.phase }, { on := 5, ground := Ground.phase }, { on := 6, ground := Ground.textOnly Departure.lateStores }, { on := 7, ground := Ground.phase }], guard := none }) rfl (fun K hK => ?_) AllReadyH.nil
                rw [if_pos (by rfl)]
                refine wp_store_row _ _ _ rfl wn22003.heap.size zState rfl rfl _ _ BX22011_22012.out (by kernel_rfl) (by rfl) (by kernel_rfl) ?_
                have hS22016 : Below (wr.heap.size) wr (wn22012.setRow wn22003.heap.size zState) := (below_setRow2 (hH22012) GE22011.out _)
                refine hK.out _ _ hS22016 (fun hH22016 => ?_)
                have hH22016 : Below (wr.heap.size) wr (wn22012.setRow wn22003.heap.size zState) := hH22016
                clear hK K hS22016
                refine wpAnyH_take (i := 9) (oi := { dst := some 10, op := Op.assign (Operand.tmp 36), type := 33, pos := "law.go:62", after := #[{ on := 6, ground := Ground.data }, { on := 8, ground := Ground.chain }, { on := 0, ground := Ground.phase }, { on := 1, ground := Ground.phase }, { on := 2, ground := Ground.phase }, { on := 3, ground := Ground.phase }, { on := 4, ground := Ground.phase }, { on := 5, ground := Ground.phase }, { on := 6, ground := Ground.phase }, { on := 7, ground := Ground.phase }, { on := 8, ground := Ground.phase }], guard := none }) (v := ?tkv22017) rfl (by kernel_rfl) (by kernel_rfl) (by kernel_rfl) (fun _ _ _ h => h) (Or.inl ⟨by rfl, ?tky22017⟩) hH22016 ?tkr22017
                case tky22017 => (intro w' hSw; clear hSw; go_simp; try with_reducible rfl)
                try simp only [Act.put, List.setIfInBounds_toArray, List.set_cons_zero, List.set_cons_succ]
                refine wpAnyH_done (by kernel_rfl) ?_ _
                refine NoPanic.normal ?_
                go_wp2_with fail
                go_meet
                exact ⟨rfl, Lib.hid (hH22016)⟩
            · go_simp
              have hb22018 : Below wd22000.heap.size wd22000 (wd22000.alloc (.cells #[.int .i64 0, .int .i64 0, .int .u32 0, .int .u32 0, .int .u32 0, .int .i64 0, .slice none 0 0, .int .u32 0, .int .i64 0, .slice none 0 0, .bool false, .int .u32 0, .int .u32 0, .int .i64 0, .int .i64 0, .int .i64 0, .slice none 0 0] 30)) := (Below.refl _ _).alloc (Nat.le_refl _) _
              have BX22018 : Hid ((wd22000.alloc (.cells #[.int .i64 0, .int .i64 0, .int .u32 0, .int .u32 0, .int .u32 0, .int .i64 0, .slice none 0 0, .int .u32 0, .int .i64 0, .slice none 0 0, .bool false, .int .u32 0, .int .u32 0, .int .i64 0, .int .i64 0, .int .i64 0, .slice none 0 0] 30)).heap[wd22000.heap.size]? = some (.cells #[.int .i64 0, .int .i64 0, .int .u32 0, .int .u32 0, .int .u32 0, .int .i64 0, .slice none 0 0, .int .u32 0, .int .i64 0, .slice none 0 0, .bool false, .int .u32 0, .int .u32 0, .int .i64 0, .int .i64 0, .int .i64 0, .slice none 0 0] 30 (0, 0))) := Lib.hid (heap_alloc_new _ _)
              have LX22018 : Hid (wd22000.heap.size < (wd22000.alloc (.cells #[.int .i64 0, .int .i64 0, .int .u32 0, .int .u32 0, .int .u32 0, .int .i64 0, .slice none 0 0, .int .u32 0, .int .i64 0, .slice none 0 0, .bool false, .int .u32 0, .int .u32 0, .int .i64 0, .int .i64 0, .int .i64 0, .slice none 0 0] 30)).heap.size) := Lib.hid (by simp)
              have GE22018 : Hid (wr.heap.size ≤ wd22000.heap.size) := Lib.hid (hH0).size
              generalize (wd22000.alloc (.cells #[.int .i64 0, .int .i64 0, .int .u32 0, .int .u32 0, .int .u32 0, .int .i64 0, .slice none 0 0, .int .u32 0, .int .i64 0, .slice none 0 0, .bool false, .int .u32 0, .int .u32 0, .int .i64 0, .int .i64 0, .int .i64 0, .slice none 0 0] 30)) = wn22018 at *
              have hS22018 : Below (wr.heap.size) wr wn22018 := (hH0).trans (hb22018.mono (hH0).size)
              refine hK.out _ _ hS22018 (fun hH22018 => ?_)
              have hH22018 : Below (wr.heap.size) wr wn22018 := hH22018
              clear hK K hS22018
              try simp only [Act.put, List.setIfInBounds_toArray, List.set_cons_zero, List.set_cons_succ]
              refine wpAnyH_ready (rs := [2]) (by kernel_rfl) (by simp) ?_
              refine AllReadyH.cons (o := { dst := some 33, op := Op.call { callee := Callee.value (Operand.func 30), args := #[Operand.tmp 32], argTypes := #[22] }, type := 28, pos := "law.go:62", after := #[{ on := 1, ground := Ground.data }], guard := none }) rfl (fun K hK => ?_) AllReadyH.nil
              go_simp
              refine (goodS v wn22018).mono ?_
              rintro e' wn22019 ⟨mg22019, rfl, MG22019, hbo22019⟩
              have hb22019 := hbo22019.out
              go_simp
              have BX22018_22019 := Lib.hid ((hb22019.block wd22000.heap.size LX22018.out).trans BX22018.out)
              have LX22018_22019 := Lib.hid (Nat.lt_of_lt_of_le LX22018.out hb22019.size)
              have hS22019 : Below (wr.heap.size) wr wn22019 := (hH22018).trans (hb22019.mono (hH22018).size)
              refine hK.out _ _ hS22019 (fun hH22019 => ?_)
              have hH22019 : Below (wr.heap.size) wr wn22019 := hH22019
              clear hK K hS22019
              try simp only [Act.put, List.setIfInBounds_toArray, List.set_cons_zero, List.set_cons_succ]
              refine wpAnyH_ready (rs := [3]) (by kernel_rfl) (by simp) ?_
              refine AllReadyH.cons (o := { dst := some 34, op := Op.call { callee := Callee.value (Operand.func 24), args := #[Operand.tmp 31, Operand.tmp 33], argTypes := #[30, 28] }, type := 40, pos := "law.go:62", after := #[{ on := 0, ground := Ground.data }, { on := 2, ground := Ground.data }, { on := 2, ground := Ground.chain }], guard := none }) rfl (fun K hK => ?_) AllReadyH.nil
              go_simp
              refine (admitS_no (HS5.out wn22019 (hH22019)) MG22019.out HR.out HNE.out).mono ?_
              rintro e' wn22020 ⟨rfl, hb22020⟩
              go_simp
              have BX22018_22020 := Lib.hid ((hb22020.block wd22000.heap.size LX22018_22019.out).trans BX22018_22019.out)
              have LX22018_22020 := Lib.hid (Nat.lt_of_lt_of_le LX22018_22019.out hb22020.size)
              have MG22019_22020 := Lib.hid (MG22019.out.below hb22020)
              have hS22020 : Below (wr.heap.size) wr wn22020 := (hH22019).trans (hb22020.mono (hH22019).size)
              refine hK.out _ _ hS22020 (fun hH22020 => ?_)
              have hH22020 : Below (wr.heap.size) wr wn22020 := hH22020
              clear hK K hS22020
              try simp only [Act.put, List.setIfInBounds_toArray, List.set_cons_zero, List.set_cons_succ]
              refine wpAnyH_take (i := 4) (oi := { dst := some 30, op := Op.move (Operand.tmp 34), type := 40, pos := "law.go:62", after := #[{ on := 3, ground := Ground.data }], guard := none }) (v := ?tkv22021) rfl (by kernel_rfl) (by kernel_rfl) (by kernel_rfl) (fun _ _ _ h => h) (Or.inl ⟨by rfl, ?tky22021⟩) hH22020 ?tkr22021
              case tky22021 => (intro w' hSw; clear hSw; go_simp; try with_reducible rfl)
              try simp only [Act.put, List.setIfInBounds_toArray, List.set_cons_zero, List.set_cons_succ]
              refine wpAnyH_take (i := 5) (oi := { dst := some 35, op := Op.extract (Operand.tmp 30) 0, type := 30, pos := "law.go:62", after := #[{ on := 4, ground := Ground.data }], guard := none }) (v := ?tkv22022) rfl (by kernel_rfl) (by kernel_rfl) (by kernel_rfl) (fun _ _ _ h => h) (Or.inl ⟨by rfl, ?tky22022⟩) hH22020 ?tkr22022
              case tky22022 => (intro w' hSw; clear hSw; go_simp; try with_reducible rfl)
              try simp only [Act.put, List.setIfInBounds_toArray, List.set_cons_zero, List.set_cons_succ]
              refine wpAnyH_take (i := 6) (oi := { dst := some 36, op := Op.extract (Operand.tmp 30) 1, type := 33, pos := "law.go:62", after := #[{ on := 4, ground := Ground.data }, { on := 8, ground := Ground.gcOnly Departure.lateStores }], guard := none }) (v := ?tkv22023) rfl (by kernel_rfl) (by kernel_rfl) (by kernel_rfl) (fun _ _ _ h => h) (Or.inl ⟨by rfl, ?tky22023⟩) hH22020 ?tkr22023
              case tky22023 => (intro w' hSw; clear hSw; go_simp; try with_reducible rfl)
              try simp only [Act.put, List.setIfInBounds_toArray, List.set_cons_zero, List.set_cons_succ]
              refine wpAnyH_ready (rs := [8]) (by kernel_rfl) (by simp) ?_
              refine AllReadyH.cons (o := { dst := none, op := Op.store 30 (Operand.tmp 9) (Operand.tmp 35), type := 0, pos := "law.go:62", after := #[{ on := 7, ground := Ground.data }, { on := 5, ground := Ground.data }, { on := 3, ground := Ground.chain }, { on := 0, ground := Ground.phase }, { on := 1, ground := Ground.phase }, { on := 2, ground := Ground.phase }, { on := 3, ground := Ground.phase }, { on := 4, ground := Ground.phase }, { on := 5, ground := Ground.phase }, { on := 6, ground := Ground.textOnly Departure.lateStores }, { on := 7, ground := Ground.phase }], guard := none }) rfl (fun K hK => ?_) AllReadyH.nil
              rw [if_pos (by rfl)]
              refine wp_store_row _ _ _ rfl wd22000.heap.size zState rfl rfl _ _ BX22018_22020.out (by kernel_rfl) (by rfl) (by kernel_rfl) ?_
              have hS22024 : Below (wr.heap.size) wr (wn22020.setRow wd22000.heap.size zState) := (below_setRow2 (hH22020) GE22018.out _)
              refine hK.out _ _ hS22024 (fun hH22024 => ?_)
              have hH22024 : Below (wr.heap.size) wr (wn22020.setRow wd22000.heap.size zState) := hH22024
              clear hK K hS22024
              refine wpAnyH_take (i := 9) (oi := { dst := some 10, op := Op.assign (Operand.tmp 36), type := 33, pos := "law.go:62", after := #[{ on := 6, ground := Ground.data }, { on := 8, ground := Ground.chain }, { on := 0, ground := Ground.phase }, { on := 1, ground := Ground.phase }, { on := 2, ground := Ground.phase }, { on := 3, ground := Ground.phase }, { on := 4, ground := Ground.phase }, { on := 5, ground := Ground.phase }, { on := 6, ground := Ground.phase }, { on := 7, ground := Ground.phase }, { on := 8, ground := Ground.phase }], guard := none }) (v := ?tkv22025) rfl (by kernel_rfl) (by kernel_rfl) (by kernel_rfl) (fun _ _ _ h => h) (Or.inl ⟨by rfl, ?tky22025⟩) hH22024 ?tkr22025
              case tky22025 => (intro w' hSw; clear hSw; go_simp; try with_reducible rfl)
              try simp only [Act.put, List.setIfInBounds_toArray, List.set_cons_zero, List.set_cons_succ]
              refine wpAnyH_done (by kernel_rfl) ?_ _
              refine NoPanic.normal ?_
              go_wp2_with fail
              go_meet
              exact ⟨rfl, Lib.hid (hH22024)⟩
          case rest =>
            obtain ⟨rfl, hbe⟩ := hcut
            have HX := Lib.hid (hbx.out.below hbe.out)
            have ho : wc.cell? ⟨g5, 10, none⟩ = some (.bool L.on) := (cell_of_row wc g5 10 cs _ (0, 0) HX.out.1).trans HX.out.2.1.c10
            rw [ho2] at ho
            have q2 : (v : Int) ≤ (top : Int) := by omega
            clear hbe HR HNE
            go_wp2_with fail
            go_roundw
            case rel => exact ⟨k + 1, top, cs, L, by omega, by go_num, rfl, HNX, HX⟩
            case measure => simp [intOf]; omega
      · skip
        obtain ⟨hr0, hin⟩ := hinv.out.new (by omega) (Nat.lt_of_not_le hle)
        have HR : Hid (L.admitR (GM v) = 0) := Lib.hid hr0
        have HNV := Lib.hid hin
        clear hr0 hin
        go_upto_region 10 with fail
        go_cut [9, 10] (fun s9 s10 wx => ∃ g9 c2, s9 = .pointer (some ⟨g9, 0, none⟩) ∧ s10 = .int .i64 0 ∧ Hid (wx.heap[g9]? = some (.cells c2 30 (0, 0)) ∧ IsSt wx (fun b => b ≠ g5) c2 (L.admitted (GM v)) ∧ g9 ≠ g5 ∧ Below wr.heap.size wr wx))
        case first =>
          refine wp_region_noPanic ?_
          refine wp_region_held_drew (S := (fun W => Below (wr.heap.size) wr W)) (by kernel_rfl) (Below.refl _ _).drew (fun hH0 => ?_)
          have hH0 : Below (wr.heap.size) wr wr.drew := hH0
          generalize wr.drew = wd23000 at *
          refine wpAnyH_take (i := 0) (oi := { dst := some 31, op := Op.load 30 (Operand.tmp 5), type := 30, pos := "law.go:62", after := #[], guard := none }) (v := .agg cs) rfl (by kernel_rfl) (by kernel_rfl) (by kernel_rfl) (fun _ _ _ h => h) (yields_row (by rfl) _ _ rfl g5 rfl _ _ _ _ (fun W hW => HB5.out W hW) Try.underlying30 rfl INF.out) hH0 ?tkr23001
          try simp only [Act.put, List.setIfInBounds_toArray, List.set_cons_zero, List.set_cons_succ]
          refine wpAnyH_take (i := 1) (oi := { dst := some 32, op := Op.move (Operand.tmp 8), type := 22, pos := "law.go:62", after := #[], guard := none }) (v := ?tkv23002) rfl (by kernel_rfl) (by kernel_rfl) (by kernel_rfl) (fun _ _ _ h => h) (Or.inl ⟨by rfl, ?tky23002⟩) hH0 ?tkr23002
          case tky23002 => (intro w' hSw; clear hSw; go_simp; try with_reducible rfl)
          try simp only [Act.put, List.setIfInBounds_toArray, List.set_cons_zero, List.set_cons_succ]
          refine wpAnyH_ready (rs := [2, 7]) (by kernel_rfl) (by simp) ?_
          refine AllReadyH.cons (o := { dst := some 33, op := Op.call { callee := Callee.value (Operand.func 30), args := #[Operand.tmp 32], argTypes := #[22] }, type := 28, pos := "law.go:62", after := #[{ on := 1, ground := Ground.data }], guard := none }) rfl (fun K hK => ?_) (AllReadyH.cons (o := { dst := some 9, op := Op.alloc 30, type := 0, pos := "law.go:62", after := #[], guard := none }) rfl (fun K hK => ?_) AllReadyH.nil)
          · go_simp
            refine (goodS v wd23000).mono ?_
            rintro e' wn23003 ⟨mg23003, rfl, MG23003, hbo23003⟩
            have hb23003 := hbo23003.out
            go_simp
            have hS23003 : Below (wr.heap.size) wr wn23003 := (hH0).trans (hb23003.mono (hH0).size)
            refine hK.out _ _ hS23003 (fun hH23003 => ?_)
            have hH23003 : Below (wr.heap.size) wr wn23003 := hH23003
            clear hK K hS23003
            try simp only [Act.put, List.setIfInBounds_toArray, List.set_cons_zero, List.set_cons_succ]
            refine wpAnyH_ready (rs := [3, 7]) (by kernel_rfl) (by simp) ?_
            refine AllReadyH.cons (o := { dst := some 34, op := Op.call { callee := Callee.value (Operand.func 24), args := #[Operand.tmp 31, Operand.tmp 33], argTypes := #[30, 28] }, type := 40, pos := "law.go:62", after := #[{ on := 0, ground := Ground.data }, { on := 2, ground := Ground.data }, { on := 2, ground := Ground.chain }], guard := none }) rfl (fun K hK => ?_) (AllReadyH.cons (o := { dst := some 9, op := Op.alloc 30, type := 0, pos := "law.go:62", after := #[], guard := none }) rfl (fun K hK => ?_) AllReadyH.nil)
            · go_simp
              refine (admitS_yes (HS5.out wn23003 (hH23003)) MG23003.out HR.out).mono ?_
              rintro e' wn23004 ⟨cz23004, rfl, S23004o, hbo23004⟩
              have hb23004 := hbo23004.out
              have S23004 := Lib.hid (S23004o.out.imp (P' := fun b => b ≠ g5) (fun b _ hb => Nat.ne_of_gt (Nat.lt_of_lt_of_le (Nat.lt_of_lt_of_le L5.out (hH23003).size) hb)))
              clear S23004o
              have I23004 := Lib.hid S23004.out.inf
              have O23004 := Lib.hid S23004.out.one
              have Z23004 : Hid (17 = cz23004.size) := Lib.hid S23004.out.size.symm
              go_simp
              have MG23003_23004 := Lib.hid (MG23003.out.below hb23004)
              have hS23004 : Below (wr.heap.size) wr wn23004 := (hH23003).trans (hb23004.mono (hH23003).size)
              refine hK.out _ _ hS23004 (fun hH23004 => ?_)
              have hH23004 : Below (wr.heap.size) wr wn23004 := hH23004
              clear hK K hS23004
              try simp only [Act.put, List.setIfInBounds_toArray, List.set_cons_zero, List.set_cons_succ]
              refine wpAnyH_take (i := 4) (oi := { dst := some 30, op := Op.move (Operand.tmp 34), type := 40, pos := "law.go:62", after := #[{ on := 3, ground := Ground.data }], guard := none }) (v := ?tkv23005) rfl (by kernel_rfl) (by kernel_rfl) (by kernel_rfl) (fun _ _ _ h => h) (Or.inl ⟨by rfl, ?tky23005⟩) hH23004 ?tkr23005
              case tky23005 => (intro w' hSw; clear hSw; go_simp; try with_reducible rfl)
              try simp only [Act.put, List.setIfInBounds_toArray, List.set_cons_zero, List.set_cons_succ]
              refine wpAnyH_take (i := 5) (oi := { dst := some 35, op := Op.extract (Operand.tmp 30) 0, type := 30, pos := "law.go:62", after := #[{ on := 4, ground := Ground.data }], guard := none }) (v := ?tkv23006) rfl (by kernel_rfl) (by kernel_rfl) (by kernel_rfl) (fun _ _ _ h => h) (Or.inl ⟨by rfl, ?tky23006⟩) hH23004 ?tkr23006
              case tky23006 => (intro w' hSw; clear hSw; go_simp; try with_reducible rfl)
              try simp only [Act.put, List.setIfInBounds_toArray, List.set_cons_zero, List.set_cons_succ]
              refine wpAnyH_take (i := 6) (oi := { dst := some 36, op := Op.extract (Operand.tmp 30) 1, type := 33, pos := "law.go:62", after := #[{ on := 4, ground := Ground.data }, { on := 8, ground := Ground.gcOnly Departure.lateStores }], guard := none }) (v := ?tkv23007) rfl (by kernel_rfl) (by kernel_rfl) (by kernel_rfl) (fun _ _ _ h => h) (Or.inl ⟨by rfl, ?tky23007⟩) hH23004 ?tkr23007
              case tky23007 => (intro w' hSw; clear hSw; go_simp; try with_reducible rfl)
              try simp only [Act.put, List.setIfInBounds_toArray, List.set_cons_zero, List.set_cons_succ]
              refine wpAnyH_ready (rs := [7]) (by kernel_rfl) (by simp) ?_
              refine AllReadyH.cons (o := { dst := some 9, op := Op.alloc 30, type := 0, pos := "law.go:62", after := #[], guard := none }) rfl (fun K hK => ?_) AllReadyH.nil
              have S23004q := Lib.hid (S23004.out.imp (P' := fun b => b ≠ wn23004.heap.size ∧ b ≠ g5) (fun b hb hp => ⟨Nat.ne_of_lt hb, hp⟩))
              go_simp
              have hb23008 : Below wn23004.heap.size wn23004 (wn23004.alloc (.cells #[.int .i64 0, .int .i64 0, .int .u32 0, .int .u32 0, .int .u32 0, .int .i64 0, .slice none 0 0, .int .u32 0, .int .i64 0, .slice none 0 0, .bool false, .int .u32 0, .int .u32 0, .int .i64 0, .int .i64 0, .int .i64 0, .slice none 0 0] 30)) := (Below.refl _ _).alloc (Nat.le_refl _) _
              have BX23008 : Hid ((wn23004.alloc (.cells #[.int .i64 0, .int .i64 0, .int .u32 0, .int .u32 0, .int .u32 0, .int .i64 0, .slice none 0 0, .int .u32 0, .int .i64 0, .slice none 0 0, .bool false, .int .u32 0, .int .u32 0, .int .i64 0, .int .i64 0, .int .i64 0, .slice none 0 0] 30)).heap[wn23004.heap.size]? = some (.cells #[.int .i64 0, .int .i64 0, .int .u32 0, .int .u32 0, .int .u32 0, .int .i64 0, .slice none 0 0, .int .u32 0, .int .i64 0, .slice none 0 0, .bool false, .int .u32 0, .int .u32 0, .int .i64 0, .int .i64 0, .int .i64 0, .slice none 0 0] 30 (0, 0))) := Lib.hid (heap_alloc_new _ _)
              have LX23008 : Hid (wn23004.heap.size < (wn23004.alloc (.cells #[.int .i64 0, .int .i64 0, .int .u32 0, .int .u32 0, .int .u32 0, .int .i64 0, .slice none 0 0, .int .u32 0, .int .i64 0, .slice none 0 0, .bool false, .int .u32 0, .int .u32 0, .int .i64 0, .int .i64 0, .int .i64 0, .slice none 0 0] 30)).heap.size) := Lib.hid (by simp)
              have GE23008 : Hid (wr.heap.size ≤ wn23004.heap.size) := Lib.hid (hH23004).size
              generalize (wn23004.alloc (.cells #[.int .i64 0, .int .i64 0, .int .u32 0, .int .u32 0, .int .u32 0, .int .i64 0, .slice none 0 0, .int .u32 0, .int .i64 0, .slice none 0 0, .bool false, .int .u32 0, .int .u32 0, .int .i64 0, .int .i64 0, .int .i64 0, .slice none 0 0] 30)) = wn23008 at *
              have MG23003_23008 := Lib.hid (MG23003_23004.out.below hb23008)
              have S23004q_23008 := Lib.hid (S23004q.out.below hb23008)
              have hS23008 : Below (wr.heap.size) wr wn23008 := (hH23004).trans (hb23008.mono (hH23004).size)
              refine hK.out _ _ hS23008 (fun hH23008 => ?_)
              have hH23008 : Below (wr.heap.size) wr wn23008 := hH23008
              clear hK K hS23008
              try simp only [Act.put, List.setIfInBounds_toArray, List.set_cons_zero, List.set_cons_succ]
              refine wpAnyH_ready (rs := [8]) (by kernel_rfl) (by simp) ?_
              refine AllReadyH.cons (o := { dst := none, op := Op.store 30 (Operand.tmp 9) (Operand.tmp 35), type := 0, pos := "law.go:62", after := #[{ on := 7, ground := Ground.data }, { on := 5, ground := Ground.data }, { on := 3, ground := Ground.chain }, { on := 0, ground := Ground.phase }, { on := 1, ground := Ground.phase }, { on := 2, ground := Ground.phase }, { on := 3, ground := Ground.phase }, { on := 4, ground := Ground.phase }, { on := 5, ground := Ground.phase }, { on := 6, ground := Ground.textOnly Departure.lateStores }, { on := 7, ground := Ground.phase }], guard := none }) rfl (fun K hK => ?_) AllReadyH.nil
              rw [if_pos (by rfl)]
              refine wp_store_row _ _ _ rfl wn23004.heap.size cz23004 rfl rfl _ _ BX23008.out I23004.out Z23004.out O23004.out ?_
              have hS23009 : Below (wr.heap.size) wr (wn23008.setRow wn23004.heap.size cz23004) := (below_setRow2 (hH23008) GE23008.out _)
              refine hK.out _ _ hS23009 (fun hH23009 => ?_)
              have hH23009 : Below (wr.heap.size) wr (wn23008.setRow wn23004.heap.size cz23004) := hH23009
              clear hK K hS23009
              refine wpAnyH_take (i := 9) (oi := { dst := some 10, op := Op.assign (Operand.tmp 36), type := 33, pos := "law.go:62", after := #[{ on := 6, ground := Ground.data }, { on := 8, ground := Ground.chain }, { on := 0, ground := Ground.phase }, { on := 1, ground := Ground.phase }, { on := 2, ground := Ground.phase }, { on := 3, ground := Ground.phase }, { on := 4, ground := Ground.phase }, { on := 5, ground := Ground.phase }, { on := 6, ground := Ground.phase }, { on := 7, ground := Ground.phase }, { on := 8, ground := Ground.phase }], guard := none }) (v := ?tkv23010) rfl (by kernel_rfl) (by kernel_rfl) (by kernel_rfl) (fun _ _ _ h => h) (Or.inl ⟨by rfl, ?tky23010⟩) hH23009 ?tkr23010
              case tky23010 => (intro w' hSw; clear hSw; go_simp; try with_reducible rfl)
              try simp only [Act.put, List.setIfInBounds_toArray, List.set_cons_zero, List.set_cons_succ]
              refine wpAnyH_done (by kernel_rfl) ?_ _
              refine NoPanic.normal ?_
              have hrow := setRow_heap _ _ _ cz23004 _ _ BX23008.out
              have hst := S23004q_23008.out.keep (w' := wn23008.setRow wn23004.heap.size cz23004) (by simp) (fun b hb _ => setRow_other _ _ _ _ hb.1)
              have HFIN := Lib.hid (And.intro hrow (And.intro (hst.imp (P' := fun b => b ≠ g5) fun _ _ h => h.2) (And.intro (Nat.ne_of_gt (Nat.lt_of_lt_of_le L5.out GE23008.out)) hH23009)))
              clear hrow hst
              go_wp2_with fail
              go_meet
              exact ⟨_, _, rfl, rfl, HFIN⟩
            · go_simp
              have hb23011 : Below wn23003.heap.size wn23003 (wn23003.alloc (.cells #[.int .i64 0, .int .i64 0, .int .u32 0, .int .u32 0, .int .u32 0, .int .i64 0, .slice none 0 0, .int .u32 0, .int .i64 0, .slice none 0 0, .bool false, .int .u32 0, .int .u32 0, .int .i64 0, .int .i64 0, .int .i64 0, .slice none 0 0] 30)) := (Below.refl _ _).alloc (Nat.le_refl _) _
              have BX23011 : Hid ((wn23003.alloc (.cells #[.int .i64 0, .int .i64 0, .int .u32 0, .int .u32 0, .int .u32 0, .int .i64 0, .slice none 0 0, .int .u32 0, .int .i64 0, .slice none 0 0, .bool false, .int .u32 0, .int .u32 0, .int .i64 0, .int .i64 0, .int .i64 0, .slice none 0 0] 30)).heap[wn23003.heap.size]? = some (.cells #[.int .i64 0, .int .i64 0, .int .u32 0, .int .u32 0, .int .u32 0, .int .i64 0, .slice none 0 0, .int .u32 0, .int .i64 0, .slice none 0 0, .bool false, .int .u32 0, .int .u32 0, .int .i64 0, .int .i64 0, .int .i64 0, .slice none 0 0] 30 (0, 0))) := Lib.hid (heap_alloc_new _ _)
              have LX23011 : Hid (wn23003.heap.size < (wn23003.alloc (.cells #[.int .i64 0, .int .i64 0, .int .u32 0, .int .u32 0, .int .u32 0, .int .i64 0, .slice none 0 0, .int .u32 0, .int .i64 0, .slice none 0 0, .bool false, .int .u32 0, .int .u32 0, .int .i64 0, .int .i64 0, .int .i64 0, .slice none 0 0] 30)).heap.size) := Lib.hid (by simp)
              have GE23011 : Hid (wr.heap.size ≤ wn23003.heap.size) := Lib.hid (hH23003).size
              generalize (wn23003.alloc (.cells #[.int .i64 0, .int .i64 0, .int .u32 0, .int .u32 0, .int .u32 0, .int .i64 0, .slice none 0 0, .int .u32 0, .int .i64 0, .slice none 0 0, .bool false, .int .u32 0, .int .u32 0, .int .i64 0, .int .i64 0, .int .i64 0, .slice none 0 0] 30)) = wn23011 at *
              have MG23003_23011 := Lib.hid (MG23003.out.below hb23011)
              have hS23011 : Below (wr.heap.size) wr wn23011 := (hH23003).trans (hb23011.mono (hH23003).size)
              refine hK.out _ _ hS23011 (fun hH23011 => ?_)
              have hH23011 : Below (wr.heap.size) wr wn23011 := hH23011
              clear hK K hS23011
              try simp only [Act.put, List.setIfInBounds_toArray, List.set_cons_zero, List.set_cons_succ]
              refine wpAnyH_ready (rs := [3]) (by kernel_rfl) (by simp) ?_
              refine AllReadyH.cons (o := { dst := some 34, op := Op.call { callee := Callee.value (Operand.func 24), args := #[Operand.tmp 31, Operand.tmp 33], argTypes := #[30, 28] }, type := 40, pos := "law.go:62", after := #[{ on := 0, ground := Ground.data }, { on := 2, ground := Ground.data }, { on := 2, ground := Ground.chain }], guard := none }) rfl (fun K hK => ?_) AllReadyH.nil
              go_simp
              refine (admitS_yes (HS5.out wn23011 (hH23011)) MG23003_23011.out HR.out).mono ?_
              rintro e' wn23012 ⟨cz23012, rfl, S23012o, hbo23012⟩
              have hb23012 := hbo23012.out
              have S23012 := Lib.hid (S23012o.out.imp (P' := fun b => b ≠ wn23003.heap.size ∧ b ≠ g5) (fun b _ hb => ⟨Nat.ne_of_gt (Nat.lt_of_lt_of_le LX23011.out hb), Nat.ne_of_gt (Nat.lt_of_lt_of_le (Nat.lt_of_lt_of_le L5.out (hH23011).size) hb)⟩))
              clear S23012o
              have I23012 := Lib.hid S23012.out.inf
              have O23012 := Lib.hid S23012.out.one
              have Z23012 : Hid (17 = cz23012.size) := Lib.hid S23012.out.size.symm
              go_simp
              have MG23003_23012 := Lib.hid (MG23003_23011.out.below hb23012)
              have BX23011_23012 := Lib.hid ((hb23012.block wn23003.heap.size LX23011.out).trans BX23011.out)
              have LX23011_23012 := Lib.hid (Nat.lt_of_lt_of_le LX23011.out hb23012.size)
              have hS23012 : Below (wr.heap.size) wr wn23012 := (hH23011).trans (hb23012.mono (hH23011).size)
              refine hK.out _ _ hS23012 (fun hH23012 => ?_)
              have hH23012 : Below (wr.heap.size) wr wn23012 := hH23012
              clear hK K hS23012
              try simp only [Act.put, List.setIfInBounds_toArray, List.set_cons_zero, List.set_cons_succ]
              refine wpAnyH_take (i := 4) (oi := { dst := some 30, op := Op.move (Operand.tmp 34), type := 40, pos := "law.go:62", after := #[{ on := 3, ground := Ground.data }], guard := none }) (v := ?tkv23013) rfl (by kernel_rfl) (by kernel_rfl) (by kernel_rfl) (fun _ _ _ h => h) (Or.inl ⟨by rfl, ?tky23013⟩) hH23012 ?tkr23013
              case tky23013 => (intro w' hSw; clear hSw; go_simp; try with_reducible rfl)
              try simp only [Act.put, List.setIfInBounds_toArray, List.set_cons_zero, List.set_cons_succ]
              refine wpAnyH_take (i := 5) (oi := { dst := some 35, op := Op.extract (Operand.tmp 30) 0, type := 30, pos := "law.go:62", after := #[{ on := 4, ground := Ground.data }], guard := none }) (v := ?tkv23014) rfl (by kernel_rfl) (by kernel_rfl) (by kernel_rfl) (fun _ _ _ h => h) (Or.inl ⟨by rfl, ?tky23014⟩) hH23012 ?tkr23014
              case tky23014 => (intro w' hSw; clear hSw; go_simp; try with_reducible rfl)
              try simp only [Act.put, List.setIfInBounds_toArray, List.set_cons_zero, List.set_cons_succ]
              refine wpAnyH_take (i := 6) (oi := { dst := some 36, op := Op.extract (Operand.tmp 30) 1, type := 33, pos := "law.go:62", after := #[{ on := 4, ground := Ground.data }, { on := 8, ground := Ground.gcOnly Departure.lateStores }], guard := none }) (v := ?tkv23015) rfl (by kernel_rfl) (by kernel_rfl) (by kernel_rfl) (fun _ _ _ h => h) (Or.inl ⟨by rfl, ?tky23015⟩) hH23012 ?tkr23015
              case tky23015 => (intro w' hSw; clear hSw; go_simp; try with_reducible rfl)
              try simp only [Act.put, List.setIfInBounds_toArray, List.set_cons_zero, List.set_cons_succ]
              refine wpAnyH_ready (rs := [8]) (by kernel_rfl) (by simp) ?_
              refine AllReadyH.cons (o := { dst := none, op := Op.store 30 (Operand.tmp 9) (Operand.tmp 35), type := 0, pos := "law.go:62", after := #[{ on := 7, ground := Ground.data }, { on := 5, ground := Ground.data }, { on := 3, ground := Ground.chain }, { on := 0, ground := Ground.phase }, { on := 1, ground := Ground.phase }, { on := 2, ground := Ground.phase }, { on := 3, ground := Ground.phase }, { on := 4, ground := Ground.phase }, { on := 5, ground := Ground.phase }, { on := 6, ground := Ground.textOnly Departure.lateStores }, { on := 7, ground := Ground.phase }], guard := none }) rfl (fun K hK => ?_) AllReadyH.nil
              rw [if_pos (by rfl)]
              refine wp_store_row _ _ _ rfl wn23003.heap.size cz23012 rfl rfl _ _ BX23011_23012.out I23012.out Z23012.out O23012.out ?_
              have hS23016 : Below (wr.heap.size) wr (wn23012.setRow wn23003.heap.size cz23012) := (below_setRow2 (hH23012) GE23011.out _)
              refine hK.out _ _ hS23016 (fun hH23016 => ?_)
              have hH23016 : Below (wr.heap.size) wr (wn23012.setRow wn23003.heap.size cz23012) := hH23016
              clear hK K hS23016
              refine wpAnyH_take (i := 9) (oi := { dst := some 10, op := Op.assign (Operand.tmp 36), type := 33, pos := "law.go:62", after := #[{ on := 6, ground := Ground.data }, { on := 8, ground := Ground.chain }, { on := 0, ground := Ground.phase }, { on := 1, ground := Ground.phase }, { on := 2, ground := Ground.phase }, { on := 3, ground := Ground.phase }, { on := 4, ground := Ground.phase }, { on := 5, ground := Ground.phase }, { on := 6, ground := Ground.phase }, { on := 7, ground := Ground.phase }, { on := 8, ground := Ground.phase }], guard := none }) (v := ?tkv23017) rfl (by kernel_rfl) (by kernel_rfl) (by kernel_rfl) (fun _ _ _ h => h) (Or.inl ⟨by rfl, ?tky23017⟩) hH23016 ?tkr23017
              case tky23017 => (intro w' hSw; clear hSw; go_simp; try with_reducible rfl)
              try simp only [Act.put, List.setIfInBounds_toArray, List.set_cons_zero, List.set_cons_succ]
              refine wpAnyH_done (by kernel_rfl) ?_ _
              refine NoPanic.normal ?_
              have hrow := setRow_heap _ _ _ cz23012 _ _ BX23011_23012.out
              have hst := S23012.out.keep (w' := wn23012.setRow wn23003.heap.size cz23012) (by simp) (fun b hb _ => setRow_other _ _ _ _ hb.1)
              have HFIN := Lib.hid (And.intro hrow (And.intro (hst.imp (P' := fun b => b ≠ g5) fun _ _ h => h.2) (And.intro (Nat.ne_of_gt (Nat.lt_of_lt_of_le L5.out GE23011.out)) hH23016)))
              clear hrow hst
              go_wp2_with fail
              go_meet
              exact ⟨_, _, rfl, rfl, HFIN⟩
          · go_simp
            have hb23018 : Below wd23000.heap.size wd23000 (wd23000.alloc (.cells #[.int .i64 0, .int .i64 0, .int .u32 0, .int .u32 0, .int .u32 0, .int .i64 0, .slice none 0 0, .int .u32 0, .int .i64 0, .slice none 0 0, .bool false, .int .u32 0, .int .u32 0, .int .i64 0, .int .i64 0, .int .i64 0, .slice none 0 0] 30)) := (Below.refl _ _).alloc (Nat.le_refl _) _
            have BX23018 : Hid ((wd23000.alloc (.cells #[.int .i64 0, .int .i64 0, .int .u32 0, .int .u32 0, .int .u32 0, .int .i64 0, .slice none 0 0, .int .u32 0, .int .i64 0, .slice none 0 0, .bool false, .int .u32 0, .int .u32 0, .int .i64 0, .int .i64 0, .int .i64 0, .slice none 0 0] 30)).heap[wd23000.heap.size]? = some (.cells #[.int .i64 0, .int .i64 0, .int .u32 0, .int .u32 0, .int .u32 0, .int .i64 0, .slice none 0 0, .int .u32 0, .int .i64 0, .slice none 0 0, .bool false, .int .u32 0, .int .u32 0, .int .i64 0, .int .i64 0, .int .i64 0, .slice none 0 0] 30 (0, 0))) := Lib.hid (heap_alloc_new _ _)
            have LX23018 : Hid (wd23000.heap.size < (wd23000.alloc (.cells #[.int .i64 0, .int .i64 0, .int .u32 0, .int .u32 0, .int .u32 0, .int .i64 0, .slice none 0 0, .int .u32 0, .int .i64 0, .slice none 0 0, .bool false, .int .u32 0, .int .u32 0, .int .i64 0, .int .i64 0, .int .i64 0, .slice none 0 0] 30)).heap.size) := Lib.hid (by simp)
            have GE23018 : Hid (wr.heap.size ≤ wd23000.heap.size) := Lib.hid (hH0).size
            generalize (wd23000.alloc (.cells #[.int .i64 0, .int .i64 0, .int .u32 0, .int .u32 0, .int .u32 0, .int .i64 0, .slice none 0 0, .int .u32 0, .int .i64 0, .slice none 0 0, .bool false, .int .u32 0, .int .u32 0, .int .i64 0, .int .i64 0, .int .i64 0, .slice none 0 0] 30)) = wn23018 at *
            have hS23018 : Below (wr.heap.size) wr wn23018 := (hH0).trans (hb23018.mono (hH0).size)
            refine hK.out _ _ hS23018 (fun hH23018 => ?_)
            have hH23018 : Below (wr.heap.size) wr wn23018 := hH23018
            clear hK K hS23018
            try simp only [Act.put, List.setIfInBounds_toArray, List.set_cons_zero, List.set_cons_succ]
            refine wpAnyH_ready (rs := [2]) (by kernel_rfl) (by simp) ?_
            refine AllReadyH.cons (o := { dst := some 33, op := Op.call { callee := Callee.value (Operand.func 30), args := #[Operand.tmp 32], argTypes := #[22] }, type := 28, pos := "law.go:62", after := #[{ on := 1, ground := Ground.data }], guard := none }) rfl (fun K hK => ?_) AllReadyH.nil
            go_simp
            refine (goodS v wn23018).mono ?_
            rintro e' wn23019 ⟨mg23019, rfl, MG23019, hbo23019⟩
            have hb23019 := hbo23019.out
            go_simp
            have BX23018_23019 := Lib.hid ((hb23019.block wd23000.heap.size LX23018.out).trans BX23018.out)
            have LX23018_23019 := Lib.hid (Nat.lt_of_lt_of_le LX23018.out hb23019.size)
            have hS23019 : Below (wr.heap.size) wr wn23019 := (hH23018).trans (hb23019.mono (hH23018).size)
            refine hK.out _ _ hS23019 (fun hH23019 => ?_)
            have hH23019 : Below (wr.heap.size) wr wn23019 := hH23019
            clear hK K hS23019
            try simp only [Act.put, List.setIfInBounds_toArray, List.set_cons_zero, List.set_cons_succ]
            refine wpAnyH_ready (rs := [3]) (by kernel_rfl) (by simp) ?_
            refine AllReadyH.cons (o := { dst := some 34, op := Op.call { callee := Callee.value (Operand.func 24), args := #[Operand.tmp 31, Operand.tmp 33], argTypes := #[30, 28] }, type := 40, pos := "law.go:62", after := #[{ on := 0, ground := Ground.data }, { on := 2, ground := Ground.data }, { on := 2, ground := Ground.chain }], guard := none }) rfl (fun K hK => ?_) AllReadyH.nil
            go_simp
            refine (admitS_yes (HS5.out wn23019 (hH23019)) MG23019.out HR.out).mono ?_
            rintro e' wn23020 ⟨cz23020, rfl, S23020o, hbo23020⟩
            have hb23020 := hbo23020.out
            have S23020 := Lib.hid (S23020o.out.imp (P' := fun b => b ≠ wd23000.heap.size ∧ b ≠ g5) (fun b _ hb => ⟨Nat.ne_of_gt (Nat.lt_of_lt_of_le LX23018_23019.out hb), Nat.ne_of_gt (Nat.lt_of_lt_of_le (Nat.lt_of_lt_of_le L5.out (hH23019).size) hb)⟩))
            clear S23020o
            have I23020 := Lib.hid S23020.out.inf
            have O23020 := Lib.hid S23020.out.one
            have Z23020 : Hid (17 = cz23020.size) := Lib.hid S23020.out.size.symm
            go_simp
            have BX23018_23020 := Lib.hid ((hb23020.block wd23000.heap.size LX23018_23019.out).trans BX23018_23019.out)
            have LX23018_23020 := Lib.hid (Nat.lt_of_lt_of_le LX23018_23019.out hb23020.size)
            have MG23019_23020 := Lib.hid (MG23019.out.below hb23020)
            have hS23020 : Below (wr.heap.size) wr wn23020 := (hH23019).trans (hb23020.mono (hH23019).size)
            refine hK.out _ _ hS23020 (fun hH23020 => ?_)
            have hH23020 : Below (wr.heap.size) wr wn23020 := hH23020
            clear hK K hS23020
            try simp only [Act.put, List.setIfInBounds_toArray, List.set_cons_zero, List.set_cons_succ]
            refine wpAnyH_take (i := 4) (oi := { dst := some 30, op := Op.move (Operand.tmp 34), type := 40, pos := "law.go:62", after := #[{ on := 3, ground := Ground.data }], guard := none }) (v := ?tkv23021) rfl (by kernel_rfl) (by kernel_rfl) (by kernel_rfl) (fun _ _ _ h => h) (Or.inl ⟨by rfl, ?tky23021⟩) hH23020 ?tkr23021
            case tky23021 => (intro w' hSw; clear hSw; go_simp; try with_reducible rfl)
            try simp only [Act.put, List.setIfInBounds_toArray, List.set_cons_zero, List.set_cons_succ]
            refine wpAnyH_take (i := 5) (oi := { dst := some 35, op := Op.extract (Operand.tmp 30) 0, type := 30, pos := "law.go:62", after := #[{ on := 4, ground := Ground.data }], guard := none }) (v := ?tkv23022) rfl (by kernel_rfl) (by kernel_rfl) (by kernel_rfl) (fun _ _ _ h => h) (Or.inl ⟨by rfl, ?tky23022⟩) hH23020 ?tkr23022
            case tky23022 => (intro w' hSw; clear hSw; go_simp; try with_reducible rfl)
            try simp only [Act.put, List.setIfInBounds_toArray, List.set_cons_zero, List.set_cons_succ]
            refine wpAnyH_take (i := 6) (oi := { dst := some 36, op := Op.extract (Operand.tmp 30) 1, type := 33, pos := "law.go:62", after := #[{ on := 4, ground := Ground.data }, { on := 8, ground := Ground.gcOnly Departure.lateStores }], guard := none }) (v := ?tkv23023) rfl (by kernel_rfl) (by kernel_rfl) (by kernel_rfl) (fun _ _ _ h => h) (Or.inl ⟨by rfl, ?tky23023⟩) hH23020 ?tkr23023
            case tky23023 => (intro w' hSw; clear hSw; go_simp; try with_reducible rfl)
            try simp only [Act.put, List.setIfInBounds_toArray, List.set_cons_zero, List.set_cons_succ]
            refine wpAnyH_ready (rs := [8]) (by kernel_rfl) (by simp) ?_
            refine AllReadyH.cons (o := { dst := none, op := Op.store 30 (Operand.tmp 9) (Operand.tmp 35), type := 0, pos := "law.go:62", after := #[{ on := 7, ground := Ground.data }, { on := 5, ground := Ground.data }, { on := 3, ground := Ground.chain }, { on := 0, ground := Ground.phase }, { on := 1, ground := Ground.phase }, { on := 2, ground := Ground.phase }, { on := 3, ground := Ground.phase }, { on := 4, ground := Ground.phase }, { on := 5, ground := Ground.phase }, { on := 6, ground := Ground.textOnly Departure.lateStores }, { on := 7, ground := Ground.phase }], guard := none }) rfl (fun K hK => ?_) AllReadyH.nil
            rw [if_pos (by rfl)]
            refine wp_store_row _ _ _ rfl wd23000.heap.size cz23020 rfl rfl _ _ BX23018_23020.out I23020.out Z23020.out O23020.out ?_
            have hS23024 : Below (wr.heap.size) wr (wn23020.setRow wd23000.heap.size cz23020) := (below_setRow2 (hH23020) GE23018.out _)
            refine hK.out _ _ hS23024 (fun hH23024 => ?_)
            have hH23024 : Below (wr.heap.size) wr (wn23020.setRow wd23000.heap.size cz23020) := hH23024
            clear hK K hS23024
            refine wpAnyH_take (i := 9) (oi := { dst := some 10, op := Op.assign (Operand.tmp 36), type := 33, pos := "law.go:62", after := #[{ on := 6, ground := Ground.data }, { on := 8, ground := Ground.chain }, { on := 0, ground := Ground.phase }, { on := 1, ground := Ground.phase }, { on := 2, ground := Ground.phase }, { on := 3, ground := Ground.phase }, { on := 4, ground := Ground.phase }, { on := 5, ground := Ground.phase }, { on := 6, ground := Ground.phase }, { on := 7, ground := Ground.phase }, { on := 8, ground := Ground.phase }], guard := none }) (v := ?tkv23025) rfl (by kernel_rfl) (by kernel_rfl) (by kernel_rfl) (fun _ _ _ h => h) (Or.inl ⟨by rfl, ?tky23025⟩) hH23024 ?tkr23025
            case tky23025 => (intro w' hSw; clear hSw; go_simp; try with_reducible rfl)
            try simp only [Act.put, List.setIfInBounds_toArray, List.set_cons_zero, List.set_cons_succ]
            refine wpAnyH_done (by kernel_rfl) ?_ _
            refine NoPanic.normal ?_
            have hrow := setRow_heap _ _ _ cz23020 _ _ BX23018_23020.out
            have hst := S23020.out.keep (w' := wn23020.setRow wd23000.heap.size cz23020) (by simp) (fun b hb _ => setRow_other _ _ _ _ hb.1)
            have HFIN := Lib.hid (And.intro hrow (And.intro (hst.imp (P' := fun b => b ≠ g5) fun _ _ h => h.2) (And.intro (Nat.ne_of_gt (Nat.lt_of_lt_of_le L5.out GE23018.out)) hH23024)))
            clear hrow hst
            go_wp2_with fail
            go_meet
            exact ⟨_, _, rfl, rfl, HFIN⟩
        case rest =>
          obtain ⟨g9, c2, rfl, rfl, hfin⟩ := hcut
          have HX := Lib.hid (hbx.out.below hfin.out.2.2.2)
          have ho : wc.cell? ⟨g5, 10, none⟩ = some (.bool L.on) := (cell_of_row wc g5 10 cs _ (0, 0) HX.out.1).trans HX.out.2.1.c10
          have q1 : ((v : Int) == (top : Int)) = false := by simp; omega
          have q2 : ¬ (v : Int) ≤ (top : Int) := by omega
          have q3 : ¬ v ≤ top := hle
          have I2 := Lib.hid hfin.out.2.1.inf
          have O2 := Lib.hid hfin.out.2.1.one
          have Z2 : Hid (cs.size = c2.size) := Lib.hid (HX.out.2.1.size.trans hfin.out.2.1.size.symm)
          have hw : w.heap.size ≤ g5 := W5.out
          have HY : Hid (BoxAt w g5 c2 (L.admitted (GM v)) (wc.setRow g5 c2)) := Lib.hid ⟨setRow_heap _ _ _ c2 _ _ HX.out.1, hfin.out.2.1.keep (by simp) (fun b hb _ => setRow_other _ _ _ _ hb), below_setRow2 HX.out.2.2 hw _⟩
          have HL9 := Lib.hid hfin.out.1
          clear hfin HR hw
          cases hon : L.on with
          | false =>
            rw [hon] at ho
            go_wp2_with (first
              | ((with_reducible show wpList _ _ _ _ _ _); refine wpList_load_row (o := ⟨some 56, _, _, _, _, _⟩) rfl _ (.tmp 9) rfl g9 rfl _ _ _ _ HL9.out Try.underlying30 rfl I2.out ?_)
              | ((with_reducible show wpList _ _ _ _ _ _); refine wpList_store_in rfl rfl _ (.tmp 5) (.tmp 56) rfl g5 c2 rfl rfl _ _ HX.out.1 I2.out Z2.out O2.out ?_))
            go_roundw
            case rel => exact ⟨k + 1, v, c2, L.admitted (GM v), by omega, by go_num, rfl, HNV, HY⟩
            case measure => simp [intOf]; omega
          | true =>
            rw [hon] at ho
            go_wp2_with (first
              | ((with_reducible show wpList _ _ _ _ _ _); refine wpList_load_row (o := ⟨some 56, _, _, _, _, _⟩) rfl _ (.tmp 9) rfl g9 rfl _ _ _ _ HL9.out Try.underlying30 rfl I2.out ?_)
              | ((with_reducible show wpList _ _ _ _ _ _); refine wpList_store_in rfl rfl _ (.tmp 5) (.tmp 56) rfl g5 c2 rfl rfl _ _ HX.out.1 I2.out Z2.out O2.out ?_))
            go_roundw
            case rel => exact ⟨k + 1, v, c2, L.admitted (GM v), by omega, by go_num, rfl, HNV, HY⟩
            case measure => simp [intOf]; omega
    · obtain rfl : n = k := by omega
      go_wp2_with fail
      refine (awake22_any wr).mono ?_
      rintro e w9 ⟨rfl, hb9⟩
      have HE9 := Lib.hid (hbx.out.below hb9).2.2
      clear hb9
      go_wp2_with fail
      go_ret
      exact ⟨rfl, HE9.out⟩
set_option maxRecDepth 100000 in
set_option maxHeartbeats 3200000 in
theorem row_t (A : Option Addr) (n cap : Nat) (us : List Nat) (w : World) (hn : n ≤ 60) (hu : ∀ i, i < n → ∃ b o, A = some ⟨b, o, none⟩ ∧ b < w.heap.size ∧ w.cell? ⟨b, o + i, none⟩ = some (.int .u32 ((us.getD i 0 : Nat) : Int)) ∧ us.getD i 0 < 4294967296) :
    Calls Try.prog 10 #[.slice A n cap, .bool true] w fun e w' => e = .returned (.bool true) ∧ Below w.heap.size w w' := by
  have HU := Lib.hid hu
  clear hu
  go_enter Try.func10, Try.ntmps10
  go_wp2_with fail
  refine (firstS w).mono ?_
  rintro e w1 ⟨cs, rfl, hs, hb⟩
  have I1 := Lib.hid hs.out.inf
  have O1 := Lib.hid hs.out.one
  have Z1 : Hid (17 = cs.size) := Lib.hid hs.out.size.symm
  have hba : Below w1.heap.size w1 (w1.alloc (.cells cs 30)) := (Below.refl _ _).alloc (Nat.le_refl _) _
  have HA : Hid (BoxAt w w1.heap.size cs LF (w1.alloc (.cells cs 30))) := Lib.hid ⟨heap_alloc_new _ _, (hs.out.imp (P' := fun b => b ≠ w1.heap.size) (fun b h _ => Nat.ne_of_lt h)).below hba, hb.out.trans (hba.mono hb.out.size)⟩
  have W5 : Hid (w.heap.size ≤ w1.heap.size) := Lib.hid hb.out.size
  clear hs hb hba
  go_upto_region 5 with ((with_reducible show wpList _ _ _ _ _ _); refine wpList_store_new rfl rfl _ (.tmp 5) (.tmp 16) rfl _ _ cs _ rfl rfl I1.out Z1.out O1.out ?_)
  obtain ⟨A0, c0, A1, c1, A9, c9, hcs, r0, r1, r2⟩ := HA.out.2.1
  have hbx : (w1.alloc (.cells cs 30)).heap[w1.heap.size]? = some (.cells (LF.cells A0 c0 A1 c1 A9 c9) 30 (0, 0)) := by rw [← hcs]; exact HA.out.1
  have k4 : (w1.alloc (.cells cs 30)).cell? ⟨w1.heap.size, 4, none⟩ = some (.int .u32 1) := by rw [cell_of_row _ _ 4 _ _ (0, 0) hbx]; rfl
  have k5 : (w1.alloc (.cells cs 30)).cell? ⟨w1.heap.size, 5, none⟩ = some (.int .i64 3) := by rw [cell_of_row _ _ 5 _ _ (0, 0) hbx]; rfl
  have k6 : (w1.alloc (.cells cs 30)).cell? ⟨w1.heap.size, 6, none⟩ = some (.slice A0 32 c0) := by rw [cell_of_row _ _ 6 _ _ (0, 0) hbx]; rfl
  have k1 : (w1.alloc (.cells cs 30)).cell? ⟨w1.heap.size, 1, none⟩ = some (.int .i64 0) := by rw [cell_of_row _ _ 1 _ _ (0, 0) hbx]; rfl
  have k7 : (w1.alloc (.cells cs 30)).cell? ⟨w1.heap.size, 7, none⟩ = some (.int .u32 0) := by rw [cell_of_row _ _ 7 _ _ (0, 0) hbx]; rfl
  have k8 : (w1.alloc (.cells cs 30)).cell? ⟨w1.heap.size, 8, none⟩ = some (.int .i64 0) := by rw [cell_of_row _ _ 8 _ _ (0, 0) hbx]; rfl
  have k9 : (w1.alloc (.cells cs 30)).cell? ⟨w1.heap.size, 9, none⟩ = some (.slice A1 0 c1) := by rw [cell_of_row _ _ 9 _ _ (0, 0) hbx]; rfl
  have z1 := frozen_of_row (w1.alloc (.cells cs 30)) w1.heap.size 1 _ _ hbx
  have z7 := frozen_of_row (w1.alloc (.cells cs 30)) w1.heap.size 7 _ _ hbx
  have z8 := frozen_of_row (w1.alloc (.cells cs 30)) w1.heap.size 8 _ _ hbx
  have z9 := frozen_of_row (w1.alloc (.cells cs 30)) w1.heap.size 9 _ _ hbx
  have HBX := Lib.hid hbx
  have R0 := Lib.hid r0
  have R2 := Lib.hid r2
  have HB := Lib.hid HA.out.2.2
  obtain ⟨g5, hg5⟩ : ∃ g, w1.heap.size = g := ⟨_, rfl⟩
  rw [hg5] at W5 k1 k4 k5 k6 k7 k8 k9 z1 z7 z8 z9 HBX R0 R2 ⊢
  clear hbx r0 r1 r2 HA hcs hg5 O1 Z1 I1
  generalize w1.alloc (.cells cs 30) = wA at *
  have HFIN : Hid (BoxAt w g5 (LT.cells A0 c0 A0 c0 A9 c9) LT ((((wA.setCell ⟨g5, 1, none⟩ (.int .i64 1)).setCell ⟨g5, 7, none⟩ (.int .u32 1)).setCell ⟨g5, 8, none⟩ (.int .i64 3)).setCell ⟨g5, 9, none⟩ (.slice A0 32 c0))) := Lib.hid (by
    have h1 := heap_setCell_same _ g5 1 _ _ (.int .i64 1) HBX.out
    have h2 := heap_setCell_same _ g5 7 _ _ (.int .u32 1) h1
    have h3 := heap_setCell_same _ g5 8 _ _ (.int .i64 3) h2
    have h4 := heap_setCell_same _ g5 9 _ _ (.slice A0 32 c0) h3
    have hg := W5.out
    have kk : ∀ b, b ≠ g5 → ((((wA.setCell ⟨g5, 1, none⟩ (.int .i64 1)).setCell ⟨g5, 7, none⟩ (.int .u32 1)).setCell ⟨g5, 8, none⟩ (.int .i64 3)).setCell ⟨g5, 9, none⟩ (.slice A0 32 c0)).heap[b]? = wA.heap[b]? := fun b h => by
      rw [heap_setCell_other _ _ _ _ h, heap_setCell_other _ _ _ _ h, heap_setCell_other _ _ _ _ h, heap_setCell_other _ _ _ _ h]
    refine ⟨h4, ⟨A0, c0, A0, c0, A9, c9, rfl, R0.out.keep (by simp) fun b h _ => kk b h, R0.out.keep (by simp) fun b h _ => kk b h, R2.out.keep (by simp) fun b h _ => kk b h⟩, (((HB.out.setCell hg _).setCell hg _).setCell hg _).setCell hg _⟩)
  go_upto_region 6 with fail
  generalize ((((wA.setCell ⟨g5, 1, none⟩ (.int .i64 1)).setCell ⟨g5, 7, none⟩ (.int .u32 1)).setCell ⟨g5, 8, none⟩ (.int .i64 3)).setCell ⟨g5, 9, none⟩ (.slice A0 32 c0)) = wB at *
  clear k1 k4 k5 k6 k7 k8 k9 z1 z7 z8 z9 HBX R0 R2 HB
  have HA := HFIN
  generalize LT.cells A0 c0 A0 c0 A9 c9 = cs at *
  have HI : Hid (LT.may = true ∧ LT.trial = 1) := Lib.hid LT_may
  clear HFIN
  go_wp2_with fail
  go_loopw [6, 26] (fun s6 x wr => ∃ k top : Nat, ∃ cs L, k ≤ n ∧ x = .int .i64 k ∧ s6 = .int .u32 (top : Int) ∧ Hid (L.may = true ∧ L.trial = 1) ∧ Hid (BoxAt w g5 cs L wr)) (fun _ x _ => n - (intOf x).toNat)
  case atStart => exact ⟨0, 1, cs, LT, Nat.zero_le _, rfl, rfl, HI, HA⟩
  case round =>
    obtain ⟨k, top, cs, L, hk, rfl, rfl, hinv, hbx⟩ := hrel
    clear HA HI
    by_cases hlt : k < n
    · obtain ⟨b, o, rfl, hb, hc, hv⟩ := HU.out k hlt
      obtain ⟨v, hve⟩ : ∃ v, us.getD k 0 = v := ⟨_, rfl⟩
      rw [hve] at hc hv
      have hcr := (hbx.out.2.2.cell (p := ⟨b, o + k, none⟩) hb).trans hc
      have hki : (k : Int) < (n : Int) := by omega
      have hkb : (k : Int) ≤ 60 := by omega
      clear hve hc hv hb
      have HB5 : Hid (∀ W, Below wr.heap.size wr W → W.heap[g5]? = some (.cells cs 30 (0, 0))) := Lib.hid (fun W hW => (hbx.out.below hW).1)
      have HS5 : Hid (∀ W, Below wr.heap.size wr W → IsSt W (fun b => b ≠ g5) cs L) := Lib.hid (fun W hW => (hbx.out.below hW).2.1)
      have INF := Lib.hid hbx.out.2.1.inf
      have L5 : Hid (g5 < wr.heap.size) := Lib.hid (Array.getElem?_eq_some_iff.1 hbx.out.1).1
      have HR : Hid (L.admitR (GM v) = 12) := Lib.hid (trial_no hinv.out.1 hinv.out.2)
      have HNE : Hid ((12 : Int) ≠ 0) := Lib.hid (by decide)
      go_upto_region 10 with fail
      go_cut [10] (fun s10 wx => s10 = .int .i64 12 ∧ Hid (Below wr.heap.size wr wx))
      case first =>
        refine wp_region_noPanic ?_
        refine wp_region_held_drew (S := (fun W => Below (wr.heap.size) wr W)) (by kernel_rfl) (Below.refl _ _).drew (fun hH0 => ?_)
        have hH0 : Below (wr.heap.size) wr wr.drew := hH0
        generalize wr.drew = wd24000 at *
        refine wpAnyH_take (i := 0) (oi := { dst := some 31, op := Op.load 30 (Operand.tmp 5), type := 30, pos := "law.go:62", after := #[], guard := none }) (v := .agg cs) rfl (by kernel_rfl) (by kernel_rfl) (by kernel_rfl) (fun _ _ _ h => h) (yields_row (by rfl) _ _ rfl g5 rfl _ _ _ _ (fun W hW => HB5.out W hW) Try.underlying30 rfl INF.out) hH0 ?tkr24001
        try simp only [Act.put, List.setIfInBounds_toArray, List.set_cons_zero, List.set_cons_succ]
        refine wpAnyH_take (i := 1) (oi := { dst := some 32, op := Op.move (Operand.tmp 8), type := 22, pos := "law.go:62", after := #[], guard := none }) (v := ?tkv24002) rfl (by kernel_rfl) (by kernel_rfl) (by kernel_rfl) (fun _ _ _ h => h) (Or.inl ⟨by rfl, ?tky24002⟩) hH0 ?tkr24002
        case tky24002 => (intro w' hSw; clear hSw; go_simp; try with_reducible rfl)
        try simp only [Act.put, List.setIfInBounds_toArray, List.set_cons_zero, List.set_cons_succ]
        refine wpAnyH_ready (rs := [2, 7]) (by kernel_rfl) (by simp) ?_
        refine AllReadyH.cons (o := { dst := some 33, op := Op.call { callee := Callee.value (Operand.func 30), args := #[Operand.tmp 32], argTypes := #[22] }, type := 28, pos := "law.go:62", after := #[{ on := 1, ground := Ground.data }], guard := none }) rfl (fun K hK => ?_) (AllReadyH.cons (o := { dst := some 9, op := Op.alloc 30, type := 0, pos := "law.go:62", after := #[], guard := none }) rfl (fun K hK => ?_) AllReadyH.nil)
        · go_simp
          refine (goodS v wd24000).mono ?_
          rintro e' wn24003 ⟨mg24003, rfl, MG24003, hbo24003⟩
          have hb24003 := hbo24003.out
          go_simp
          have hS24003 : Below (wr.heap.size) wr wn24003 := (hH0).trans (hb24003.mono (hH0).size)
          refine hK.out _ _ hS24003 (fun hH24003 => ?_)
          have hH24003 : Below (wr.heap.size) wr wn24003 := hH24003
          clear hK K hS24003
          try simp only [Act.put, List.setIfInBounds_toArray, List.set_cons_zero, List.set_cons_succ]
          refine wpAnyH_ready (rs := [3, 7]) (by kernel_rfl) (by simp) ?_
          refine AllReadyH.cons (o := { dst := some 34, op := Op.call { callee := Callee.value (Operand.func 24), args := #[Operand.tmp 31, Operand.tmp 33], argTypes := #[30, 28] }, type := 40, pos := "law.go:62", after := #[{ on := 0, ground := Ground.data }, { on := 2, ground := Ground.data }, { on := 2, ground := Ground.chain }], guard := none }) rfl (fun K hK => ?_) (AllReadyH.cons (o := { dst := some 9, op := Op.alloc 30, type := 0, pos := "law.go:62", after := #[], guard := none }) rfl (fun K hK => ?_) AllReadyH.nil)
          · go_simp
            refine (admitS_no (HS5.out wn24003 (hH24003)) MG24003.out HR.out HNE.out).mono ?_
            rintro e' wn24004 ⟨rfl, hb24004⟩
            go_simp
            have MG24003_24004 := Lib.hid (MG24003.out.below hb24004)
            have hS24004 : Below (wr.heap.size) wr wn24004 := (hH24003).trans (hb24004.mono (hH24003).size)
            refine hK.out _ _ hS24004 (fun hH24004 => ?_)
            have hH24004 : Below (wr.heap.size) wr wn24004 := hH24004
            clear hK K hS24004
            try simp only [Act.put, List.setIfInBounds_toArray, List.set_cons_zero, List.set_cons_succ]
            refine wpAnyH_take (i := 4) (oi := { dst := some 30, op := Op.move (Operand.tmp 34), type := 40, pos := "law.go:62", after := #[{ on := 3, ground := Ground.data }], guard := none }) (v := ?tkv24005) rfl (by kernel_rfl) (by kernel_rfl) (by kernel_rfl) (fun _ _ _ h => h) (Or.inl ⟨by rfl, ?tky24005⟩) hH24004 ?tkr24005
            case tky24005 => (intro w' hSw; clear hSw; go_simp; try with_reducible rfl)
            try simp only [Act.put, List.setIfInBounds_toArray, List.set_cons_zero, List.set_cons_succ]
            refine wpAnyH_take (i := 5) (oi := { dst := some 35, op := Op.extract (Operand.tmp 30) 0, type := 30, pos := "law.go:62", after := #[{ on := 4, ground := Ground.data }], guard := none }) (v := ?tkv24006) rfl (by kernel_rfl) (by kernel_rfl) (by kernel_rfl) (fun _ _ _ h => h) (Or.inl ⟨by rfl, ?tky24006⟩) hH24004 ?tkr24006
            case tky24006 => (intro w' hSw; clear hSw; go_simp; try with_reducible rfl)
            try simp only [Act.put, List.setIfInBounds_toArray, List.set_cons_zero, List.set_cons_succ]
            refine wpAnyH_take (i := 6) (oi := { dst := some 36, op := Op.extract (Operand.tmp 30) 1, type := 33, pos := "law.go:62", after := #[{ on := 4, ground := Ground.data }, { on := 8, ground := Ground.gcOnly Departure.lateStores }], guard := none }) (v := ?tkv24007) rfl (by kernel_rfl) (by kernel_rfl) (by kernel_rfl) (fun _ _ _ h => h) (Or.inl ⟨by rfl, ?tky24007⟩) hH24004 ?tkr24007
            case tky24007 => (intro w' hSw; clear hSw; go_simp; try with_reducible rfl)
            try simp only [Act.put, List.setIfInBounds_toArray, List.set_cons_zero, List.set_cons_succ]
            refine wpAnyH_ready (rs := [7]) (by kernel_rfl) (by simp) ?_
            refine AllReadyH.cons (o := { dst := some 9, op := Op.alloc 30, type := 0, pos := "law.go:62", after := #[], guard := none }) rfl (fun K hK => ?_) AllReadyH.nil
            go_simp
            have hb24008 : Below wn24004.heap.size wn24004 (wn24004.alloc (.cells #[.int .i64 0, .int .i64 0, .int .u32 0, .int .u32 0, .int .u32 0, .int .i64 0, .slice none 0 0, .int .u32 0, .int .i64 0, .slice none 0 0, .bool false, .int .u32 0, .int .u32 0, .int .i64 0, .int .i64 0, .int .i64 0, .slice none 0 0] 30)) := (Below.refl _ _).alloc (Nat.le_refl _) _
            have BX24008 : Hid ((wn24004.alloc (.cells #[.int .i64 0, .int .i64 0, .int .u32 0, .int .u32 0, .int .u32 0, .int .i64 0, .slice none 0 0, .int .u32 0, .int .i64 0, .slice none 0 0, .bool false, .int .u32 0, .int .u32 0, .int .i64 0, .int .i64 0, .int .i64 0, .slice none 0 0] 30)).heap[wn24004.heap.size]? = some (.cells #[.int .i64 0, .int .i64 0, .int .u32 0, .int .u32 0, .int .u32 0, .int .i64 0, .slice none 0 0, .int .u32 0, .int .i64 0, .slice none 0 0, .bool false, .int .u32 0, .int .u32 0, .int .i64 0, .int .i64 0, .int .i64 0, .slice none 0 0] 30 (0, 0))) := Lib.hid (heap_alloc_new _ _)
            have LX24008 : Hid (wn24004.heap.size < (wn24004.alloc (.cells #[.int .i64 0, .int .i64 0, .int .u32 0, .int .u32 0, .int .u32 0, .int .i64 0, .slice none 0 0, .int .u32 0, .int .i64 0, .slice none 0 0, .bool false, .int .u32 0, .int .u32 0, .int .i64 0, .int .i64 0, .int .i64 0, .slice none 0 0] 30)).heap.size) := Lib.hid (by simp)
            have GE24008 : Hid (wr.heap.size ≤ wn24004.heap.size) := Lib.hid (hH24004).size
            generalize (wn24004.alloc (.cells #[.int .i64 0, .int .i64 0, .int .u32 0, .int .u32 0, .int .u32 0, .int .i64 0, .slice none 0 0, .int .u32 0, .int .i64 0, .slice none 0 0, .bool false, .int .u32 0, .int .u32 0, .int .i64 0, .int .i64 0, .int .i64 0, .slice none 0 0] 30)) = wn24008 at *
            have MG24003_24008 := Lib.hid (MG24003_24004.out.below hb24008)
            have hS24008 : Below (wr.heap.size) wr wn24008 := (hH24004).trans (hb24008.mono (hH24004).size)
            refine hK.out _ _ hS24008 (fun hH24008 => ?_)
            have hH24008 : Below (wr.heap.size) wr wn24008 := hH24008
            clear hK K hS24008
            try simp only [Act.put, List.setIfInBounds_toArray, List.set_cons_zero, List.set_cons_succ]
            refine wpAnyH_ready (rs := [8]) (by kernel_rfl) (by simp) ?_
            refine AllReadyH.cons (o := { dst := none, op := Op.store 30 (Operand.tmp 9) (Operand.tmp 35), type := 0, pos := "law.go:62", after := #[{ on := 7, ground := Ground.data }, { on := 5, ground := Ground.data }, { on := 3, ground := Ground.chain }, { on := 0, ground := Ground.phase }, { on := 1, ground := Ground.phase }, { on := 2, ground := Ground.phase }, { on := 3, ground := Ground.phase }, { on := 4, ground := Ground.phase }, { on := 5, ground := Ground.phase }, { on := 6, ground := Ground.textOnly Departure.lateStores }, { on := 7, ground := Ground.phase }], guard := none }) rfl (fun K hK => ?_) AllReadyH.nil
            rw [if_pos (by rfl)]
            refine wp_store_row _ _ _ rfl wn24004.heap.size zState rfl rfl _ _ BX24008.out (by kernel_rfl) (by rfl) (by kernel_rfl) ?_
            have hS24009 : Below (wr.heap.size) wr (wn24008.setRow wn24004.heap.size zState) := (below_setRow2 (hH24008) GE24008.out _)
            refine hK.out _ _ hS24009 (fun hH24009 => ?_)
            have hH24009 : Below (wr.heap.size) wr (wn24008.setRow wn24004.heap.size zState) := hH24009
            clear hK K hS24009
            refine wpAnyH_take (i := 9) (oi := { dst := some 10, op := Op.assign (Operand.tmp 36), type := 33, pos := "law.go:62", after := #[{ on := 6, ground := Ground.data }, { on := 8, ground := Ground.chain }, { on := 0, ground := Ground.phase }, { on := 1, ground := Ground.phase }, { on := 2, ground := Ground.phase }, { on := 3, ground := Ground.phase }, { on := 4, ground := Ground.phase }, { on := 5, ground := Ground.phase }, { on := 6, ground := Ground.phase }, { on := 7, ground := Ground.phase }, { on := 8, ground := Ground.phase }], guard := none }) (v := ?tkv24010) rfl (by kernel_rfl) (by kernel_rfl) (by kernel_rfl) (fun _ _ _ h => h) (Or.inl ⟨by rfl, ?tky24010⟩) hH24009 ?tkr24010
            case tky24010 => (intro w' hSw; clear hSw; go_simp; try with_reducible rfl)
            try simp only [Act.put, List.setIfInBounds_toArray, List.set_cons_zero, List.set_cons_succ]
            refine wpAnyH_done (by kernel_rfl) ?_ _
            refine NoPanic.normal ?_
            go_wp2_with fail
            go_meet
            exact ⟨rfl, Lib.hid (hH24009)⟩
          · go_simp
            have hb24011 : Below wn24003.heap.size wn24003 (wn24003.alloc (.cells #[.int .i64 0, .int .i64 0, .int .u32 0, .int .u32 0, .int .u32 0, .int .i64 0, .slice none 0 0, .int .u32 0, .int .i64 0, .slice none 0 0, .bool false, .int .u32 0, .int .u32 0, .int .i64 0, .int .i64 0, .int .i64 0, .slice none 0 0] 30)) := (Below.refl _ _).alloc (Nat.le_refl _) _
            have BX24011 : Hid ((wn24003.alloc (.cells #[.int .i64 0, .int .i64 0, .int .u32 0, .int .u32 0, .int .u32 0, .int .i64 0, .slice none 0 0, .int .u32 0, .int .i64 0, .slice none 0 0, .bool false, .int .u32 0, .int .u32 0, .int .i64 0, .int .i64 0, .int .i64 0, .slice none 0 0] 30)).heap[wn24003.heap.size]? = some (.cells #[.int .i64 0, .int .i64 0, .int .u32 0, .int .u32 0, .int .u32 0, .int .i64 0, .slice none 0 0, .int .u32 0, .int .i64 0, .slice none 0 0, .bool false, .int .u32 0, .int .u32 0, .int .i64 0, .int .i64 0, .int .i64 0, .slice none 0 0] 30 (0, 0))) := Lib.hid (heap_alloc_new _ _)
            have LX24011 : Hid (wn24003.heap.size < (wn24003.alloc (.cells #[.int .i64 0, .int .i64 0, .int .u32 0, .int .u32 0, .int .u32 0, .int .i64 0, .slice none 0 0, .int .u32 0, .int .i64 0, .slice none 0 0, .bool false, .int .u32 0, .int .u32 0, .int .i64 0, .int .i64 0, .int .i64 0, .slice none 0 0] 30)).heap.size) := Lib.hid (by simp)
            have GE24011 : Hid (wr.heap.size ≤ wn24003.heap.size) := Lib.hid (hH24003).size
            generalize (wn24003.alloc (.cells #[.int .i64 0, .int .i64 0, .int .u32 0, .int .u32 0, .int .u32 0, .int .i64 0, .slice none 0 0, .int .u32 0, .int .i64 0, .slice none 0 0, .bool false, .int .u32 0, .int .u32 0, .int .i64 0, .int .i64 0, .int .i64 0, .slice none 0 0] 30)) = wn24011 at *
            have MG24003_24011 := Lib.hid (MG24003.out.below hb24011)
            have hS24011 : Below (wr.heap.size) wr wn24011 := (hH24003).trans (hb24011.mono (hH24003).size)
            refine hK.out _ _ hS24011 (fun hH24011 => ?_)
            have hH24011 : Below (wr.heap.size) wr wn24011 := hH24011
            clear hK K hS24011
            try simp only [Act.put, List.setIfInBounds_toArray, List.set_cons_zero, List.set_cons_succ]
            refine wpAnyH_ready (rs := [3]) (by kernel_rfl) (by simp) ?_
            refine AllReadyH.cons (o := { dst := some 34, op := Op.call { callee := Callee.value (Operand.func 24), args := #[Operand.tmp 31, Operand.tmp 33], argTypes := #[30, 28] }, type := 40, pos := "law.go:62", after := #[{ on := 0, ground := Ground.data }, { on := 2, ground := Ground.data }, { on := 2, ground := Ground.chain }], guard := none }) rfl (fun K hK => ?_) AllReadyH.nil
            go_simp
            refine (admitS_no (HS5.out wn24011 (hH24011)) MG24003_24011.out HR.out HNE.out).mono ?_
            rintro e' wn24012 ⟨rfl, hb24012⟩
            go_simp
            have MG24003_24012 := Lib.hid (MG24003_24011.out.below hb24012)
            have BX24011_24012 := Lib.hid ((hb24012.block wn24003.heap.size LX24011.out).trans BX24011.out)
            have LX24011_24012 := Lib.hid (Nat.lt_of_lt_of_le LX24011.out hb24012.size)
            have hS24012 : Below (wr.heap.size) wr wn24012 := (hH24011).trans (hb24012.mono (hH24011).size)
            refine hK.out _ _ hS24012 (fun hH24012 => ?_)
            have hH24012 : Below (wr.heap.size) wr wn24012 := hH24012
            clear hK K hS24012
            try simp only [Act.put, List.setIfInBounds_toArray, List.set_cons_zero, List.set_cons_succ]
            refine wpAnyH_take (i := 4) (oi := { dst := some 30, op := Op.move (Operand.tmp 34), type := 40, pos := "law.go:62", after := #[{ on := 3, ground := Ground.data }], guard := none }) (v := ?tkv24013) rfl (by kernel_rfl) (by kernel_rfl) (by kernel_rfl) (fun _ _ _ h => h) (Or.inl ⟨by rfl, ?tky24013⟩) hH24012 ?tkr24013
            case tky24013 => (intro w' hSw; clear hSw; go_simp; try with_reducible rfl)
            try simp only [Act.put, List.setIfInBounds_toArray, List.set_cons_zero, List.set_cons_succ]
            refine wpAnyH_take (i := 5) (oi := { dst := some 35, op := Op.extract (Operand.tmp 30) 0, type := 30, pos := "law.go:62", after := #[{ on := 4, ground := Ground.data }], guard := none }) (v := ?tkv24014) rfl (by kernel_rfl) (by kernel_rfl) (by kernel_rfl) (fun _ _ _ h => h) (Or.inl ⟨by rfl, ?tky24014⟩) hH24012 ?tkr24014
            case tky24014 => (intro w' hSw; clear hSw; go_simp; try with_reducible rfl)
            try simp only [Act.put, List.setIfInBounds_toArray, List.set_cons_zero, List.set_cons_succ]
            refine wpAnyH_take (i := 6) (oi := { dst := some 36, op := Op.extract (Operand.tmp 30) 1, type := 33, pos := "law.go:62", after := #[{ on := 4, ground := Ground.data }, { on := 8, ground := Ground.gcOnly Departure.lateStores }], guard := none }) (v := ?tkv24015) rfl (by kernel_rfl) (by kernel_rfl) (by kernel_rfl) (fun _ _ _ h => h) (Or.inl ⟨by rfl, ?tky24015⟩) hH24012 ?tkr24015
            case tky24015 => (intro w' hSw; clear hSw; go_simp; try with_reducible rfl)
            try simp only [Act.put, List.setIfInBounds_toArray, List.set_cons_zero, List.set_cons_succ]
            refine wpAnyH_ready (rs := [8]) (by kernel_rfl) (by simp) ?_
            refine AllReadyH.cons (o := { dst := none, op := Op.store 30 (Operand.tmp 9) (Operand.tmp 35), type := 0, pos := "law.go:62", after := #[{ on := 7, ground := Ground.data }, { on := 5, ground := Ground.data }, { on := 3, ground := Ground.chain }, { on := 0, ground := Ground.phase }, { on := 1, ground := Ground.phase }, { on := 2, ground := Ground.phase }, { on := 3, ground := Ground.phase }, { on := 4, ground := Ground.phase }, { on := 5, ground := Ground.phase }, { on := 6, ground := Ground.textOnly Departure.lateStores }, { on := 7, ground := Ground.phase }], guard := none }) rfl (fun K hK => ?_) AllReadyH.nil
            rw [if_pos (by rfl)]
            refine wp_store_row _ _ _ rfl wn24003.heap.size zState rfl rfl _ _ BX24011_24012.out (by kernel_rfl) (by rfl) (by kernel_rfl) ?_
            have hS24016 : Below (wr.heap.size) wr (wn24012.setRow wn24003.heap.size zState) := (below_setRow2 (hH24012) GE24011.out _)
            refine hK.out _ _ hS24016 (fun hH24016 => ?_)
            have hH24016 : Below (wr.heap.size) wr (wn24012.setRow wn24003.heap.size zState) := hH24016
            clear hK K hS24016
            refine wpAnyH_take (i := 9) (oi := { dst := some 10, op := Op.assign (Operand.tmp 36), type := 33, pos := "law.go:62", after := #[{ on := 6, ground := Ground.data }, { on := 8, ground := Ground.chain }, { on := 0, ground := Ground.phase }, { on := 1, ground := Ground.phase }, { on := 2, ground := Ground.phase }, { on := 3, ground := Ground.phase }, { on := 4, ground := Ground.phase }, { on := 5, ground := Ground.phase }, { on := 6, ground := Ground.phase }, { on := 7, ground := Ground.phase }, { on := 8, ground := Ground.phase }], guard := none }) (v := ?tkv24017) rfl (by kernel_rfl) (by kernel_rfl) (by kernel_rfl) (fun _ _ _ h => h) (Or.inl ⟨by rfl, ?tky24017⟩) hH24016 ?tkr24017
            case tky24017 => (intro w' hSw; clear hSw; go_simp; try with_reducible rfl)
            try simp only [Act.put, List.setIfInBounds_toArray, List.set_cons_zero, List.set_cons_succ]
            refine wpAnyH_done (by kernel_rfl) ?_ _
            refine NoPanic.normal ?_
            go_wp2_with fail
            go_meet
            exact ⟨rfl, Lib.hid (hH24016)⟩
        · go_simp
          have hb24018 : Below wd24000.heap.size wd24000 (wd24000.alloc (.cells #[.int .i64 0, .int .i64 0, .int .u32 0, .int .u32 0, .int .u32 0, .int .i64 0, .slice none 0 0, .int .u32 0, .int .i64 0, .slice none 0 0, .bool false, .int .u32 0, .int .u32 0, .int .i64 0, .int .i64 0, .int .i64 0, .slice none 0 0] 30)) := (Below.refl _ _).alloc (Nat.le_refl _) _
          have BX24018 : Hid ((wd24000.alloc (.cells #[.int .i64 0, .int .i64 0, .int .u32 0, .int .u32 0, .int .u32 0, .int .i64 0, .slice none 0 0, .int .u32 0, .int .i64 0, .slice none 0 0, .bool false, .int .u32 0, .int .u32 0, .int .i64 0, .int .i64 0, .int .i64 0, .slice none 0 0] 30)).heap[wd24000.heap.size]? = some (.cells #[.int .i64 0, .int .i64 0, .int .u32 0, .int .u32 0, .int .u32 0, .int .i64 0, .slice none 0 0, .int .u32 0, .int .i64 0, .slice none 0 0, .bool false, .int .u32 0, .int .u32 0, .int .i64 0, .int .i64 0, .int .i64 0, .slice none 0 0] 30 (0, 0))) := Lib.hid (heap_alloc_new _ _)
          have LX24018 : Hid (wd24000.heap.size < (wd24000.alloc (.cells #[.int .i64 0, .int .i64 0, .int .u32 0, .int .u32 0, .int .u32 0, .int .i64 0, .slice none 0 0, .int .u32 0, .int .i64 0, .slice none 0 0, .bool false, .int .u32 0, .int .u32 0, .int .i64 0, .int .i64 0, .int .i64 0, .slice none 0 0] 30)).heap.size) := Lib.hid (by simp)
          have GE24018 : Hid (wr.heap.size ≤ wd24000.heap.size) := Lib.hid (hH0).size
          generalize (wd24000.alloc (.cells #[.int .i64 0, .int .i64 0, .int .u32 0, .int .u32 0, .int .u32 0, .int .i64 0, .slice none 0 0, .int .u32 0, .int .i64 0, .slice none 0 0, .bool false, .int .u32 0, .int .u32 0, .int .i64 0, .int .i64 0, .int .i64 0, .slice none 0 0] 30)) = wn24018 at *
          have hS24018 : Below (wr.heap.size) wr wn24018 := (hH0).trans (hb24018.mono (hH0).size)
          refine hK.out _ _ hS24018 (fun hH24018 => ?_)
          have hH24018 : Below (wr.heap.size) wr wn24018 := hH24018
          clear hK K hS24018
          try simp only [Act.put, List.setIfInBounds_toArray, List.set_cons_zero, List.set_cons_succ]
          refine wpAnyH_ready (rs := [2]) (by kernel_rfl) (by simp) ?_
          refine AllReadyH.cons (o := { dst := some 33, op := Op.call { callee := Callee.value (Operand.func 30), args := #[Operand.tmp 32], argTypes := #[22] }, type := 28, pos := "law.go:62", after := #[{ on := 1, ground := Ground.data }], guard := none }) rfl (fun K hK => ?_) AllReadyH.nil
          go_simp
          refine (goodS v wn24018).mono ?_
          rintro e' wn24019 ⟨mg24019, rfl, MG24019, hbo24019⟩
          have hb24019 := hbo24019.out
          go_simp
          have BX24018_24019 := Lib.hid ((hb24019.block wd24000.heap.size LX24018.out).trans BX24018.out)
          have LX24018_24019 := Lib.hid (Nat.lt_of_lt_of_le LX24018.out hb24019.size)
          have hS24019 : Below (wr.heap.size) wr wn24019 := (hH24018).trans (hb24019.mono (hH24018).size)
          refine hK.out _ _ hS24019 (fun hH24019 => ?_)
          have hH24019 : Below (wr.heap.size) wr wn24019 := hH24019
          clear hK K hS24019
          try simp only [Act.put, List.setIfInBounds_toArray, List.set_cons_zero, List.set_cons_succ]
          refine wpAnyH_ready (rs := [3]) (by kernel_rfl) (by simp) ?_
          refine AllReadyH.cons (o := { dst := some 34, op := Op.call { callee := Callee.value (Operand.func 24), args := #[Operand.tmp 31, Operand.tmp 33], argTypes := #[30, 28] }, type := 40, pos := "law.go:62", after := #[{ on := 0, ground := Ground.data }, { on := 2, ground := Ground.data }, { on := 2, ground := Ground.chain }], guard := none }) rfl (fun K hK => ?_) AllReadyH.nil
          go_simp
          refine (admitS_no (HS5.out wn24019 (hH24019)) MG24019.out HR.out HNE.out).mono ?_
          rintro e' wn24020 ⟨rfl, hb24020⟩
          go_simp
          have BX24018_24020 := Lib.hid ((hb24020.block wd24000.heap.size LX24018_24019.out).trans BX24018_24019.out)
          have LX24018_24020 := Lib.hid (Nat.lt_of_lt_of_le LX24018_24019.out hb24020.size)
          have MG24019_24020 := Lib.hid (MG24019.out.below hb24020)
          have hS24020 : Below (wr.heap.size) wr wn24020 := (hH24019).trans (hb24020.mono (hH24019).size)
          refine hK.out _ _ hS24020 (fun hH24020 => ?_)
          have hH24020 : Below (wr.heap.size) wr wn24020 := hH24020
          clear hK K hS24020
          try simp only [Act.put, List.setIfInBounds_toArray, List.set_cons_zero, List.set_cons_succ]
          refine wpAnyH_take (i := 4) (oi := { dst := some 30, op := Op.move (Operand.tmp 34), type := 40, pos := "law.go:62", after := #[{ on := 3, ground := Ground.data }], guard := none }) (v := ?tkv24021) rfl (by kernel_rfl) (by kernel_rfl) (by kernel_rfl) (fun _ _ _ h => h) (Or.inl ⟨by rfl, ?tky24021⟩) hH24020 ?tkr24021
          case tky24021 => (intro w' hSw; clear hSw; go_simp; try with_reducible rfl)
          try simp only [Act.put, List.setIfInBounds_toArray, List.set_cons_zero, List.set_cons_succ]
          refine wpAnyH_take (i := 5) (oi := { dst := some 35, op := Op.extract (Operand.tmp 30) 0, type := 30, pos := "law.go:62", after := #[{ on := 4, ground := Ground.data }], guard := none }) (v := ?tkv24022) rfl (by kernel_rfl) (by kernel_rfl) (by kernel_rfl) (fun _ _ _ h => h) (Or.inl ⟨by rfl, ?tky24022⟩) hH24020 ?tkr24022
          case tky24022 => (intro w' hSw; clear hSw; go_simp; try with_reducible rfl)
          try simp only [Act.put, List.setIfInBounds_toArray, List.set_cons_zero, List.set_cons_succ]
          refine wpAnyH_take (i := 6) (oi := { dst := some 36, op := Op.extract (Operand.tmp 30) 1, type := 33, pos := "law.go:62", after := #[{ on := 4, ground := Ground.data }, { on := 8, ground := Ground.gcOnly Departure.lateStores }], guard := none }) (v := ?tkv24023) rfl (by kernel_rfl) (by kernel_rfl) (by kernel_rfl) (fun _ _ _ h => h) (Or.inl ⟨by rfl, ?tky24023⟩) hH24020 ?tkr24023
          case tky24023 => (intro w' hSw; clear hSw; go_simp; try with_reducible rfl)
          try simp only [Act.put, List.setIfInBounds_toArray, List.set_cons_zero, List.set_cons_succ]
          refine wpAnyH_ready (rs := [8]) (by kernel_rfl) (by simp) ?_
          refine AllReadyH.cons (o := { dst := none, op := Op.store 30 (Operand.tmp 9) (Operand.tmp 35), type := 0, pos := "law.go:62", after := #[{ on := 7, ground := Ground.data }, { on := 5, ground := Ground.data }, { on := 3, ground := Ground.chain }, { on := 0, ground := Ground.phase }, { on := 1, ground := Ground.phase }, { on := 2, ground := Ground.phase }, { on := 3, ground := Ground.phase }, { on := 4, ground := Ground.phase }, { on := 5, ground := Ground.phase }, { on := 6, ground := Ground.textOnly Departure.lateStores }, { on := 7, ground := Ground.phase }], guard := none }) rfl (fun K hK => ?_) AllReadyH.nil
          rw [if_pos (by rfl)]
          refine wp_store_row _ _ _ rfl wd24000.heap.size zState rfl rfl _ _ BX24018_24020.out (by kernel_rfl) (by rfl) (by kernel_rfl) ?_
          have hS24024 : Below (wr.heap.size) wr (wn24020.setRow wd24000.heap.size zState) := (below_setRow2 (hH24020) GE24018.out _)
          refine hK.out _ _ hS24024 (fun hH24024 => ?_)
          have hH24024 : Below (wr.heap.size) wr (wn24020.setRow wd24000.heap.size zState) := hH24024
          clear hK K hS24024
          refine wpAnyH_take (i := 9) (oi := { dst := some 10, op := Op.assign (Operand.tmp 36), type := 33, pos := "law.go:62", after := #[{ on := 6, ground := Ground.data }, { on := 8, ground := Ground.chain }, { on := 0, ground := Ground.phase }, { on := 1, ground := Ground.phase }, { on := 2, ground := Ground.phase }, { on := 3, ground := Ground.phase }, { on := 4, ground := Ground.phase }, { on := 5, ground := Ground.phase }, { on := 6, ground := Ground.phase }, { on := 7, ground := Ground.phase }, { on := 8, ground := Ground.phase }], guard := none }) (v := ?tkv24025) rfl (by kernel_rfl) (by kernel_rfl) (by kernel_rfl) (fun _ _ _ h => h) (Or.inl ⟨by rfl, ?tky24025⟩) hH24024 ?tkr24025
          case tky24025 => (intro w' hSw; clear hSw; go_simp; try with_reducible rfl)
          try simp only [Act.put, List.setIfInBounds_toArray, List.set_cons_zero, List.set_cons_succ]
          refine wpAnyH_done (by kernel_rfl) ?_ _
          refine NoPanic.normal ?_
          go_wp2_with fail
          go_meet
          exact ⟨rfl, Lib.hid (hH24024)⟩
      case rest =>
        obtain ⟨rfl, hbe⟩ := hcut
        have HX := Lib.hid (hbx.out.below hbe.out)
        have ho : wc.cell? ⟨g5, 10, none⟩ = some (.bool L.on) := (cell_of_row wc g5 10 cs _ (0, 0) HX.out.1).trans HX.out.2.1.c10
        clear hbe HR HNE
        go_wp2_with fail
        go_roundw
        case rel => exact ⟨k + 1, top, cs, L, by omega, by go_num, rfl, hinv, HX⟩
        case measure => simp [intOf]; omega
    · obtain rfl : n = k := by omega
      go_wp2_with fail
      refine (awake22_any wr).mono ?_
      rintro e w9 ⟨rfl, hb9⟩
      have HE9 := Lib.hid (hbx.out.below hb9).2.2
      clear hb9
      go_wp2_with fail
      go_ret
      exact ⟨rfl, HE9.out⟩
end Go.Proofs.Ytnbpjajgfpdddaa
