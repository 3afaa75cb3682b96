/- MacRight's walk. -/
import Derived.Test.YtcgcmfhidolohaaDoorMacTagQ
namespace Go.Proofs.YtcgcmfhidolohaaDoor.Sh
open Go.RowKit
theorem right_is (v : Bool) (B1 n1 c1 : Nat) (A1 : Option Addr) (key : List UInt8) (B2 n2 c2 : Nat) (A2 : Option Addr) (b : List UInt8) (B3 c3 : Nat) (A3 : Option Addr) (t : List UInt8) (w : World) (ht : Tab w) (h1 : Row w B1 A1 n1 (bv key)) (hB1 : B1 ≤ w.heap.size) (h2 : Row w B2 A2 n2 (bv b)) (hB2 : B2 ≤ w.heap.size) (hn1 : n1 ≤ 10000000000000000) (hn2 : n2 ≤ 10000000000000000) (h3 : Row w B3 A3 32 (bv t)) (hB3 : B3 ≤ w.heap.size) (hv : (tagOf key b == t) = v) :
    Calls Tryd.prog 29 #[.slice A1 n1 c1, .slice A2 n2 c2, .slice A3 32 c3] w fun e w' => e = .returned (.bool v) ∧ Below w.heap.size w w' := by
  subst hv
  exact right_32 B1 n1 c1 A1 key B2 n2 c2 A2 b B3 c3 A3 t w ht h1 hB1 h2 hB2 hn1 hn2 h3 hB3
theorem wpList_want {P : Program} {w : World} {ops : Array Oper} {rest : List Oper} {o : Oper} {a : Act} {Q : Exit → Act → World → Prop} (hw : Region.wanted o (yielded ops a.tmps) = true)
    (h : ∀ K : Act → World → Prop, (∀ a w, wpList P ops Q rest a w → K a w) → o.wp P a w K Q) : wpList P ops Q (o :: rest) a w :=
  wpList_step fun K hK => by rw [if_pos hw]; exact h K hK
/-- an append behind '&&' or '||' -/
theorem wpList_appG {P : Program} {w : World} {ops : Array Oper} {rest : List Oper} {o : Oper} {a : Act} {Q : Exit → Act → World → Prop} (hw : Region.wanted o (yielded ops a.tmps) = true) (s x : Operand) (t : TypeId)
    (ho : o.op = .call { callee := .builtin .append, args := #[s, x], argTypes := #[t, t] })
    (base : Nat) (e : TypeId) (i : TypeInfo) (z : Value) (bytes : Nat) (ht : P.underlying t = some (.slice e)) (hi : P.info? e = some i) (hz : i.zero = some z)
    (hsize : i.size = 1) (hby : i.bytes = bytes) (hzs : z.cells.size = 1)
    (v : Value) (n : Nat) (xs : List Value) (hs : a.eval s = v) (hown : w.ownsRow base e 1 v n xs)
    (B : Nat) (A : Option Addr) (m c : Nat) (news : List Value) (hx : a.eval x = .slice A m c) (hr : Row w B A m news) (h1 : ∀ u ∈ news, u.oneCell' = true)
    (h63 : n + m ≤ maxLen) (hbytes : (n + m) * bytes ≤ 140737488355328) (hbase : base ≤ w.heap.size)
    (h : ∀ v' w', w'.ownsRow base e 1 v' (n + m) (xs ++ news) → w.grownBy w' v.ownBlock → (v'.ownBlock = v.ownBlock ∨ v'.ownBlock = some w.heap.size) → wpList P ops Q rest (a.put o.dst v') w') : wpList P ops Q (o :: rest) a w :=
  wpList_want hw fun _ hK => wp_app s x t ho base e i z bytes ht hi hz hsize hby hzs v n xs hs hown B A m c news hx hr h1 h63 hbytes hbase fun v' w' h2 h3 h4 => hK _ _ (h v' w' h2 h3 h4)
theorem bv_set (p : List UInt8) (i : Nat) (y : UInt8) : (bv p).set i (.int .u8 (y.toNat : Int)) = bv (p.set i y) := by
  simp [bv, List.map_set]
theorem bend_eq (T : List UInt8) (i : Nat) (x : UInt8) (hi : i < T.length) : (T == T.set i (T.getD i 0 ^^^ x)) = (x == 0) := by
  rw [Bool.eq_iff_iff, beq_iff_eq, beq_iff_eq]
  have hg : T.getD i 0 = T[i] := by rw [List.getD_eq_getElem?_getD, List.getElem?_eq_getElem hi]; rfl
  constructor
  · intro h
    have := congrArg (fun l : List UInt8 => l.getD i 0) h
    simp only [List.getD_eq_getElem?_getD, List.getElem?_set_self hi, List.getElem?_eq_getElem hi, Option.getD_some] at this
    have h2 : (0 : UInt8) = x := by
      have := congrArg (T[i] ^^^ ·) this
      simpa [← UInt8.xor_assoc] using this
    exact h2.symm
  · rintro rfl
    rw [UInt8.xor_zero, hg, List.set_getElem_self]
end Go.Proofs.YtcgcmfhidolohaaDoor.Sh
