/-
  make([]T, m, n): m zero values, room for n. No program is named here.
-/
import Derived.OwnWalk
import Derived.Deep.OwnRows
import Derived.Test.YtblclinfcdalaaaDoorWh
namespace Go.Proofs.YtblclinfcdalaaaDoor
open Go.RowKit

theorem madeCells_one (z : Value) (n : Nat) : madeCells #[z] n = (List.replicate n z).toArray := by
  apply Array.ext
  · simp [madeCells]
  · intro i h1 h2
    simp [madeCells, Nat.mod_one]

theorem wpList_make_mn {P : Program} (w : World) {ops : Array Oper} {rest : List Oper} {o : Oper} {a : Act} {Q : Exit → Act → World → Prop}
    (hg : o.guard = none) (l c : Operand) (t : TypeId) (hop : o.op = Op.makeSlice t l c)
    (e : TypeId) (i : TypeInfo) (z : Value) (ht : P.underlying t = some (.slice e)) (hi : P.info? e = some i) (hz : i.zero = some z) (hsize : i.size = 1) (hz1 : z.cells = #[z])
    (kl kc : IntKind) (M N : Int) (m n : Nat) (hl : a.eval l = .int kl M) (hc : a.eval c = .int kc N) (hM : M = (m : Int)) (hN : N = (n : Int)) (hmn : m ≤ n) (hbytes : i.bytes * n ≤ 281474976710656) (h63 : n ≤ 9223372036854775807)
    (hK : wpList P ops Q rest (a.put o.dst (.slice (some ⟨w.heap.size, 0, none⟩) m n)) (w.alloc (.cells (List.replicate n z).toArray e))) :
    wpList P ops Q (o :: rest) a w := by
  refine wpList_plain hg fun K hK' => ?_
  have hb' : (i.bytes : Int) * (n : Int) ≤ 281474976710656 := by
    have h : ((i.bytes * n : Nat) : Int) ≤ 281474976710656 := by omega
    rwa [Int.natCast_mul] at h
  have hr := run_make (P := P) w t e i z ht hi hz kl kc m n (by omega) (by omega) hb' (by omega)
  simp only [Int.toNat_natCast, hsize, Nat.mul_one, hz1, madeCells_one] at hr
  subst hM
  subst hN
  unfold Oper.wp
  simp [execOp, hop, hl, hc, hr, Result.andThen]
  exact hK' _ _ hK

/-- A row that is known whole, as one of the call's own. -/
theorem own_of_wh {w : World} {g : Nat} {t : TypeId} {l : List Value} (h : Wh w g t l.toArray) (base m n : Nat) (hb : base ≤ g) (hn : l.length = n) (hm : m ≤ n) (hx : n ≤ maxLen) :
    w.ownsRow base t 1 (.slice (some ⟨g, 0, none⟩) m n) m (l.take m) :=
  ⟨by simp; omega, .inr ⟨g, n, l.toArray, rfl, hb, h, hm, hx, by simp; omega, by simp⟩⟩

end Go.Proofs.YtblclinfcdalaaaDoor
