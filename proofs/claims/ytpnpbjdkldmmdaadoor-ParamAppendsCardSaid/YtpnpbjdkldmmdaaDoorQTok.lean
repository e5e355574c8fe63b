/-
  Transport parameters: their token.
-/
import Derived.Test.YtpnpbjdkldmmdaaDoorQMath2
import Derived.Test.YtpnpbjdkldmmdaaDoorQGet
import Derived.Test.YtpnpbjdkldmmdaaDoorEq
namespace Go.Proofs.YtpnpbjdkldmmdaaDoor
open Go.RowKit
set_option linter.unusedVariables false

/-- A byte of a token. -/
def tkI (l : List UInt8) (i : Nat) : Int := ((l.getD i 0).toNat : Int)
/-- A token's cells. -/
abbrev tkC (l : List UInt8) : Array Value := #[.int .u8 (tkI l 0), .int .u8 (tkI l 1), .int .u8 (tkI l 2), .int .u8 (tkI l 3), .int .u8 (tkI l 4), .int .u8 (tkI l 5), .int .u8 (tkI l 6), .int .u8 (tkI l 7), .int .u8 (tkI l 8), .int .u8 (tkI l 9), .int .u8 (tkI l 10), .int .u8 (tkI l 11), .int .u8 (tkI l 12), .int .u8 (tkI l 13), .int .u8 (tkI l 14), .int .u8 (tkI l 15)]

theorem tkC_of (l : List UInt8) (hl : l.length = 16) : (l.map cell8).toArray = tkC l := by
  match l, hl with
  | [t0, t1, t2, t3, t4, t5, t6, t7, t8, t9, t10, t11, t12, t13, t14, t15], _ => rfl

theorem cells_ints (l : List UInt8) : l.map cell8 = ints .u8 (l.map fun x => (x.toNat : Int)) := by simp [ints, cell8]

theorem u8_wf (x : UInt8) : (Lit.int .u8 (x.toNat : Int)).wf = true := by
  have := x.toNat_lt
  have h1 : IntKind.u8.min = 0 := by decide
  have h2 : IntKind.u8.max = 255 := by decide
  simp only [Lit.wf, h1, h2, Bool.and_eq_true, decide_eq_true_iff]
  omega

theorem toNats_inj {l m : List UInt8} (h : (l.map fun x => (x.toNat : Int)) = m.map fun x => (x.toNat : Int)) : l = m := by
  induction l generalizing m with
  | nil => cases m with
    | nil => rfl
    | cons b m => simp at h
  | cons a l ih => cases m with
    | nil => simp at h
    | cons b m =>
      simp only [List.map_cons, List.cons.injEq] at h
      have h1 : a = b := UInt8.toNat_inj.1 (by have := h.1; omega)
      rw [ih h.2, h1]

set_option maxRecDepth 100000 in
/-- Two tokens held against each other. -/
theorem tok_same (l m : List UInt8) (hl : l.length = 16) (hm : m.length = 16) (w : World) :
    (Op.equalIn 10000 41 (.agg (tkC l)) (.agg (tkC m))).run Tryd.prog w = .ok (decide (l = m)) w := by
  have hw : ∀ l : List UInt8, ∀ z ∈ l.map (fun x => (x.toNat : Int)), (Lit.int .u8 z).wf = true := fun l z hz => by
    obtain ⟨x, _, rfl⟩ := List.mem_map.1 hz
    exact u8_wf x
  have hk : Tryd.prog.keyTypeAt 2 41 = true := by kernel_rfl
  have hc : Tryd.prog.cellsOf 41 = 16 := by kernel_rfl
  have hc1 : Tryd.prog.cellsOf 5 = 1 := by kernel_rfl
  have h := run_equalIn_ints Tryd.underlying41 Tryd.underlying5 hc hc1 hk (l.map fun x => (x.toNat : Int)) (m.map fun x => (x.toNat : Int)) (by rw [List.length_map, hl]) (by rw [List.length_map, hm]) (hw l) (hw m) w
  rw [← cells_ints, ← cells_ints, tkC_of l hl, tkC_of m hm] at h
  rw [h]
  congr 1
  rw [decide_eq_decide]
  exact ⟨toNats_inj, fun e => by rw [e]⟩

theorem prC_at {w : World} {b : Nat} {A0 : Option Addr} {c0 : Nat} {A1 : Option Addr} {c1 : Nat} {p : PQ} (h : Wh w b 43 (prC A0 c0 A1 c1 p)) (ht : p.tok.length = 16) (i : Nat) (hi : i < 16) :
    w.cell? ⟨b, 12 + i, none⟩ = some (.int .u8 (tkI p.tok i)) := by
  rw [h.cell, prC_tok, List.getElem?_eq_getElem (by omega)]
  simp [cell8, tkI, List.getD, show i < p.tok.length by omega]

end Go.Proofs.YtpnpbjdkldmmdaaDoor
