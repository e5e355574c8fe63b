/-
  The walk through frame.onlyNamed: made by tools/gen_only.py.
-/
import Derived.Test.YtkkojhkglcigmaaDoorFrm
import Derived.Test.YtkkojhkglcigmaaDoorSeg
namespace Go.Proofs.YtkkojhkglcigmaaDoor
open Go.RowKit
set_option linter.unusedVariables false

/-- A byte of a token. -/
def tkI (l : List UInt8) (i : Nat) : Int := ((l.getD i 0).toNat : Int)
/-- Is a token nought; are the three counts? -/
def tokB (l : List UInt8) : Bool := decide ((l.map fun x => (x.toNat : Int)) = List.replicate 16 0)
def ecnB (f : PF) : Bool := decide ([(f.e0 : Int), (f.e1 : Int), (f.e2 : Int)] = [0, 0, 0])

theorem cells_ints (l : List UInt8) : l.map cell8 = ints .u8 (l.map fun x => (x.toNat : Int)) := by simp [ints, cell8]

theorem tokZero : ((List.replicate 16 (0 : UInt8)).map cell8).toArray = #[.int .u8 0, .int .u8 0, .int .u8 0, .int .u8 0, .int .u8 0, .int .u8 0, .int .u8 0, .int .u8 0, .int .u8 0, .int .u8 0, .int .u8 0, .int .u8 0, .int .u8 0, .int .u8 0, .int .u8 0, .int .u8 0] := rfl

theorem tok_lit (l : List UInt8) (hl : l.length = 16) : (l.map cell8).toArray = #[.int .u8 (tkI l 0), .int .u8 (tkI l 1), .int .u8 (tkI l 2), .int .u8 (tkI l 3), .int .u8 (tkI l 4), .int .u8 (tkI l 5), .int .u8 (tkI l 6), .int .u8 (tkI l 7), .int .u8 (tkI l 8), .int .u8 (tkI l 9), .int .u8 (tkI l 10), .int .u8 (tkI l 11), .int .u8 (tkI l 12), .int .u8 (tkI l 13), .int .u8 (tkI l 14), .int .u8 (tkI l 15)] := by
  match l, hl with
  | [t0, t1, t2, t3, t4, t5, t6, t7, t8, t9, t10, t11, t12, t13, t14, t15], _ => rfl

theorem u8_wf (x : UInt8) : (Lit.int .u8 (x.toNat : Int)).wf = true := by
  have := x.toNat_lt
  have h1 : IntKind.u8.min = 0 := by decide
  have h2 : IntKind.u8.max = 255 := by decide
  simp only [Lit.wf, h1, h2, Bool.and_eq_true, decide_eq_true_iff]
  omega

theorem tok_run (l m : List UInt8) (hl : l.length = 16) (hm : m.length = 16) (w : World) :
   (binOp .eql 28 (.agg (l.map cell8).toArray) (.agg (m.map cell8).toArray)).run Tryd.prog w = .ok (.bool (decide ((l.map fun x => (x.toNat : Int)) = m.map fun x => (x.toNat : Int)))) w := by
  have hw : ∀ l : List UInt8, ∀ z ∈ l.map (fun x => (x.toNat : Int)), (Lit.int .u8 z).wf = true := fun l z hz => by
    obtain ⟨x, _, rfl⟩ := List.mem_map.1 hz
    exact u8_wf x
  have hk : Tryd.prog.keyTypeAt 2 28 = true := by kernel_rfl
  have hc : Tryd.prog.cellsOf 28 = 16 := by kernel_rfl
  have hc1 : Tryd.prog.cellsOf 5 = 1 := by kernel_rfl
  have h := run_eql_ints Tryd.underlying28 Tryd.underlying5 hc hc1 hk (l.map fun x => (x.toNat : Int)) (m.map fun x => (x.toNat : Int)) (by rw [List.length_map, hl]) (by rw [List.length_map, hm]) (hw l) (hw m) w
  rw [cells_ints, cells_ints]
  exact h

theorem tok_eql (l : List UInt8) (hl : l.length = 16) (w : World) :
   (binOp .eql 28 (.agg #[.int .u8 (tkI l 0), .int .u8 (tkI l 1), .int .u8 (tkI l 2), .int .u8 (tkI l 3), .int .u8 (tkI l 4), .int .u8 (tkI l 5), .int .u8 (tkI l 6), .int .u8 (tkI l 7), .int .u8 (tkI l 8), .int .u8 (tkI l 9), .int .u8 (tkI l 10), .int .u8 (tkI l 11), .int .u8 (tkI l 12), .int .u8 (tkI l 13), .int .u8 (tkI l 14), .int .u8 (tkI l 15)]) (.agg #[.int .u8 0, .int .u8 0, .int .u8 0, .int .u8 0, .int .u8 0, .int .u8 0, .int .u8 0, .int .u8 0, .int .u8 0, .int .u8 0, .int .u8 0, .int .u8 0, .int .u8 0, .int .u8 0, .int .u8 0, .int .u8 0])).run Tryd.prog w = .ok (.bool (tokB l)) w := by
  have h := tok_run l (List.replicate 16 0) hl rfl w
  rw [tok_lit l hl, tokZero] at h
  exact h

theorem u64_wf (n : Nat) (h : n < big) : (Lit.int .u64 (n : Int)).wf = true := by
  unfold big at h
  have h1 : IntKind.u64.min = 0 := by decide
  have h2 : IntKind.u64.max = 18446744073709551615 := by decide
  simp only [Lit.wf, h1, h2, Bool.and_eq_true, decide_eq_true_iff]
  omega

theorem ecn_eql (f : PF) (h0 : f.e0 < big) (h1 : f.e1 < big) (h2 : f.e2 < big) (w : World) :
   (binOp .eql 30 (.agg #[.int .u64 (f.e0 : Int), .int .u64 (f.e1 : Int), .int .u64 (f.e2 : Int)]) (.agg #[.int .u64 0, .int .u64 0, .int .u64 0])).run Tryd.prog w = .ok (.bool (ecnB f)) w := by
  exact run_eql_ints (q := .u64) (xs := [(f.e0 : Int), (f.e1 : Int), (f.e2 : Int)]) (ys := [0, 0, 0]) Tryd.underlying30 Tryd.underlying24 (by kernel_rfl) (by kernel_rfl) (by kernel_rfl) rfl rfl (fun z hz => by
    simp only [List.mem_cons, List.not_mem_nil, or_false] at hz
    rcases hz with rfl | rfl | rfl
    · exact u64_wf _ h0
    · exact u64_wf _ h1
    · exact u64_wf _ h2) (fun z hz => by
      simp only [List.mem_cons, List.not_mem_nil, or_false, or_self] at hz
      rw [hz]; decide +kernel) w

/-- What a kind's bytes do not name is zero, or has nothing. -/
def onlyB (f : PF) (p : Nat) : Bool :=
  (bt p 2 || (((f.id : Int) == 0))) && (bt p 4 || (((f.off : Int) == 0))) && (bt p 8 || (((f.code : Int) == 0))) && (bt p 16 || (((f.max : Int) == 0))) && (bt p 32 || (((f.n : Int) == 0))) && (bt p 64 || (!f.fin)) && (bt p 128 || (((f.acks.length : Int) == 0) && ((f.delay : Int) == 0))) && (bt p 256 || (ecnB f)) && (bt p 1024 || (((f.data.length : Int) == 0))) && (bt p 2048 || (((f.cid.length : Int) == 0) && tokB f.token))

set_option maxRecDepth 100000 in
set_option maxHeartbeats 4000000 in
theorem only_any (R : Array Value) (f : PF) (a : SA) (p : Nat) (w : World) (hR : RowIs R f a) (ht : f.token.length = 16) (n0 : f.e0 < big) (n1 : f.e1 < big) (n2 : f.e2 < big) :
    Calls Tryd.prog 27 #[.agg R, .int .u16 (p : Int)] w fun e w' => e = .returned (.bool (onlyB f p)) ∧ Below w.heap.size w w' := by
  have h1 := hR.id
  have h2 := hR.off
  have h3 := hR.max
  have h4 := hR.code
  have h5 := hR.n
  have h6 := hR.fin
  have h7 := hR.data
  have h8 := hR.cid
  have h25 := hR.acks
  have h26 := hR.delay
  have h27 := hR.e0
  have h28 := hR.e1
  have h29 := hR.e2
  have h9 : R[9]? = some (.int .u8 (tkI f.token 0)) := hR.tok 0 _ (by rw [List.getElem?_map, List.getElem?_eq_getElem (by omega)]; simp [cell8, tkI, ht])
  have h10 : R[10]? = some (.int .u8 (tkI f.token 1)) := hR.tok 1 _ (by rw [List.getElem?_map, List.getElem?_eq_getElem (by omega)]; simp [cell8, tkI, ht])
  have h11 : R[11]? = some (.int .u8 (tkI f.token 2)) := hR.tok 2 _ (by rw [List.getElem?_map, List.getElem?_eq_getElem (by omega)]; simp [cell8, tkI, ht])
  have h12 : R[12]? = some (.int .u8 (tkI f.token 3)) := hR.tok 3 _ (by rw [List.getElem?_map, List.getElem?_eq_getElem (by omega)]; simp [cell8, tkI, ht])
  have h13 : R[13]? = some (.int .u8 (tkI f.token 4)) := hR.tok 4 _ (by rw [List.getElem?_map, List.getElem?_eq_getElem (by omega)]; simp [cell8, tkI, ht])
  have h14 : R[14]? = some (.int .u8 (tkI f.token 5)) := hR.tok 5 _ (by rw [List.getElem?_map, List.getElem?_eq_getElem (by omega)]; simp [cell8, tkI, ht])
  have h15 : R[15]? = some (.int .u8 (tkI f.token 6)) := hR.tok 6 _ (by rw [List.getElem?_map, List.getElem?_eq_getElem (by omega)]; simp [cell8, tkI, ht])
  have h16 : R[16]? = some (.int .u8 (tkI f.token 7)) := hR.tok 7 _ (by rw [List.getElem?_map, List.getElem?_eq_getElem (by omega)]; simp [cell8, tkI, ht])
  have h17 : R[17]? = some (.int .u8 (tkI f.token 8)) := hR.tok 8 _ (by rw [List.getElem?_map, List.getElem?_eq_getElem (by omega)]; simp [cell8, tkI, ht])
  have h18 : R[18]? = some (.int .u8 (tkI f.token 9)) := hR.tok 9 _ (by rw [List.getElem?_map, List.getElem?_eq_getElem (by omega)]; simp [cell8, tkI, ht])
  have h19 : R[19]? = some (.int .u8 (tkI f.token 10)) := hR.tok 10 _ (by rw [List.getElem?_map, List.getElem?_eq_getElem (by omega)]; simp [cell8, tkI, ht])
  have h20 : R[20]? = some (.int .u8 (tkI f.token 11)) := hR.tok 11 _ (by rw [List.getElem?_map, List.getElem?_eq_getElem (by omega)]; simp [cell8, tkI, ht])
  have h21 : R[21]? = some (.int .u8 (tkI f.token 12)) := hR.tok 12 _ (by rw [List.getElem?_map, List.getElem?_eq_getElem (by omega)]; simp [cell8, tkI, ht])
  have h22 : R[22]? = some (.int .u8 (tkI f.token 13)) := hR.tok 13 _ (by rw [List.getElem?_map, List.getElem?_eq_getElem (by omega)]; simp [cell8, tkI, ht])
  have h23 : R[23]? = some (.int .u8 (tkI f.token 14)) := hR.tok 14 _ (by rw [List.getElem?_map, List.getElem?_eq_getElem (by omega)]; simp [cell8, tkI, ht])
  have h24 : R[24]? = some (.int .u8 (tkI f.token 15)) := hR.tok 15 _ (by rw [List.getElem?_map, List.getElem?_eq_getElem (by omega)]; simp [cell8, tkI, ht])
  have hTe := fun w => tok_eql f.token ht w
  have hEe := fun w => ecn_eql f n0 n1 n2 w
  have hb2 : (bits .and .u16 (p : Int) 2 != 0) = bt p 2 := rfl
  have hb4 : (bits .and .u16 (p : Int) 4 != 0) = bt p 4 := rfl
  have hb8 : (bits .and .u16 (p : Int) 8 != 0) = bt p 8 := rfl
  have hb16 : (bits .and .u16 (p : Int) 16 != 0) = bt p 16 := rfl
  have hb32 : (bits .and .u16 (p : Int) 32 != 0) = bt p 32 := rfl
  have hb64 : (bits .and .u16 (p : Int) 64 != 0) = bt p 64 := rfl
  have hb128 : (bits .and .u16 (p : Int) 128 != 0) = bt p 128 := rfl
  have hb256 : (bits .and .u16 (p : Int) 256 != 0) = bt p 256 := rfl
  have hb1024 : (bits .and .u16 (p : Int) 1024 != 0) = bt p 1024 := rfl
  have hb2048 : (bits .and .u16 (p : Int) 2048 != 0) = bt p 2048 := rfl
  clear hR ht n0 n1 n2
  go_enter Tryd.func27, Tryd.ntmps27
  iterate 14 go_step
  refine opq (G := fun T => wpList _ _ _ _ { tmps := T, defers := [] } _) (n := 118) (i := 1) (j := 2) (vi := .int .u16 (p : Int)) (vj := .pointer (some ⟨w.heap.size, 0, none⟩)) rfl rfl rfl (fun T hn h_1 h_2 => ?_)
  refine seg9 (fun T' => T'.size = 118 ∧ T'[1]? = some (.int .u16 (p : Int)) ∧ T'[2]? = some (.pointer (some ⟨w.heap.size, 0, none⟩)) ∧ T'[13]? = some (.bool ((bt p 2 || (((f.id : Int) == 0)))))) ?_ ?_
  · intro S O hO hK
    have o3 : (O[3]?).bind (·.dst) = some 8 := by rw [hO]; rfl
    clear hO
    generalize bt p 2 = b at *
    have HN := Lib.hid hn
    have l5 : 5 < T.size := by omega
    have l6 : 6 < T.size := by omega
    have l7 : 7 < T.size := by omega
    have l8 : 8 < T.size := by omega
    have l9 : 9 < T.size := by omega
    have l10 : 10 < T.size := by omega
    have l11 : 11 < T.size := by omega
    have l12 : 12 < T.size := by omega
    have l13 : 13 < T.size := by omega
    clear hn
    cases b
    all_goals have hu : undef = Value.tuple #[] := rfl
    all_goals
      go_wp
      exact hK _ ⟨by simp only [Array.size_setIfInBounds]; exact HN.out, by simp [h_1], by simp [h_2], by simp [l13]⟩
  clear hn h_1 h_2 
  intro T ⟨hn, h_1, h_2, hA⟩
  generalize hG1 : ((bt p 2 || (((f.id : Int) == 0)))) = A1 at hA
  have HG1 := Lib.hid hG1
  clear hG1
  refine seg10 (fun T' => T'.size = 118 ∧ T'[1]? = some (.int .u16 (p : Int)) ∧ T'[2]? = some (.pointer (some ⟨w.heap.size, 0, none⟩)) ∧ T'[23]? = some (.bool (A1 && (bt p 4 || (((f.off : Int) == 0)))))) ?_ ?_
  · intro S O hO hK
    have o8 : (O[8]?).bind (·.dst) = some 13 := by rw [hO]; rfl
    have o12 : (O[12]?).bind (·.dst) = some 17 := by rw [hO]; rfl
    clear hO
    generalize bt p 4 = b at *
    have HN := Lib.hid hn
    have l14 : 14 < T.size := by omega
    have l15 : 15 < T.size := by omega
    have l16 : 16 < T.size := by omega
    have l17 : 17 < T.size := by omega
    have l18 : 18 < T.size := by omega
    have l19 : 19 < T.size := by omega
    have l20 : 20 < T.size := by omega
    have l21 : 21 < T.size := by omega
    have l22 : 22 < T.size := by omega
    have l23 : 23 < T.size := by omega
    clear hn
    cases A1 <;> cases b
    all_goals have hu : undef = Value.tuple #[] := rfl
    all_goals
      go_wp
      exact hK _ ⟨by simp only [Array.size_setIfInBounds]; exact HN.out, by simp [h_1], by simp [h_2], by simp [l23]⟩
  clear hn h_1 h_2 hA
  intro T ⟨hn, h_1, h_2, hA⟩
  generalize hG2 : (A1 && (bt p 4 || (((f.off : Int) == 0)))) = A2 at hA
  have HG2 := Lib.hid hG2
  clear hG2
  refine seg10 (fun T' => T'.size = 118 ∧ T'[1]? = some (.int .u16 (p : Int)) ∧ T'[2]? = some (.pointer (some ⟨w.heap.size, 0, none⟩)) ∧ T'[33]? = some (.bool (A2 && (bt p 8 || (((f.code : Int) == 0)))))) ?_ ?_
  · intro S O hO hK
    have o18 : (O[18]?).bind (·.dst) = some 23 := by rw [hO]; rfl
    have o22 : (O[22]?).bind (·.dst) = some 27 := by rw [hO]; rfl
    clear hO
    generalize bt p 8 = b at *
    have HN := Lib.hid hn
    have l24 : 24 < T.size := by omega
    have l25 : 25 < T.size := by omega
    have l26 : 26 < T.size := by omega
    have l27 : 27 < T.size := by omega
    have l28 : 28 < T.size := by omega
    have l29 : 29 < T.size := by omega
    have l30 : 30 < T.size := by omega
    have l31 : 31 < T.size := by omega
    have l32 : 32 < T.size := by omega
    have l33 : 33 < T.size := by omega
    clear hn
    cases A2 <;> cases b
    all_goals have hu : undef = Value.tuple #[] := rfl
    all_goals
      go_wp
      exact hK _ ⟨by simp only [Array.size_setIfInBounds]; exact HN.out, by simp [h_1], by simp [h_2], by simp [l33]⟩
  clear hn h_1 h_2 hA
  intro T ⟨hn, h_1, h_2, hA⟩
  generalize hG3 : (A2 && (bt p 8 || (((f.code : Int) == 0)))) = A3 at hA
  have HG3 := Lib.hid hG3
  clear hG3
  refine seg10 (fun T' => T'.size = 118 ∧ T'[1]? = some (.int .u16 (p : Int)) ∧ T'[2]? = some (.pointer (some ⟨w.heap.size, 0, none⟩)) ∧ T'[43]? = some (.bool (A3 && (bt p 16 || (((f.max : Int) == 0)))))) ?_ ?_
  · intro S O hO hK
    have o28 : (O[28]?).bind (·.dst) = some 33 := by rw [hO]; rfl
    have o32 : (O[32]?).bind (·.dst) = some 37 := by rw [hO]; rfl
    clear hO
    generalize bt p 16 = b at *
    have HN := Lib.hid hn
    have l34 : 34 < T.size := by omega
    have l35 : 35 < T.size := by omega
    have l36 : 36 < T.size := by omega
    have l37 : 37 < T.size := by omega
    have l38 : 38 < T.size := by omega
    have l39 : 39 < T.size := by omega
    have l40 : 40 < T.size := by omega
    have l41 : 41 < T.size := by omega
    have l42 : 42 < T.size := by omega
    have l43 : 43 < T.size := by omega
    clear hn
    cases A3 <;> cases b
    all_goals have hu : undef = Value.tuple #[] := rfl
    all_goals
      go_wp
      exact hK _ ⟨by simp only [Array.size_setIfInBounds]; exact HN.out, by simp [h_1], by simp [h_2], by simp [l43]⟩
  clear hn h_1 h_2 hA
  intro T ⟨hn, h_1, h_2, hA⟩
  generalize hG4 : (A3 && (bt p 16 || (((f.max : Int) == 0)))) = A4 at hA
  have HG4 := Lib.hid hG4
  clear hG4
  refine seg10 (fun T' => T'.size = 118 ∧ T'[1]? = some (.int .u16 (p : Int)) ∧ T'[2]? = some (.pointer (some ⟨w.heap.size, 0, none⟩)) ∧ T'[53]? = some (.bool (A4 && (bt p 32 || (((f.n : Int) == 0)))))) ?_ ?_
  · intro S O hO hK
    have o38 : (O[38]?).bind (·.dst) = some 43 := by rw [hO]; rfl
    have o42 : (O[42]?).bind (·.dst) = some 47 := by rw [hO]; rfl
    clear hO
    generalize bt p 32 = b at *
    have HN := Lib.hid hn
    have l44 : 44 < T.size := by omega
    have l45 : 45 < T.size := by omega
    have l46 : 46 < T.size := by omega
    have l47 : 47 < T.size := by omega
    have l48 : 48 < T.size := by omega
    have l49 : 49 < T.size := by omega
    have l50 : 50 < T.size := by omega
    have l51 : 51 < T.size := by omega
    have l52 : 52 < T.size := by omega
    have l53 : 53 < T.size := by omega
    clear hn
    cases A4 <;> cases b
    all_goals have hu : undef = Value.tuple #[] := rfl
    all_goals
      go_wp
      exact hK _ ⟨by simp only [Array.size_setIfInBounds]; exact HN.out, by simp [h_1], by simp [h_2], by simp [l53]⟩
  clear hn h_1 h_2 hA
  intro T ⟨hn, h_1, h_2, hA⟩
  generalize hG5 : (A4 && (bt p 32 || (((f.n : Int) == 0)))) = A5 at hA
  have HG5 := Lib.hid hG5
  clear hG5
  refine seg10 (fun T' => T'.size = 118 ∧ T'[1]? = some (.int .u16 (p : Int)) ∧ T'[2]? = some (.pointer (some ⟨w.heap.size, 0, none⟩)) ∧ T'[63]? = some (.bool (A5 && (bt p 64 || (!f.fin))))) ?_ ?_
  · intro S O hO hK
    have o48 : (O[48]?).bind (·.dst) = some 53 := by rw [hO]; rfl
    have o52 : (O[52]?).bind (·.dst) = some 57 := by rw [hO]; rfl
    clear hO
    generalize bt p 64 = b at *
    have HN := Lib.hid hn
    have l54 : 54 < T.size := by omega
    have l55 : 55 < T.size := by omega
    have l56 : 56 < T.size := by omega
    have l57 : 57 < T.size := by omega
    have l58 : 58 < T.size := by omega
    have l59 : 59 < T.size := by omega
    have l60 : 60 < T.size := by omega
    have l61 : 61 < T.size := by omega
    have l62 : 62 < T.size := by omega
    have l63 : 63 < T.size := by omega
    clear hn
    cases A5 <;> cases b
    all_goals have hu : undef = Value.tuple #[] := rfl
    all_goals
      go_wp
      exact hK _ ⟨by simp only [Array.size_setIfInBounds]; exact HN.out, by simp [h_1], by simp [h_2], by simp [l63]⟩
  clear hn h_1 h_2 hA
  intro T ⟨hn, h_1, h_2, hA⟩
  generalize hG6 : (A5 && (bt p 64 || (!f.fin))) = A6 at hA
  have HG6 := Lib.hid hG6
  clear hG6
  refine seg16 (fun T' => T'.size = 118 ∧ T'[1]? = some (.int .u16 (p : Int)) ∧ T'[2]? = some (.pointer (some ⟨w.heap.size, 0, none⟩)) ∧ T'[79]? = some (.bool (A6 && (bt p 128 || (((f.acks.length : Int) == 0) && ((f.delay : Int) == 0)))))) ?_ ?_
  · intro S O hO hK
    have o58 : (O[58]?).bind (·.dst) = some 63 := by rw [hO]; rfl
    have o62 : (O[62]?).bind (·.dst) = some 67 := by rw [hO]; rfl
    have o67 : (O[67]?).bind (·.dst) = some 72 := by rw [hO]; rfl
    clear hO
    generalize bt p 128 = b at *
    generalize hc : ((f.acks.length : Int) == 0) = c at hK
    have HN := Lib.hid hn
    have l64 : 64 < T.size := by omega
    have l65 : 65 < T.size := by omega
    have l66 : 66 < T.size := by omega
    have l67 : 67 < T.size := by omega
    have l68 : 68 < T.size := by omega
    have l69 : 69 < T.size := by omega
    have l70 : 70 < T.size := by omega
    have l71 : 71 < T.size := by omega
    have l72 : 72 < T.size := by omega
    have l73 : 73 < T.size := by omega
    have l74 : 74 < T.size := by omega
    have l75 : 75 < T.size := by omega
    have l76 : 76 < T.size := by omega
    have l77 : 77 < T.size := by omega
    have l78 : 78 < T.size := by omega
    have l79 : 79 < T.size := by omega
    clear hn
    cases A6 <;> cases b <;> cases c
    all_goals have hu : undef = Value.tuple #[] := rfl
    all_goals
      go_wp
      exact hK _ ⟨by simp only [Array.size_setIfInBounds]; exact HN.out, by simp [h_1], by simp [h_2], by simp [l79]⟩
  clear hn h_1 h_2 hA
  intro T ⟨hn, h_1, h_2, hA⟩
  generalize hG7 : (A6 && (bt p 128 || (((f.acks.length : Int) == 0) && ((f.delay : Int) == 0)))) = A7 at hA
  have HG7 := Lib.hid hG7
  clear hG7
  refine seg11 (fun T' => T'.size = 118 ∧ T'[1]? = some (.int .u16 (p : Int)) ∧ T'[2]? = some (.pointer (some ⟨w.heap.size, 0, none⟩)) ∧ T'[90]? = some (.bool (A7 && (bt p 256 || (ecnB f))))) ?_ ?_
  · intro S O hO hK
    have o74 : (O[74]?).bind (·.dst) = some 79 := by rw [hO]; rfl
    have o78 : (O[78]?).bind (·.dst) = some 83 := by rw [hO]; rfl
    clear hO
    generalize bt p 256 = b at *
    have HN := Lib.hid hn
    have l80 : 80 < T.size := by omega
    have l81 : 81 < T.size := by omega
    have l82 : 82 < T.size := by omega
    have l83 : 83 < T.size := by omega
    have l84 : 84 < T.size := by omega
    have l85 : 85 < T.size := by omega
    have l86 : 86 < T.size := by omega
    have l87 : 87 < T.size := by omega
    have l88 : 88 < T.size := by omega
    have l89 : 89 < T.size := by omega
    have l90 : 90 < T.size := by omega
    clear hn
    cases A7 <;> cases b
    all_goals have hu : undef = Value.tuple #[] := rfl
    all_goals
      go_wp
      exact hK _ ⟨by simp only [Array.size_setIfInBounds]; exact HN.out, by simp [h_1], by simp [h_2], by simp [l90]⟩
  clear hn h_1 h_2 hA
  intro T ⟨hn, h_1, h_2, hA⟩
  generalize hG8 : (A7 && (bt p 256 || (ecnB f))) = A8 at hA
  have HG8 := Lib.hid hG8
  clear hG8
  refine seg11 (fun T' => T'.size = 118 ∧ T'[1]? = some (.int .u16 (p : Int)) ∧ T'[2]? = some (.pointer (some ⟨w.heap.size, 0, none⟩)) ∧ T'[101]? = some (.bool (A8 && (bt p 1024 || (((f.data.length : Int) == 0)))))) ?_ ?_
  · intro S O hO hK
    have o85 : (O[85]?).bind (·.dst) = some 90 := by rw [hO]; rfl
    have o89 : (O[89]?).bind (·.dst) = some 94 := by rw [hO]; rfl
    clear hO
    generalize bt p 1024 = b at *
    have HN := Lib.hid hn
    have l91 : 91 < T.size := by omega
    have l92 : 92 < T.size := by omega
    have l93 : 93 < T.size := by omega
    have l94 : 94 < T.size := by omega
    have l95 : 95 < T.size := by omega
    have l96 : 96 < T.size := by omega
    have l97 : 97 < T.size := by omega
    have l98 : 98 < T.size := by omega
    have l99 : 99 < T.size := by omega
    have l100 : 100 < T.size := by omega
    have l101 : 101 < T.size := by omega
    clear hn
    cases A8 <;> cases b
    all_goals have hu : undef = Value.tuple #[] := rfl
    all_goals
      go_wp
      exact hK _ ⟨by simp only [Array.size_setIfInBounds]; exact HN.out, by simp [h_1], by simp [h_2], by simp [l101]⟩
  clear hn h_1 h_2 hA
  intro T ⟨hn, h_1, h_2, hA⟩
  generalize hG9 : (A8 && (bt p 1024 || (((f.data.length : Int) == 0)))) = A9 at hA
  have HG9 := Lib.hid hG9
  clear hG9
  refine seg16 (fun T' => T'.size = 118 ∧ T'[1]? = some (.int .u16 (p : Int)) ∧ T'[2]? = some (.pointer (some ⟨w.heap.size, 0, none⟩)) ∧ T'[117]? = some (.bool (A9 && (bt p 2048 || (((f.cid.length : Int) == 0) && tokB f.token))))) ?_ ?_
  · intro S O hO hK
    have o96 : (O[96]?).bind (·.dst) = some 101 := by rw [hO]; rfl
    have o100 : (O[100]?).bind (·.dst) = some 105 := by rw [hO]; rfl
    have o105 : (O[105]?).bind (·.dst) = some 110 := by rw [hO]; rfl
    clear hO
    generalize bt p 2048 = b at *
    generalize hc : ((f.cid.length : Int) == 0) = c at hK
    have HN := Lib.hid hn
    have l102 : 102 < T.size := by omega
    have l103 : 103 < T.size := by omega
    have l104 : 104 < T.size := by omega
    have l105 : 105 < T.size := by omega
    have l106 : 106 < T.size := by omega
    have l107 : 107 < T.size := by omega
    have l108 : 108 < T.size := by omega
    have l109 : 109 < T.size := by omega
    have l110 : 110 < T.size := by omega
    have l111 : 111 < T.size := by omega
    have l112 : 112 < T.size := by omega
    have l113 : 113 < T.size := by omega
    have l114 : 114 < T.size := by omega
    have l115 : 115 < T.size := by omega
    have l116 : 116 < T.size := by omega
    have l117 : 117 < T.size := by omega
    clear hn
    cases A9 <;> cases b <;> cases c
    all_goals have hu : undef = Value.tuple #[] := rfl
    all_goals
      go_wp
      exact hK _ ⟨by simp only [Array.size_setIfInBounds]; exact HN.out, by simp [h_1], by simp [h_2], by simp [l117]⟩
  clear hn h_1 h_2 hA
  intro T ⟨hn, h_1, h_2, hA⟩
  generalize hG10 : (A9 && (bt p 2048 || (((f.cid.length : Int) == 0) && tokB f.token))) = A10 at hA
  have HG10 := Lib.hid hG10
  clear hG10
  have l4 : 4 < T.size := by omega
  have HN := Lib.hid hn
  clear hn
  go_wp
  refine bodyPost_ret (results_tmp rfl _ _ _) rfl ?_
  refine ⟨by simp [l4]; rw [← HG10.out, ← HG9.out, ← HG8.out, ← HG7.out, ← HG6.out, ← HG5.out, ← HG4.out, ← HG3.out, ← HG2.out, ← HG1.out]; rfl, (Below.refl _ _).alloc (Nat.le_refl _) _⟩
end Go.Proofs.YtkkojhkglcigmaaDoor
