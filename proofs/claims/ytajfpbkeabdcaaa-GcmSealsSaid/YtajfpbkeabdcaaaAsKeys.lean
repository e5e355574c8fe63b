/-
  aes.Keys, aes.New: a key's round keys; its cipher.
-/
import Derived.Test.YtajfpbkeabdcaaaAsRow
namespace Go.Proofs.Ytajfpbkeabdcaaa
open Go.RowKit
set_option linter.unusedVariables false

/-- The rounds' constants; the round keys, behind k rounds. -/
def cN : Nat → UInt8
  | 0 => 1
  | k + 1 => tw (cN k)
def ksS (key : List UInt8) : Nat → List (List UInt8)
  | 0 => z11.set 0 key
  | k + 1 => (ksS key k).set (k + 1) (nkL ((ksS key k).getD k []) (cN k))
def ksL (key : List UInt8) : List (List UInt8) := ksS key 10
theorem ksS_b {key : List UInt8} (h : key.length = 16) (k : Nat) (hk : k ≤ 10) : B11 (ksS key k) := by
  induction k with
  | zero => exact z11_b.set h
  | succ k ih => exact (ih (by omega)).set (nkL_len ((ih (by omega)).at_ (by omega)) _)

theorem wpList_built1 {P : Program} {ops : Array Oper} {rest : List Oper} {o : Oper} {a : Act} {w : World} {Q : Exit → Act → World → Prop} (hg : o.guard = none) (t : TypeId) (x : Operand) (ho : o.op = .build t #[(0, x)])
    (v : Value) (hx : a.eval x = v) (cells : Array Value) (hb : P.built t [(0, v)] = some cells)
    (h : wpList P ops Q rest (a.put o.dst (.agg cells)) w) : wpList P ops Q (o :: rest) a w := by
  have e : ((#[(0, x)] : Array (Nat × Operand)).map fun (i, x) => (i, a.eval x)).toList = [(0, v)] := by simp [hx]
  exact wpList_plain hg fun _ hK => wp_build t #[(0, x)] ho (by rw [e, hb]; rfl) (by rw [e, hb]; exact hK _ _ h)

theorem wpList_built0 {P : Program} {ops : Array Oper} {rest : List Oper} {o : Oper} {a : Act} {w : World} {Q : Exit → Act → World → Prop} (hg : o.guard = none) (t : TypeId) (ho : o.op = .build t #[])
    (cells : Array Value) (hb : P.built t [] = some cells)
    (h : wpList P ops Q rest (a.put o.dst (.agg cells)) w) : wpList P ops Q (o :: rest) a w := by
  have e : ((#[] : Array (Nat × Operand)).map fun (i, x) => (i, a.eval x)).toList = [] := by simp
  exact wpList_plain hg fun _ hK => wp_build t #[] ho (by rw [e, hb]; rfl) (by rw [e, hb]; exact hK _ _ h)

theorem built11' {key : List UInt8} (h : key.length = 16) : Try.prog.built 54 [(0, .agg (aRow key))] = some (aRow (z11.set 0 key).flatten) := by
  match key, h with
  | [x0, x1, x2, x3, x4, x5, x6, x7, x8, x9, x10, x11, x12, x13, x14, x15], _ => exact built11 x0 x1 x2 x3 x4 x5 x6 x7 x8 x9 x10 x11 x12 x13 x14 x15

theorem zero11 (w : World) : (zeroValue 54).run Try.prog w = .ok (.agg (aRow z11.flatten)) w := by kernel_rfl

set_option maxRecDepth 100000 in
set_option maxHeartbeats 400000 in
theorem keys_any (key : List UInt8) (w : World) (hl : key.length = 16) :
    Calls Try.prog 26 #[.agg (aRow key)] w fun e w' => e = .returned (.agg (aRow (ksL key).flatten)) ∧ Below w.heap.size w w' := by
  have HL := Deep.mk hl
  have HBD := Deep.mk (built11' hl)
  clear hl
  obtain ⟨Z, hZ⟩ : ∃ Z, Z = aRow z11.flatten := ⟨_, rfl⟩
  have hz11 := zero11
  have hZs : Z.size = 176 := by rw [hZ, aRow_size, z11_b.flat]
  rw [← hZ] at hz11
  have HZD := Deep.mk hZ
  have HZS := Deep.mk hZs
  have HZ11 := Deep.mk hz11
  clear hZ hZs hz11
  go_enter Try.func26, Try.ntmps26
  go_upto_region 1 with (fail)
  rw [HZ11.out]
  simp only [Result.andThen, Oper.upon]
  rename_i hK2
  refine hK2 _ _ ?_
  clear hK2
  go_upto_region 1 with (fail)
  rw [show (w.alloc (.cells (aRow key) 22)).heap.size = w.heap.size + 1 by simp]
  obtain ⟨hbe, h2, h3⟩ := made2 w (aRow key) Z 22 54
  have hz : ((w.alloc (.cells (aRow key) 22)).alloc (.cells Z 54)).heap.size = w.heap.size + 1 + 1 := by simp
  generalize (w.alloc (.cells (aRow key) 22)).alloc (.cells Z 54) = W at *
  obtain ⟨b, hb⟩ : ∃ b, b = w.heap.size := ⟨_, rfl⟩
  obtain ⟨r, hr⟩ : ∃ c, c = w.heap.size + 1 := ⟨_, rfl⟩
  rw [← hb] at h2
  rw [← hr] at h3 hz
  rw [← hr, ← hb]
  have HB := Lib.hid hb
  have HR := Lib.hid hr
  have hbr : b < r := by omega
  have HBE := Lib.hid hbe
  have H2 := Lib.hid h2
  have H3 := Lib.hid h3
  have HZ := Lib.hid hz
  clear hb hr hbe h2 h3 hz
  have hb0 : B11 (z11.set 0 key) := z11_b.set HL.out
  have HB0 := Deep.mk hb0
  clear hb0
  obtain ⟨R0, hR0⟩ : ∃ R, R = aRow (z11.set 0 key).flatten := ⟨_, rfl⟩
  have HI0 : Deep ((Try.prog.info? 54).map (·.size) = some R0.size) := ⟨by rw [hR0]; exact info_aRow11 HB0.out⟩
  have HS0 : Deep (R0.size = 176) := ⟨by rw [hR0, aRow_size, HB0.out.flat]⟩
  have HO0 : Deep (R0.all (·.oneCell') = true) := ⟨by rw [hR0]; exact aRow_one _⟩
  rw [← hR0] at HBD
  have HR0 := Deep.mk hR0
  clear hR0
  go_upto_region 2 with (first
    | (refine wpList_load_row rfl 22 (.tmp 1) rfl b rfl _ (aRow key) _ _ H2.out Try.underlying22 rfl (info_aRow HL.out) ?_)
    | (refine wpList_built1 rfl 54 (.tmp 6) rfl (.agg (aRow key)) rfl R0 HBD.out ?_))
  rw [HZ11.out]
  simp only [Result.andThen, Oper.upon]
  rename_i hK2
  refine hK2 _ _ ?_
  clear hK2
  go_upto_region 2 with (first
    | (refine wpList_store_row rfl 54 (.tmp 3) (.tmp 7) rfl W.heap.size R0 rfl rfl _ _ (heap_alloc_new W _) HI0.out (by rw [HZS.out, HS0.out]) HO0.out ?_; rw [World.setRow_alloc_new]))
  obtain ⟨n, hn⟩ : ∃ n, n = W.heap.size := ⟨_, rfl⟩
  have hrn : r < n := by rw [hn, HZ.out]; omega
  have HBE2 := Lib.hid (HBE.out.alloc HBE.out.size (.cells R0 54))
  have H33 := Lib.hid (H3.out.alloc (.cells R0 54))
  have H44 : Hid (Wh (W.alloc (.cells R0 54)) n 54 (aRow (ksS key 0).flatten)) := by rw [hn, ksS, ← HR0.out]; exact Lib.hid (Wh.new _ _ _)
  rw [← hn]
  clear H2 H3 HBE hn HZ HB0 HI0 HS0 HO0 HBD HR0
  generalize W.alloc (.cells R0 54) = W2 at *
  go_wp2
  go_loopw [4, 5] (fun vc i wr => ∃ (k : Nat) (c : UInt8), k ≤ 10 ∧ i = .int .i64 ((k + 1 : Nat) : Int) ∧ Deep (c = cN k) ∧ vc = .int .u8 (c.toNat : Int) ∧ Hid (Wh wr n 54 (aRow (ksS key k).flatten)) ∧ Hid (W2.grownBy wr (some n))) (fun _ i _ => 11 - (intOf i).toNat)
  case atStart => exact ⟨0, 1, by omega, rfl, ⟨rfl⟩, rfl, H44, Lib.hid (World.grownBy.refl _ _)⟩
  case round =>
    obtain ⟨k, c, hk, rfl, HC, rfl, HW, HG⟩ := hrel
    clear H44
    have HB11 := Deep.mk (ksS_b HL.out k hk)
    obtain ⟨j, hj⟩ : ∃ j, j = k + 1 := ⟨_, rfl⟩
    rw [← hj]
    have hc8 := c.toNat_lt
    by_cases hlt : k < 10
    · have e1 : IntKind.i64.wrap ((j : Int) - 1) = (j : Int) - 1 := IntWalk.i64_in _ (by omega)
      have e2 : ((j : Int) - 1).toNat = k := by omega
      have e3 : (j : Int) - 1 = (k : Int) := by omega
      have hj1 : 1 ≤ j := by omega
      have hj10 : j ≤ 10 := by omega
      have hj11 : j < 11 := by omega
      have HRG := Lib.hid (HB11.out.range' HW.out (show k < 11 by omega))
      have hx16 := HB11.out.at_ (show k < 11 by omega)
      obtain ⟨x, hx⟩ : ∃ x, x = (ksS key k).getD k [] := ⟨_, rfl⟩
      rw [← hx] at HRG hx16
      have HX := Deep.mk hx
      have HX16 := Deep.mk hx16
      have HJ := Deep.mk hj
      have E3 := Deep.mk e3
      have hdj : decide ((j : Int) ≤ 10) = true := by rw [decide_eq_true_iff]; omega
      clear hx hx16 hj e3
      obtain ⟨y, hy⟩ : ∃ y, y = nkL x c := ⟨_, rfl⟩
      have hy16 : y.length = 16 := by rw [hy]; exact nkL_len HX16.out c
      have hnx := next_any x c wr HX16.out
      rw [← hy] at hnx
      have HNX := Lib.hid hnx
      have HY := Deep.mk hy
      have HY16 := Deep.mk hy16
      clear hy hy16 hnx
      go_wp2_with (refine wpList_load_blk rfl (.tmp 15) rfl n (k * 16) rfl x HX16.out HRG.out ?_)
      refine HNX.out.mono ?_
      rintro e w3 ⟨rfl, hb3⟩
      have HB3 := Lib.hid hb3
      have HW3 := Lib.hid (HW.out.below hb3 HW.out.lt)
      have HTH := Lib.hid (HB11.out.there' HW3.out hj11)
      clear hb3
      go_wp2_with (refine wpList_store_blk rfl (.tmp 19) (.tmp 18) rfl n (j * 16) y rfl rfl HY16.out HTH.out ?_)
      obtain ⟨hs1, hs2⟩ := HB11.out.store' HW3.out hj11 HY16.out
      have HS1 : Hid (Wh (w3.setCells n (j * 16) (y.map cell8)) n 54 (aRow (ksS key (k + 1)).flatten)) := by
        rw [ksS, ← HX.out, ← HC.out, ← HY.out, ← HJ.out]
        exact Lib.hid hs1
      have HS2 := Lib.hid (grown_trans (grown_trans HG.out (grown_below HB3.out)) hs2)
      clear hs1 hs2
      generalize w3.setCells n (j * 16) (y.map cell8) = w5 at *
      obtain ⟨d, hd⟩ : ∃ d, d = tw c := ⟨_, rfl⟩
      have HTW := Lib.hid (twice_any c w5)
      rw [← hd] at HTW
      have HD : Deep (d = cN (k + 1)) := ⟨by rw [hd, cN, HC.out]⟩
      clear hd
      refine HTW.out.mono ?_
      rintro e w6 ⟨rfl, rfl⟩
      go_wp2
      refine ⟨⟨k + 1, d, by omega, by rw [HJ.out]; rfl, HD, rfl, HS1, HS2⟩, by simp [intOf]; omega⟩
    · have hk10 : k = 10 := by omega
      have hdj : decide ((j : Int) ≤ 10) = false := by rw [decide_eq_false_iff_not]; omega
      have HRW : Hid (Wh wr r 54 Z) := Lib.hid (H33.out.grown HG.out (by intro e; have := Option.some.inj e; omega))
      have HBW := Lib.hid (below_grown HBE2.out HG.out (by rw [← HB.out]; omega) HBE2.out.size)
      have hwr : w.heap.size ≤ r := by rw [HR.out]; omega
      obtain ⟨R1, hR1⟩ : ∃ R, R = aRow (ksL key).flatten := ⟨_, rfl⟩
      have HW1 : Hid (Wh wr n 54 R1) := by
        have h := HW.out
        rw [hk10] at h
        rw [hR1]
        exact Lib.hid h
      have HB1 : Deep (B11 (ksL key)) := ⟨ksS_b HL.out 10 (Nat.le_refl _)⟩
      have HI1 : Deep ((Try.prog.info? 54).map (·.size) = some R1.size) := ⟨by rw [hR1]; exact info_aRow11 HB1.out⟩
      have HS1 : Deep (R1.size = 176) := ⟨by rw [hR1, aRow_size, HB1.out.flat]⟩
      have HO1 : Deep (R1.all (·.oneCell') = true) := ⟨by rw [hR1]; exact aRow_one _⟩
      have HR1 := Deep.mk hR1
      clear HW HG HC hk10 hR1 hlt hk hj
      go_wp2_with (first
        | (refine wpList_load_row rfl 54 (.tmp 3) rfl n rfl _ R1 _ _ HW1.out Try.underlying54 rfl HI1.out ?_)
        | (refine wpList_store_row rfl 54 (.tmp 2) (.tmp 22) rfl r R1 rfl rfl _ _ HRW.out HI1.out (by rw [HZS.out, HS1.out]) HO1.out ?_))
      refine bodyPost_ret (v := .agg R1) (results_cell_row Try.results26 _ _ r _ _ (0, 0) _ rfl (setRow_heap wr r _ _ _ _ HRW.out) Try.underlying54 rfl HI1.out) rfl ?_
      exact ⟨by rw [HR1.out], below_setRow HBW.out hwr _⟩
end Go.Proofs.Ytajfpbkeabdcaaa
