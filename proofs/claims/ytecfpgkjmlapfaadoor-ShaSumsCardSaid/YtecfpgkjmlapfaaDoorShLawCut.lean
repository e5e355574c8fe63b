/-
  The walk through the statement ShaCut.
-/
import Derived.Test.YtecfpgkjmlapfaaDoorShKnown
import Derived.Test.YtecfpgkjmlapfaaDoorEq
import Derived.Deep.MidRow
import Derived.Deep.RegionHeld3
namespace Go.Proofs.YtecfpgkjmlapfaaDoor
open Go.RowKit
set_option linter.unusedVariables false

set_option maxRecDepth 100000 in
set_option maxHeartbeats 400000 in
theorem cut_out (l : List UInt8) (A : Option Addr) (len c : Nat) (cut more : Int) (w : World) (hK : KT w kW) (hKb : 0 < w.heap.size) (hl : l.length = len) (hlc : len ≤ c) (hcm : c ≤ maxLen)
    (hs : Sl w w.heap.size A l) (ho : 3000 < len ∨ cut < 0 ∨ (len : Int) < cut ∨ more < 0 ∨ (len : Int) - cut < more) :
    Calls Tryd.prog 4 #[.slice A len c, .int .i64 cut, .int .i64 more] w fun e w' => e = .returned (.bool true) ∧ Below w.heap.size w w' := by
  have HKN := Lib.hid (known_any w hK hKb)
  unfold maxLen at hcm
  have hq : (∃ _ : decide ((3000 : Int) < (len : Int)) = true, True) ∨ (∃ _ : decide ((3000 : Int) < (len : Int)) = false, ∃ _ : decide (cut < 0) = true, True)
      ∨ (∃ _ : decide ((3000 : Int) < (len : Int)) = false, ∃ _ : decide (cut < 0) = false, ∃ _ : decide ((len : Int) < cut) = true, True)
      ∨ (∃ _ : decide ((3000 : Int) < (len : Int)) = false, ∃ _ : decide (cut < 0) = false, ∃ _ : decide ((len : Int) < cut) = false, ∃ _ : decide (more < 0) = true, True)
      ∨ (∃ _ : decide ((3000 : Int) < (len : Int)) = false, ∃ _ : decide (cut < 0) = false, ∃ _ : decide ((len : Int) < cut) = false, ∃ _ : decide (more < 0) = false, ∃ _ : decide ((len : Int) - cut < more) = true, IntKind.i64.wrap ((len : Int) - cut) = (len : Int) - cut) := by
    by_cases a1 : 3000 < len
    · exact .inl ⟨decide_eq_true (by omega), trivial⟩
    by_cases a2 : cut < 0
    · exact .inr (.inl ⟨decide_eq_false (by omega), decide_eq_true a2, trivial⟩)
    by_cases a3 : (len : Int) < cut
    · exact .inr (.inr (.inl ⟨decide_eq_false (by omega), decide_eq_false a2, decide_eq_true a3, trivial⟩))
    by_cases a4 : more < 0
    · exact .inr (.inr (.inr (.inl ⟨decide_eq_false (by omega), decide_eq_false a2, decide_eq_false a3, decide_eq_true a4, trivial⟩)))
    · exact .inr (.inr (.inr (.inr ⟨decide_eq_false (by omega), decide_eq_false a2, decide_eq_false a3, decide_eq_false a4, decide_eq_true (by omega), IntWalk.i64_in _ (by omega)⟩)))
  clear hs hl ho hK
  rcases hq with ⟨h1, _⟩ | ⟨h1, h2, _⟩ | ⟨h1, h2, h3, _⟩ | ⟨h1, h2, h3, h4, _⟩ | ⟨h1, h2, h3, h4, h5, h6⟩
  all_goals
    go_enter Tryd.func4, Tryd.ntmps4
    go_wp2_with (go_at_call 5; refine HKN.out.mono ?_; rintro e w1 ⟨rfl, hb1⟩)
    go_ret
    exact ⟨rfl, hb1⟩

/-- Sum of a list of texts that the call has just laid. -/
theorem sum_of (ks : List W32) (ps : List (List UInt8)) (vs : List Value) (n : Nat) (w : World) (hks : ks.length = 64) (hK : KT w ks) (hKb : 0 < w.heap.size) (hvn : vs.length = n) (hn : n ≤ 1000)
    (hP : vs.length = ps.length ∧ ∀ (i : Nat) (v : Value) (l : List UInt8), vs[i]? = some v → ps[i]? = some l → ∃ A c, v = .slice A l.length c ∧ l.length ≤ c ∧ c ≤ maxLen ∧ Sl w w.heap.size A l) (hmax : ps.flatten.length ≤ 16000000) :
    Calls Tryd.prog 7 #[.slice (some ⟨w.heap.size, 0, none⟩) n n] (w.alloc (.cells vs.toArray 28)) fun e w' => e = .returned (.agg (bRow (sumK ks ps.flatten))) ∧ Below w.heap.size w w' := by
  have hb : Below w.heap.size w (w.alloc (.cells vs.toArray 28)) := (Below.refl _ _).alloc (Nat.le_refl _) _
  have hA : Sv (w.alloc (.cells vs.toArray 28)) (w.alloc (.cells vs.toArray 28)).heap.size (some ⟨w.heap.size, 0, none⟩) vs := by
    intro _
    refine ⟨w.heap.size, 0, rfl, by simp, fun i v hv => ?_⟩
    rw [Nat.zero_add, (Wh.new w 28 vs.toArray).cell, List.getElem?_toArray]
    exact hv
  refine (sum_any ks ps vs _ n n _ hks (hK.below hKb hb) (Nat.lt_of_lt_of_le hKb hb.size) hA hvn (Nat.le_refl _) (by unfold maxLen; omega) ⟨hP.1, fun i v l hv hl => ?_⟩ hmax).mono ?_
  · obtain ⟨A, c, h1, h2, h3, h4⟩ := hP.2 i v l hv hl
    exact ⟨A, c, h1, h2, h3, (h4.below hb).keep hb.size (fun _ _ => rfl)⟩
  · rintro e w' ⟨rfl, h⟩
    exact ⟨rfl, hb.trans (h.mono hb.size)⟩

/-- What stands while the last region is under way. -/
structure LC (w0 wr : World) (B g8 : Nat) (A : Option Addr) (l out : List UInt8) : Prop where
  bel : Below w0.heap.size w0 wr
  inp : Sl wr B A l
  box : Wh wr g8 25 (bRow out)

theorem yieldsIf_slice {P : Program} {ops : Array Oper} {S : World → Prop} {op : Oper} {a : Act} (hw : Region.wanted op (yielded ops a.tmps) = true) (ty : TypeId) (x : Operand) (lo hi mx : Option Operand) (ho : op.op = .slice ty x lo hi mx) (v : Value)
    (h : ∀ w, S w → (Instr.sliceAt ty (a.eval x) (lo.map a.eval) (hi.map a.eval) (mx.map a.eval)).run P w = .ok v w) : YieldsIf P ops S op v a :=
  .inl ⟨hw, fun w hw' => by
    unfold execOp
    simp only [ho, Sem.run_bind, h w hw', Result.andThen_ok, Sem.run_pure]⟩
theorem act_normS {P : Program} {md : Region.Mode} {ops : Array Oper} {Q : Exit → Act → World → Prop} {S : World → Prop} {fuel : Nat} {listed : Array Bool} {a b : Act} {w : World} (h : a = b) (k : wpAnyH P md ops Q S fuel listed b w) : wpAnyH P md ops Q S fuel listed a w :=
  h ▸ k
theorem wanted_goS {o : Oper} {y : Nat → Option Bool} {A B : Prop} (h : Region.wanted o y = true) (k : A) : if Region.wanted o y = true then A else B := by rw [if_pos h]; exact k
theorem yieldsIf_strS {P : Program} {ops : Array Oper} {S : World → Prop} {op : Oper} {a : Act} (hw : Region.wanted op (yielded ops a.tmps) = true) (src dst e : TypeId) (x : Operand) (ho : op.op = .convert src dst x)
    (hs : P.underlying src = some (.slice e)) (he : P.underlying e = some (.int .u8)) (hd : P.underlying dst = some .string) (B : Nat) (A : Option Addr) (n c : Nat) (l : List UInt8) (hx : a.eval x = .slice A n c) (hn : l.length = n) (hS : ∀ w, S w → Sl w B A l) :
    YieldsIf P ops S op (.string (strB l)) a :=
  .inl ⟨hw, fun w hw' => by
    unfold execOp
    simp only [ho, hx, Sem.run_bind, run_string_sl w src dst e hs he hd B A n c l (hS w hw') hn, Result.andThen_ok, Sem.run_pure]⟩
theorem bRow_ints (l : List UInt8) : bRow l = (ints .u8 (l.map fun x => (x.toNat : Int))).toArray := by
  unfold bRow ints
  rw [List.map_map]
  rfl
theorem bytes_wf (l : List UInt8) : ∀ z ∈ l.map (fun x => (x.toNat : Int)), (Lit.int .u8 z).wf = true := by
  intro z hz
  obtain ⟨x, _, rfl⟩ := List.mem_map.1 hz
  have := x.toNat_lt
  simp only [Lit.wf, Bool.and_eq_true, decide_eq_true_eq]
  refine ⟨?_, ?_⟩ <;> simp [IntKind.min, IntKind.max, IntKind.signed, IntKind.bits] <;> omega
/-- '==' of two sums. -/
theorem eq_sums (a b : List UInt8) (ha : a.length = 32) (hb : b.length = 32) (w : World) : (Op.equalIn 10000 25 (.agg (bRow a)) (.agg (bRow b))).run Tryd.prog w = .ok (decide (a = b)) w := by
  rw [bRow_ints, bRow_ints]
  have h := run_equalIn_ints (P := Tryd.prog) (q := .u8) (n := 32) Tryd.underlying25 Tryd.underlying5 (by kernel_rfl) (by kernel_rfl) (by kernel_rfl) (a.map fun x => (x.toNat : Int)) (b.map fun x => (x.toNat : Int)) (by simpa using ha) (by simpa using hb) (bytes_wf a) (bytes_wf b) w
  rw [h]
  congr 1
  rw [Bool.eq_iff_iff, decide_eq_true_iff, decide_eq_true_iff]
  constructor
  · intro h
    apply List.map_inj_right (f := fun x : UInt8 => (x.toNat : Int)) (fun x y h => UInt8.toNat_inj.1 (by omega)) |>.1 h
  · rintro rfl; rfl
/-- The address of 's[k:]'. -/
def cutA (A : Option Addr) (c k : Nat) : Option Addr := if c = k then A else A.map fun x => x.add k
/-- A part that is cut out. -/
theorem part_cut {w : World} {B : Nat} {A : Option Addr} {l : List UInt8} {len c k n : Nat} (h : Sl w B A l) (hl : l.length = len) (hlc : len ≤ c) : Sl w B (cutA A c k) ((l.drop k).take n) := by
  have h1 := Sv.cut h k n c (by rw [List.length_map, hl]; exact hlc)
  unfold Sl
  rw [List.map_take, List.map_drop]
  exact h1

theorem row_rangeS {w : World} {g : Nat} {t : TypeId} {R : Array Value} (h : Wh w g t R) : w.rangeAt g 0 R.toList := fun j v hv => by
  rw [Nat.zero_add, h.cell]
  simpa using hv

theorem run_cut1 (A : Option Addr) (len c k : Nat) (h : k ≤ c) (w : World) : (Instr.sliceAt 28 (.slice A len c) none (some (.int .i64 (k : Int))) none).run Tryd.prog w = .ok (.slice A k c) w := by
  have hu : Tryd.prog.underlying 28 = some (.slice (Tryd.prog.elem 28)) := by kernel_rfl
  have h1 : (sizeOf (Tryd.prog.elem 28)).run Tryd.prog w = .ok 1 w := by rfl
  rw [run_sliceAt_slice w _ _ _ _ _ hu, run_slice_h w _ A len c hu .i64 (k : Int) (by omega) (by omega), h1]
  simp only [Result.andThen_ok, sliced, Int.toNat_natCast, Nat.zero_mul, Nat.sub_zero]
  congr 2
  split
  · rfl
  · cases A <;> simp [Addr.add]
theorem run_cut2 (A : Option Addr) (len c k h' : Nat) (h : k ≤ h') (h2 : h' ≤ c) (w : World) : (Instr.sliceAt 28 (.slice A len c) (some (.int .i64 (k : Int))) (some (.int .i64 (h' : Int))) none).run Tryd.prog w = .ok (.slice (cutA A c k) (h' - k) (c - k)) w := by
  have hu : Tryd.prog.underlying 28 = some (.slice (Tryd.prog.elem 28)) := by kernel_rfl
  have h1 : (sizeOf (Tryd.prog.elem 28)).run Tryd.prog w = .ok 1 w := by rfl
  rw [run_sliceAt_slice w _ _ _ _ _ hu, run_slice_lh w _ A len c hu .i64 .i64 (k : Int) (h' : Int) (by omega) (by omega) (by omega), h1]
  simp only [Result.andThen_ok, sliced, Int.toNat_natCast, Nat.mul_one, cutA]
theorem run_cut3 (A : Option Addr) (len c k : Nat) (h : k ≤ len) (h2 : len ≤ c) (w : World) : (Instr.sliceAt 28 (.slice A len c) (some (.int .i64 (k : Int))) none none).run Tryd.prog w = .ok (.slice (cutA A c k) (len - k) (c - k)) w := by
  have hu : Tryd.prog.underlying 28 = some (.slice (Tryd.prog.elem 28)) := by kernel_rfl
  have h1 : (sizeOf (Tryd.prog.elem 28)).run Tryd.prog w = .ok 1 w := by rfl
  rw [run_sliceAt_slice w _ _ _ _ _ hu, run_slice_l w _ A len c hu .i64 (k : Int) (by omega) (by omega), h1]
  simp only [Result.andThen_ok, sliced, Int.toNat_natCast, Nat.mul_one, cutA]

set_option maxRecDepth 100000 in
set_option maxHeartbeats 1600000 in
theorem cut_in (l : List UInt8) (A : Option Addr) (len c k m : Nat) (w : World) (hK : KT w kW) (hKb : 0 < w.heap.size) (hl : l.length = len) (hlc : len ≤ c) (hcm : c ≤ maxLen)
    (hs : Sl w w.heap.size A l) (h3 : len ≤ 3000) (hkm : k + m ≤ len) :
    Calls Tryd.prog 4 #[.slice A len c, .int .i64 (k : Int), .int .i64 (m : Int)] w fun e w' => e = .returned (.bool true) ∧ Below w.heap.size w w' := by
  have HKN := Lib.hid (known_any w hK hKb)
  have HL := Lib.hid hl
  have HS := Lib.hid hs
  obtain ⟨ks, hks⟩ : ∃ ks, ks = kW := ⟨_, rfl⟩
  rw [← hks] at hK
  have HKS : Deep (ks.length = 64) := ⟨by rw [hks]; exact kW_len⟩
  have HK := Lib.hid hK
  unfold maxLen at hcm
  have d1 : decide ((3000 : Int) < (len : Int)) = false := decide_eq_false (by omega)
  have d2 : decide (len < k) = false := decide_eq_false (by omega)
  have d4 : decide ((k : Int) < 0) = false := decide_eq_false (by omega)
  have d5 : decide ((m : Int) < 0) = false := decide_eq_false (by omega)
  have d3 : decide ((len : Int) - (k : Int) < (m : Int)) = false := decide_eq_false (by omega)
  have e1 : IntKind.i64.wrap ((len : Int) - (k : Int)) = (len : Int) - (k : Int) := IntWalk.i64_in _ (by omega)
  clear hl hs hK hks
  go_enter Tryd.func4, Tryd.ntmps4
  go_upto_region 5 with (go_at_call 5; refine HKN.out.mono ?_; rintro e w1 ⟨rfl, hb1⟩; have HB1 := Lib.hid hb1; clear hb1)
  clear d1 d2 d3 d4 d5 e1 HKN
  have hstr := run_string_sl (P := Tryd.prog) w1 28 9 5 Tryd.underlying28 Tryd.underlying5 Tryd.underlying9 _ A len c l (HS.out.below HB1.out) HL.out
  go_upto_region 6 with (fail)
  clear hstr
  go_wp2_with fail
  have hKb1 : 0 < w1.heap.size := Nat.lt_of_lt_of_le hKb HB1.out.size
  have HK1 := Lib.hid (HK.out.below hKb HB1.out)
  have HS1 := Lib.hid ((HS.out.below HB1.out).keep HB1.out.size (fun _ _ => rfl))
  have hp1 := one_part (w := w1) (A := A) (c := c) (l := l) (by rw [HL.out]; exact hlc) (by unfold maxLen; exact hcm) HS1.out
  rw [HL.out] at hp1
  refine (sum_of ks [l] [.slice A len c] 1 w1 HKS.out HK1.out hKb1 rfl (by omega) hp1 (by simp only [List.flatten_cons, List.flatten_nil, List.append_nil, HL.out]; omega)).mono ?_
  rintro e w2 ⟨rfl, hb2⟩
  obtain ⟨out, hout⟩ : ∃ out, out = sumK ks [l].flatten := ⟨_, rfl⟩
  rw [← hout]
  have hol : out.length = 32 := by rw [hout]; exact sumK_len _ _
  have HOUT : Deep (out = sumK ks l) := ⟨by rw [hout, List.flatten_cons, List.flatten_nil, List.append_nil]⟩
  have HB2 := Lib.hid (HB1.out.trans (hb2.mono HB1.out.size))
  clear hp1 hout
  go_upto_region 7 with (refine wpList_store_row rfl 25 (.tmp 8) (.tmp 40) rfl w2.heap.size (bRow out) rfl rfl _ _ (Wh.new w2 _ _) (info_bRow hol) (by rw [bRow_size, hol]; rfl) (bRow_one _) ?_; rw [World.setRow_alloc_new])
  have hB3 : Below w.heap.size w (w2.alloc (.cells (bRow out) 25)) := HB2.out.alloc HB2.out.size _
  have hW3 : Wh (w2.alloc (.cells (bRow out) 25)) w2.heap.size 25 (bRow out) := Wh.new _ _ _
  obtain ⟨g8, hg8⟩ : ∃ g8, g8 = w2.heap.size := ⟨_, rfl⟩
  rw [← hg8] at hW3
  rw [← hg8]
  generalize w2.alloc (.cells (bRow out) 25) = w3 at *
  have HB3 := Lib.hid hB3
  have HW3 := Lib.hid hW3
  have HS3 := Lib.hid (HS.out.below hB3)
  have HK3 := Lib.hid (HK.out.below hKb hB3)
  have hKb3 : 0 < w3.heap.size := Nat.lt_of_lt_of_le hKb hB3.size
  have hg3 : g8 < w3.heap.size := hW3.lt
  clear hg8 hb2 HB1 HB2 HK1 HS1 HK hB3 hW3
  have C1 : Deep (∀ w', (Instr.sliceAt 28 (.slice A len c) none (some (.int .i64 (k : Int))) none).run Tryd.prog w' = .ok (.slice A k c) w') := ⟨run_cut1 A len c k (by omega)⟩
  have C2 : Deep (∀ w', (Instr.sliceAt 28 (.slice A len c) (some (.int .i64 (k : Int))) (some (.int .i64 ((k : Int) + (m : Int)))) none).run Tryd.prog w' = .ok (.slice (cutA A c k) m (c - k)) w') := ⟨fun w' => by
    have h := run_cut2 A len c k (k + m) (by omega) (by omega) w'
    rwa [show ((k + m : Nat) : Int) = (k : Int) + (m : Int) by omega, show k + m - k = m by omega] at h⟩
  have C3 : Deep (∀ w', (Instr.sliceAt 28 (.slice A len c) (some (.int .i64 ((k : Int) + (m : Int)))) none none).run Tryd.prog w' = .ok (.slice (cutA A c (k + m)) (len - (k + m)) (c - (k + m))) w') := ⟨fun w' => by
    have h := run_cut3 A len c (k + m) (by omega) (by omega) w'
    rwa [show ((k + m : Nat) : Int) = (k : Int) + (m : Int) by omega] at h⟩
  have hadd : IntKind.i64.wrap ((k : Int) + (m : Int)) = (k : Int) + (m : Int) := IntWalk.i64_in _ (by omega)
  have HE : Deep (∀ w', (Op.equalIn 10000 25 (.agg (bRow out)) (.agg (bRow out))).run Tryd.prog w' = .ok true w') := ⟨fun w' => by rw [eq_sums out out hol hol]; simp⟩
  have hSi : Sl w3.drew w3.drew.heap.size A l := HS3.out.keep (by have := HB3.out.size; simpa using this) (fun _ _ => rfl)
  have HP4 : Deep ([Value.slice A k c, .slice none 0 0, .slice (cutA A c k) m (c - k), .slice (cutA A c (k + m)) (len - (k + m)) (c - (k + m))].length = [l.take k, [], (l.drop k).take m, l.drop (k + m)].length ∧ ∀ (i : Nat) (v : Value) (x : List UInt8), [Value.slice A k c, .slice none 0 0, .slice (cutA A c k) m (c - k), .slice (cutA A c (k + m)) (len - (k + m)) (c - (k + m))][i]? = some v → [l.take k, [], (l.drop k).take m, l.drop (k + m)][i]? = some x → ∃ A' c', v = .slice A' x.length c' ∧ x.length ≤ c' ∧ c' ≤ maxLen ∧ Sl w3.drew w3.drew.heap.size A' x) := ⟨rfl, fun i v x hv hx => by
    have hll := HL.out
    rcases i with _ | _ | _ | _ | i
    · obtain rfl := Option.some.inj hv
      obtain rfl := Option.some.inj hx
      have e : (l.take k).length = k := by rw [List.length_take]; omega
      exact ⟨A, c, by rw [e], by omega, by unfold maxLen; omega, by have := Sv.take hSi k; rwa [← List.map_take] at this⟩
    · obtain rfl := Option.some.inj hv
      obtain rfl := Option.some.inj hx
      exact ⟨none, 0, rfl, Nat.le_refl _, by unfold maxLen; omega, Sv.nil _ _ _⟩
    · obtain rfl := Option.some.inj hv
      obtain rfl := Option.some.inj hx
      have e : ((l.drop k).take m).length = m := by rw [List.length_take, List.length_drop]; omega
      exact ⟨cutA A c k, c - k, by rw [e], by omega, by unfold maxLen; omega, part_cut hSi hll hlc⟩
    · obtain rfl := Option.some.inj hv
      obtain rfl := Option.some.inj hx
      have e : (l.drop (k + m)).length = len - (k + m) := by rw [List.length_drop, hll]
      have h := part_cut (k := k + m) (n := len) hSi hll hlc
      rw [List.take_of_length_le (by omega)] at h
      exact ⟨cutA A c (k + m), c - (k + m), by rw [e], by omega, by unfold maxLen; omega, h⟩
    · cases hv⟩
  have HF4 : Deep ([l.take k, [], (l.drop k).take m, l.drop (k + m)].flatten = l ∧ [l.take k, [], (l.drop k).take m, l.drop (k + m)].flatten.length ≤ 16000000) := by
    have e : [l.take k, [], (l.drop k).take m, l.drop (k + m)].flatten = l := by
      simp only [List.flatten_cons, List.flatten_nil, List.append_nil, List.nil_append]
      rw [show l.drop (k + m) = (l.drop k).drop m by rw [List.drop_drop], List.take_append_drop, List.take_append_drop]
    exact ⟨e, by rw [e, HL.out]; omega⟩
  have hE := HE.out
  clear hSi
  have hS0 : LC w3 w3.drew w.heap.size g8 A l out := ⟨(Below.refl _ _).drew, HS3.out, HW3.out⟩
  simp only [Act.put]
  refine wp_region_held_drew (S := fun w' => LC w3 w' w.heap.size g8 A l out) (by kernel_rfl) hS0 (fun _ => ?_)
  -- REGION 7
  refine wpAnyH_take (i := 0) (v := .slice A len c) (List.getElem?_toArray.trans rfl) (by kernel_rfl) (by kernel_rfl) (by kernel_rfl) (fun _ _ _ h => h) (.inl ⟨rfl, fun w' hS => rfl⟩) hS0 ?_
  refine act_normS (by simp only [Act.put, List.setIfInBounds_toArray, List.set_cons_zero, List.set_cons_succ]; rfl) ?_
  refine wpAnyH_take (i := 1) (v := .int .i64 (k : Int)) (List.getElem?_toArray.trans rfl) (by kernel_rfl) (by kernel_rfl) (by kernel_rfl) (fun _ _ _ h => h) (.inl ⟨rfl, fun w' hS => rfl⟩) hS0 ?_
  refine act_normS (by simp only [Act.put, List.setIfInBounds_toArray, List.set_cons_zero, List.set_cons_succ]; rfl) ?_
  refine wpAnyH_take (i := 2) (v := .slice A k c) (List.getElem?_toArray.trans rfl) (by kernel_rfl) (by kernel_rfl) (by kernel_rfl) (fun _ _ _ h => h) (yieldsIf_slice rfl 28 (.tmp 41) none (some (.tmp 42)) none rfl _ (fun w' _ => C1.out w')) hS0 ?_
  refine act_normS (by simp only [Act.put, List.setIfInBounds_toArray, List.set_cons_zero, List.set_cons_succ]; rfl) ?_
  refine wpAnyH_take (i := 3) (v := .slice A len c) (List.getElem?_toArray.trans rfl) (by kernel_rfl) (by kernel_rfl) (by kernel_rfl) (fun _ _ _ h => h) (.inl ⟨rfl, fun w' hS => rfl⟩) hS0 ?_
  refine act_normS (by simp only [Act.put, List.setIfInBounds_toArray, List.set_cons_zero, List.set_cons_succ]; rfl) ?_
  refine wpAnyH_take (i := 4) (v := .int .i64 (k : Int)) (List.getElem?_toArray.trans rfl) (by kernel_rfl) (by kernel_rfl) (by kernel_rfl) (fun _ _ _ h => h) (.inl ⟨rfl, fun w' hS => rfl⟩) hS0 ?_
  refine act_normS (by simp only [Act.put, List.setIfInBounds_toArray, List.set_cons_zero, List.set_cons_succ]; rfl) ?_
  refine wpAnyH_take (i := 5) (v := .int .i64 (k : Int)) (List.getElem?_toArray.trans rfl) (by kernel_rfl) (by kernel_rfl) (by kernel_rfl) (fun _ _ _ h => h) (.inl ⟨rfl, fun w' hS => rfl⟩) hS0 ?_
  refine act_normS (by simp only [Act.put, List.setIfInBounds_toArray, List.set_cons_zero, List.set_cons_succ]; rfl) ?_
  refine wpAnyH_take (i := 6) (v := .int .i64 (m : Int)) (List.getElem?_toArray.trans rfl) (by kernel_rfl) (by kernel_rfl) (by kernel_rfl) (fun _ _ _ h => h) (.inl ⟨rfl, fun w' hS => rfl⟩) hS0 ?_
  refine act_normS (by simp only [Act.put, List.setIfInBounds_toArray, List.set_cons_zero, List.set_cons_succ]; rfl) ?_
  refine wpAnyH_take (i := 7) (v := .int .i64 ((k : Int) + (m : Int))) (List.getElem?_toArray.trans rfl) (by kernel_rfl) (by kernel_rfl) (by kernel_rfl) (fun _ _ _ h => h) (.inl ⟨rfl, fun w' hS => by simp [go_sem, hadd]⟩) hS0 ?_
  refine act_normS (by simp only [Act.put, List.setIfInBounds_toArray, List.set_cons_zero, List.set_cons_succ]; rfl) ?_
  refine wpAnyH_take (i := 8) (v := .slice (cutA A c k) m (c - k)) (List.getElem?_toArray.trans rfl) (by kernel_rfl) (by kernel_rfl) (by kernel_rfl) (fun _ _ _ h => h) (yieldsIf_slice rfl 28 (.tmp 44) (some (.tmp 45)) (some (.tmp 48)) none rfl _ (fun w' _ => C2.out w')) hS0 ?_
  refine act_normS (by simp only [Act.put, List.setIfInBounds_toArray, List.set_cons_zero, List.set_cons_succ]; rfl) ?_
  refine wpAnyH_take (i := 9) (v := .slice A len c) (List.getElem?_toArray.trans rfl) (by kernel_rfl) (by kernel_rfl) (by kernel_rfl) (fun _ _ _ h => h) (.inl ⟨rfl, fun w' hS => rfl⟩) hS0 ?_
  refine act_normS (by simp only [Act.put, List.setIfInBounds_toArray, List.set_cons_zero, List.set_cons_succ]; rfl) ?_
  refine wpAnyH_take (i := 10) (v := .int .i64 (k : Int)) (List.getElem?_toArray.trans rfl) (by kernel_rfl) (by kernel_rfl) (by kernel_rfl) (fun _ _ _ h => h) (.inl ⟨rfl, fun w' hS => rfl⟩) hS0 ?_
  refine act_normS (by simp only [Act.put, List.setIfInBounds_toArray, List.set_cons_zero, List.set_cons_succ]; rfl) ?_
  refine wpAnyH_take (i := 11) (v := .int .i64 (m : Int)) (List.getElem?_toArray.trans rfl) (by kernel_rfl) (by kernel_rfl) (by kernel_rfl) (fun _ _ _ h => h) (.inl ⟨rfl, fun w' hS => rfl⟩) hS0 ?_
  refine act_normS (by simp only [Act.put, List.setIfInBounds_toArray, List.set_cons_zero, List.set_cons_succ]; rfl) ?_
  refine wpAnyH_take (i := 12) (v := .int .i64 ((k : Int) + (m : Int))) (List.getElem?_toArray.trans rfl) (by kernel_rfl) (by kernel_rfl) (by kernel_rfl) (fun _ _ _ h => h) (.inl ⟨rfl, fun w' hS => by simp [go_sem, hadd]⟩) hS0 ?_
  refine act_normS (by simp only [Act.put, List.setIfInBounds_toArray, List.set_cons_zero, List.set_cons_succ]; rfl) ?_
  refine wpAnyH_take (i := 13) (v := .slice (cutA A c (k + m)) (len - (k + m)) (c - (k + m))) (List.getElem?_toArray.trans rfl) (by kernel_rfl) (by kernel_rfl) (by kernel_rfl) (fun _ _ _ h => h) (yieldsIf_slice rfl 28 (.tmp 50) (some (.tmp 53)) none none rfl _ (fun w' _ => C3.out w')) hS0 ?_
  refine act_normS (by simp only [Act.put, List.setIfInBounds_toArray, List.set_cons_zero, List.set_cons_succ]; rfl) ?_
  refine wpAnyH_take (i := 16) (v := .agg (bRow out)) (List.getElem?_toArray.trans rfl) (by kernel_rfl) (by kernel_rfl) (by kernel_rfl) (fun _ _ _ h => h) (yieldsIf_load_mid (by rfl) 25 (.tmp 8) rfl g8 0 rfl (bRow out).toList _ (fun w' hS => row_rangeS hS.box) Tryd.underlying25 rfl (by rw [Array.length_toList]; exact info_bRow hol)) hS0 ?_
  refine act_normS (by simp only [Act.put, List.setIfInBounds_toArray, List.set_cons_zero, List.set_cons_succ]; rfl) ?_
  refine wpAnyH_ready (rs := [14]) (by kernel_rfl) (by simp) (AllReadyH.cons (List.getElem?_toArray.trans rfl) (fun K' hK => ?_) AllReadyH.nil)
  refine wanted_goS rfl ?_
  go_simp
  have hS1 : LC w3 (w3.drew.alloc (.cells #[.slice A k c, .slice none 0 0, .slice (cutA A c k) m (c - k), .slice (cutA A c (k + m)) (len - (k + m)) (c - (k + m))] 28)) w.heap.size g8 A l out := ⟨hS0.bel.alloc hS0.bel.size _, hS0.inp.below ((Below.refl _ _).alloc (by have := HB3.out.size; simpa using this) _), hS0.box.alloc _⟩
  refine hK.out _ _ hS1 (fun _ => ?_)
  clear hK K'
  refine wpAnyH_ready (rs := [15]) (by kernel_rfl) (by simp) (AllReadyH.cons (List.getElem?_toArray.trans rfl) (fun K' hK => ?_) AllReadyH.nil)
  refine wanted_goS rfl ?_
  go_simp
  refine (sum_of ks [l.take k, [], (l.drop k).take m, l.drop (k + m)] [.slice A k c, .slice none 0 0, .slice (cutA A c k) m (c - k), .slice (cutA A c (k + m)) (len - (k + m)) (c - (k + m))] 4 w3.drew HKS.out HK3.out hKb3 rfl (by omega) HP4.out HF4.out.2).mono ?_
  rintro e w4 ⟨rfl, hb4⟩
  rw [HF4.out.1, ← HOUT.out]
  have hS4 : LC w3 w4 w.heap.size g8 A l out := ⟨(hS0.bel).trans hb4, hS0.inp.below (hb4.mono (by have := HB3.out.size; simpa using this)), hS0.box.below hb4 hg3⟩
  clear hS0 hS1 hb4
  refine hK.out _ _ hS4 (fun _ => ?_)
  clear hK K'
  refine wpAnyH_ready (rs := [17]) (by kernel_rfl) (by simp) (AllReadyH.cons (List.getElem?_toArray.trans rfl) (fun K' hK => ?_) AllReadyH.nil)
  refine wanted_goS rfl ?_
  go_simp
  refine hK.out _ _ hS4 (fun _ => ?_)
  clear hK K'
  refine wpAnyH_ready (rs := [18]) (by kernel_rfl) (by simp) (AllReadyH.cons (List.getElem?_toArray.trans rfl) (fun K' hK => ?_) AllReadyH.nil)
  refine wanted_goS rfl ?_
  go_simp
  refine hK.out _ _ hS4 (fun _ => ?_)
  clear hK K'
  refine wpAnyH_take (i := 19) (v := .slice A len c) (List.getElem?_toArray.trans rfl) (by kernel_rfl) (by kernel_rfl) (by kernel_rfl) (fun _ _ _ h => h) (.inl ⟨rfl, fun w' hS => rfl⟩) hS4 ?_
  refine act_normS (by simp only [Act.put, List.setIfInBounds_toArray, List.set_cons_zero, List.set_cons_succ]; rfl) ?_
  refine wpAnyH_take (i := 22) (v := .agg (bRow out)) (List.getElem?_toArray.trans rfl) (by kernel_rfl) (by kernel_rfl) (by kernel_rfl) (fun _ _ _ h => h) (yieldsIf_load_mid (by rfl) 25 (.tmp 8) rfl g8 0 rfl (bRow out).toList _ (fun w' hS => row_rangeS hS.box) Tryd.underlying25 rfl (by rw [Array.length_toList]; exact info_bRow hol)) hS4 ?_
  refine act_normS (by simp only [Act.put, List.setIfInBounds_toArray, List.set_cons_zero, List.set_cons_succ]; rfl) ?_
  refine wpAnyH_ready (rs := [20]) (by kernel_rfl) (by simp) (AllReadyH.cons (List.getElem?_toArray.trans rfl) (fun K' hK => ?_) AllReadyH.nil)
  refine wanted_goS rfl ?_
  go_simp
  have hS5 : LC w3 (w4.alloc (.cells #[.slice A len c] 28)) w.heap.size g8 A l out := ⟨hS4.bel.alloc hS4.bel.size _, hS4.inp.below ((Below.refl _ _).alloc (Nat.le_trans HB3.out.size hS4.bel.size) _), hS4.box.alloc _⟩
  refine hK.out _ _ hS5 (fun _ => ?_)
  clear hK K'
  refine wpAnyH_ready (rs := [21]) (by kernel_rfl) (by simp) (AllReadyH.cons (List.getElem?_toArray.trans rfl) (fun K' hK => ?_) AllReadyH.nil)
  refine wanted_goS rfl ?_
  go_simp
  have hp1 := one_part (w := w4) (A := A) (c := c) (l := l) (by rw [HL.out]; exact hlc) (by unfold maxLen; exact hcm) (hS4.inp.keep (Nat.le_trans HB3.out.size hS4.bel.size) (fun _ _ => rfl))
  rw [HL.out] at hp1
  refine (sum_of ks [l] [.slice A len c] 1 w4 HKS.out (HK3.out.below hKb3 hS4.bel) (Nat.lt_of_lt_of_le hKb3 hS4.bel.size) rfl (by omega) hp1 (by simp only [List.flatten_cons, List.flatten_nil, List.append_nil, HL.out]; omega)).mono ?_
  rintro e w6 ⟨rfl, hb6⟩
  rw [show [l].flatten = l by simp, ← HOUT.out]
  have hS6 : LC w3 w6 w.heap.size g8 A l out := ⟨hS4.bel.trans (hb6.mono hS4.bel.size), hS4.inp.below (hb6.mono (Nat.le_trans HB3.out.size hS4.bel.size)), hS4.box.below hb6 hS4.box.lt⟩
  clear hS4 hS5 hb6 hp1
  refine hK.out _ _ hS6 (fun _ => ?_)
  clear hK K'
  refine wpAnyH_ready (rs := [23]) (by kernel_rfl) (by simp) (AllReadyH.cons (List.getElem?_toArray.trans rfl) (fun K' hK => ?_) AllReadyH.nil)
  refine wanted_goS rfl ?_
  go_simp
  refine hK.out _ _ hS6 (fun _ => ?_)
  clear hK K'
  refine wpAnyH_ready (rs := [24]) (by kernel_rfl) (by simp) (AllReadyH.cons (List.getElem?_toArray.trans rfl) (fun K' hK => ?_) AllReadyH.nil)
  refine wanted_goS rfl ?_
  go_simp
  refine hK.out _ _ hS6 (fun _ => ?_)
  clear hK K'
  refine wpAnyH_ready (rs := [25]) (by kernel_rfl) (by simp) (AllReadyH.cons (List.getElem?_toArray.trans rfl) (fun K' hK => ?_) AllReadyH.nil)
  refine wanted_goS rfl ?_
  go_simp
  refine hK.out _ _ hS6 (fun _ => ?_)
  clear hK K'
  refine wpAnyH_take (i := 26) (v := .slice A len c) (List.getElem?_toArray.trans rfl) (by kernel_rfl) (by kernel_rfl) (by kernel_rfl) (fun _ _ _ h => h) (.inl ⟨rfl, fun w' hS => rfl⟩) hS6 ?_
  refine act_normS (by simp only [Act.put, List.setIfInBounds_toArray, List.set_cons_zero, List.set_cons_succ]; rfl) ?_
  refine wpAnyH_take (i := 27) (v := .string (strB l)) (List.getElem?_toArray.trans rfl) (by kernel_rfl) (by kernel_rfl) (by kernel_rfl) (fun _ _ _ h => h) (yieldsIf_strS rfl 28 9 5 (.tmp 67) rfl Tryd.underlying28 Tryd.underlying5 Tryd.underlying9 w.heap.size A len c l rfl HL.out (fun w' hS => hS.inp)) hS6 ?_
  refine act_normS (by simp only [Act.put, List.setIfInBounds_toArray, List.set_cons_zero, List.set_cons_succ]; rfl) ?_
  refine wpAnyH_take (i := 28) (v := .string (strB l)) (List.getElem?_toArray.trans rfl) (by kernel_rfl) (by kernel_rfl) (by kernel_rfl) (fun _ _ _ h => h) (.inl ⟨rfl, fun w' hS => rfl⟩) hS6 ?_
  refine act_normS (by simp only [Act.put, List.setIfInBounds_toArray, List.set_cons_zero, List.set_cons_succ]; rfl) ?_
  refine wpAnyH_ready (rs := [29]) (by kernel_rfl) (by simp) (AllReadyH.cons (List.getElem?_toArray.trans rfl) (fun K' hK => ?_) AllReadyH.nil)
  refine wanted_goS rfl ?_
  go_simp
  refine hK.out _ _ hS6 (fun _ => ?_)
  clear hK K'
  refine wpAnyH_ready (rs := [30]) (by kernel_rfl) (by simp) (AllReadyH.cons (List.getElem?_toArray.trans rfl) (fun K' hK => ?_) AllReadyH.nil)
  refine wanted_goS rfl ?_
  go_simp
  refine hK.out _ _ hS6 (fun _ => ?_)
  clear hK K'
  refine wpAnyH_ready (rs := [31]) (by kernel_rfl) (by simp) (AllReadyH.cons (List.getElem?_toArray.trans rfl) (fun K' hK => ?_) AllReadyH.nil)
  refine wanted_goS rfl ?_
  go_simp
  refine hK.out _ _ hS6 (fun _ => ?_)
  clear hK K'
  refine wpAnyH_done (by kernel_rfl) ?_ _
  -- REGION 7 ENDS
  have hBF := HB3.out.trans (hS6.bel.mono HB3.out.size)
  clear hS6 hE hadd
  go_wp2
  go_ret
  exact ⟨rfl, hBF⟩

theorem shacut_any (l : List UInt8) (A : Option Addr) (len c : Nat) (cut more : Int) (w : World) (hK : KT w kW) (hKb : 0 < w.heap.size) (hl : l.length = len) (hlc : len ≤ c) (hcm : c ≤ maxLen)
    (hs : Sl w w.heap.size A l) :
    Calls Tryd.prog 4 #[.slice A len c, .int .i64 cut, .int .i64 more] w fun e w' => e = .returned (.bool true) ∧ Below w.heap.size w w' := by
  by_cases ho : 3000 < len ∨ cut < 0 ∨ (len : Int) < cut ∨ more < 0 ∨ (len : Int) - cut < more
  · exact cut_out l A len c cut more w hK hKb hl hlc hcm hs ho
  · obtain ⟨k, rfl⟩ := Int.eq_ofNat_of_zero_le (by omega : 0 ≤ cut)
    obtain ⟨m, rfl⟩ := Int.eq_ofNat_of_zero_le (by omega : 0 ≤ more)
    exact cut_in l A len c k m w hK hKb hl hlc hcm hs (by omega) (by omega)
end Go.Proofs.YtecfpgkjmlapfaaDoor
