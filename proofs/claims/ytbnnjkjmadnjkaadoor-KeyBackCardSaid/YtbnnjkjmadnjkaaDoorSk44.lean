/-
  The walks through pnum.around and pnum.Expand, over the contracts of what they call.
  pnum.Expand answers the nearest number.
  What head.Split and key.Unmask find in a packet that Seal made; pnum.Expand and pnum.Truncate at each size.
-/
import Derived.Deep.QuietTactic
import Derived.Test.YtbnnjkjmadnjkaaDoorSk43
import Derived.Test.YtbnnjkjmadnjkaaDoorSk41
import Derived.Test.YtbnnjkjmadnjkaaDoorSk42
namespace Go.Proofs.YtbnnjkjmadnjkaaDoor
section
open Go.RowKit
set_option linter.unusedVariables false

/-- What around leaves: the first n of three numbers in a block of its own. -/
def ArGave (w : World) (n : Nat) (y0 y1 y2 : Int) (e : Ending) (w' : World) : Prop :=
  e = .returned (.slice (some ⟨w.heap.size, 0, none⟩) n 3) ∧ Three w' w.heap.size (.int .u64 y0) (.int .u64 y1) (.int .u64 y2) ∧ Below w.heap.size w w'

theorem below_drawn {B : Nat} {a w : World} (h : Below B a w) (n : Nat) : Below B a (w.drewN n) := h.trans ⟨rfl, rfl, rfl, Nat.le_refl _, fun _ _ => rfl⟩

theorem three_new (w : World) (v0 v1 v2 : Value) : Three (w.alloc (.cells #[v0, v1, v2] 25)) w.heap.size v0 v1 v2 := heap_alloc_new w _

set_option maxRecDepth 10000 in
set_option maxHeartbeats 400000 in
theorem around_of (b W x t a q r s c0 c2 : Int) (n : Nat) (y0 y1 y2 : Int) (w : World)
    (htold : ∀ w, Calls Tryd.prog 33 #[.int .i64 b] w fun e w' => e = .returned (.int .u64 W) ∧ w = w') (hW0 : W ≠ 0) (ha : x.tmod W = a) (hq : IntKind.u64.wrap (x - a) = q)
    (hr : t.tmod W = r) (hs : IntKind.u64.wrap (q + r) = s) (hc0 : IntKind.u64.wrap (s + W) = c0) (hc2 : IntKind.u64.wrap (s - W) = c2)
    (hdel : ∀ (g : Nat) w, Three w g (.int .u64 c0) (.int .u64 s) (.int .u64 c2) →
      Calls Tryd.prog 52 #[.slice (some ⟨g, 0, none⟩) 3 3, .func (.func 53) #[] #[]] w fun e w' => e = .returned (.slice (some ⟨g, 0, none⟩) n 3) ∧ Three w' g (.int .u64 y0) (.int .u64 y1) (.int .u64 y2) ∧ Below g w w') :
    Calls Tryd.prog 30 #[.int .u64 x, .int .u64 t, .int .i64 b] w (ArGave w n y0 y1 y2) := by
  go_enter Tryd.func30, Tryd.ntmps30
  go_wp2_with (go_at_call 33; refine (htold _).mono ?_; rintro e w1 ⟨rfl, rfl⟩)
  go_quiet (fail)
  go_wp2_with fail
  have h3 := three_new (w.drewN nq) (.int .u64 c0) (.int .u64 s) (.int .u64 c2)
  have hb0 : Below w.heap.size w ((w.drewN nq).alloc (.cells #[.int .u64 c0, .int .u64 s, .int .u64 c2] 25)) := (below_drawn (Below.refl _ _) nq).alloc (by simp) _
  refine (hdel w.heap.size _ (by simpa using h3)).mono ?_
  rintro e w1 ⟨rfl, h4, hb4⟩
  go_wp2
  go_ret
  exact ⟨rfl, h4, hb0.trans hb4⟩

/-- What stands behind the call of around in Expand, whose two variables are boxes. -/
theorem ar_after {w w3 : World} {n : Nat} {y0 y1 y2 : Int} {e : Ending} (y : Int)
    (h : ArGave ((w.alloc (.cells #[.int .u64 y] 25)).alloc (.cells #[.func (.func 28) #[] #[.pointer (some ⟨w.heap.size, 0, none⟩)]] 70)) n y0 y1 y2 e w3) :
    e = .returned (.slice (some ⟨w.heap.size + 1 + 1, 0, none⟩) n 3) ∧ Three w3 (w.heap.size + 1 + 1) (.int .u64 y0) (.int .u64 y1) (.int .u64 y2) ∧
    w3.cell? ⟨w.heap.size, 0, none⟩ = some (.int .u64 y) ∧ w3.cell? ⟨w.heap.size + 1, 0, none⟩ = some (.func (.func 28) #[] #[.pointer (some ⟨w.heap.size, 0, none⟩)]) ∧ Below w.heap.size w w3 := by
  have h1 : (w.alloc (.cells #[.int .u64 y] 25)).cell? ⟨w.heap.size, 0, none⟩ = some (.int .u64 y) := cell_of_one (heap_alloc_new w _)
  have h2 := Lib.cell?_alloc_some (.cells #[.func (.func 28) #[] #[.pointer (some ⟨w.heap.size, 0, none⟩)]] 70) h1
  have h3 := cell_of_one (heap_alloc_new (w.alloc (.cells #[.int .u64 y] 25)) (.cells #[.func (.func 28) #[] #[.pointer (some ⟨w.heap.size, 0, none⟩)]] 70))
  have hs1 : (w.alloc (.cells #[.int .u64 y] 25)).heap.size = w.heap.size + 1 := by simp
  have hb : Below w.heap.size w ((w.alloc (.cells #[.int .u64 y] 25)).alloc (.cells #[.func (.func 28) #[] #[.pointer (some ⟨w.heap.size, 0, none⟩)]] 70)) :=
    ((Below.refl _ _).alloc (Nat.le_refl _) _).alloc (by omega) _
  have hs2 : ((w.alloc (.cells #[.int .u64 y] 25)).alloc (.cells #[.func (.func 28) #[] #[.pointer (some ⟨w.heap.size, 0, none⟩)]] 70)).heap.size = w.heap.size + 1 + 1 := by simp
  rw [hs1] at h3
  generalize (w.alloc (.cells #[.int .u64 y] 25)).alloc (.cells #[.func (.func 28) #[] #[.pointer (some ⟨w.heap.size, 0, none⟩)]] 70) = w2 at *
  obtain ⟨he, h4, hb4⟩ := h
  rw [hs2] at he h4
  exact ⟨he, h4, (hb4.cell (p := ⟨w.heap.size, 0, none⟩) (by simp only; omega)).trans h2, (hb4.cell (p := ⟨w.heap.size + 1, 0, none⟩) (by simp only; omega)).trans h3, hb.trans (hb4.mono (by omega))⟩

set_option maxRecDepth 10000 in
set_option maxHeartbeats 800000 in
theorem expand_of (b : Int) (m x t : Nat) (n : Nat) (y0 y1 y2 R : Int) (w : World) (hx : x = min m 4611686018427387903)
    (hmay : ∀ w, Calls Tryd.prog 27 #[.int .i64 b] w fun e w' => e = .returned (.bool true) ∧ w = w')
    (hA : ∀ w, Calls Tryd.prog 30 #[.int .u64 (x : Int), .int .u64 (t : Int), .int .i64 b] w (ArGave w n y0 y1 y2))
    (hM : ∀ (g B F : Nat) w, Three w g (.int .u64 y0) (.int .u64 y1) (.int .u64 y2) → w.cell? ⟨B, 0, none⟩ = some (.int .u64 (x : Int)) → w.cell? ⟨F, 0, none⟩ = some (.func (.func 28) #[] #[.pointer (some ⟨B, 0, none⟩)]) →
      Calls Tryd.prog 29 #[.slice (some ⟨g, 0, none⟩) n 3, .func (.func 31) #[] #[.pointer (some ⟨F, 0, none⟩)]] w fun e w' => e = .returned (.int .u64 R) ∧ ∃ m, w' = w.drewN m) :
    Calls Tryd.prog 11 #[.int .u64 (m : Int), .int .u64 (t : Int), .int .i64 b] w fun e w' => e = .returned (.int .u64 R) ∧ Below w.heap.size w w' := by
  have hmf : ∀ (fn : Fn) (first cap : Array Value) (w : World), (Instr.makeFunc fn first cap).run Tryd.prog w = .ok (.func fn first cap) w := fun _ _ _ _ => rfl
  have hsf := fun (a : Addr) (c : Array Value) (w : World) => run_store Tryd.prog w a (.func (.func 28) #[] c) .plain rfl
  rcases Nat.lt_or_ge 4611686018427387903 m with h | h
  · have HX := Lib.hid (show ((x : Nat) : Int) = 4611686018427387903 by omega)
    have HA := Lib.hid (show ∀ w, Calls Tryd.prog 30 #[.int .u64 4611686018427387903, .int .u64 (t : Int), .int .i64 b] w (ArGave w n y0 y1 y2) from fun w' => by rw [← HX.out]; exact hA w')
    have HM0 := Lib.hid hM
    clear hM hA hx
    go_enter Tryd.func11, Tryd.ntmps11
    go_wp2_with (go_at_call 27; refine (hmay _).mono ?_; rintro e w1 ⟨rfl, rfl⟩)
    refine (HA.out _).mono ?_
    rintro e w3 hAr
    obtain ⟨rfl, h4, hcB3, hcF3, hb3⟩ := ar_after 4611686018427387903 hAr
    clear hAr
    have HB := Lib.hid hb3
    have HM := Lib.hid (HM0.out _ w.heap.size (w.heap.size + 1) w3 h4 (by rw [hcB3, HX.out]) hcF3)
    go_wp2_with (go_at_call 29; refine HM.out.mono ?_; rintro e w4 ⟨rfl, q, rfl⟩)
    go_ret
    exact ⟨rfl, below_drawn HB.out q⟩
  · have HX := Lib.hid (show ((x : Nat) : Int) = (m : Int) by omega)
    have HA := Lib.hid (show ∀ w, Calls Tryd.prog 30 #[.int .u64 (m : Int), .int .u64 (t : Int), .int .i64 b] w (ArGave w n y0 y1 y2) from fun w' => by rw [← HX.out]; exact hA w')
    have HM0 := Lib.hid hM
    clear hM hA hx
    go_enter Tryd.func11, Tryd.ntmps11
    go_wp2_with (go_at_call 27; refine (hmay _).mono ?_; rintro e w1 ⟨rfl, rfl⟩)
    refine (HA.out _).mono ?_
    rintro e w3 hAr
    obtain ⟨rfl, h4, hcB3, hcF3, hb3⟩ := ar_after (m : Int) hAr
    clear hAr
    have HB := Lib.hid hb3
    have HM := Lib.hid (HM0.out _ w.heap.size (w.heap.size + 1) w3 h4 (by rw [hcB3, HX.out]) hcF3)
    go_wp2_with (go_at_call 29; refine HM.out.mono ?_; rintro e w4 ⟨rfl, q, rfl⟩)
    go_ret
    exact ⟨rfl, below_drawn HB.out q⟩
end

section
open Go.RowKit
set_option linter.unusedVariables false

/-- The nearest number to x, where s is the one of its own stretch of W numbers. -/
def expS (x s W : Nat) : Nat :=
  if s ≤ x then (if 4611686018427387903 < s + W ∨ x - s < s + W - x then s else s + W)
  else if W ≤ s then (if x - (s - W) < s - x then s - W else s) else s

/-- The nearest number to m, at most the greatest that there is, whose rest by W is t's. -/
def expN (m t W : Nat) : Nat := expS (min m 4611686018427387903) (min m 4611686018427387903 / W * W + t % W) W

theorem tmod_nat (a b : Nat) : (a : Int).tmod (b : Int) = ((a % b : Nat) : Int) := rfl
theorem tdiv_nat (a b : Nat) : (a : Int).tdiv (b : Int) = ((a / b : Nat) : Int) := rfl
theorem wrap_nat {n : Nat} (h : n < 18446744073709551616) : IntKind.u64.wrap (n : Int) = (n : Int) := by rw [IntKind.wrap_u64]; omega

/-- What there is to know of a number's stretch. -/
theorem stretch (x t W : Nat) (hW : 0 < W) : ∃ q r s, q = x / W * W ∧ r = t % W ∧ s = q + r ∧ r < W ∧ q ≤ x ∧ x < q + W ∧ x % W = x - q ∧ (s < W → q = 0) := by
  have h1 := Nat.div_mul_le_self x W
  have h2 := Nat.lt_div_mul_add (a := x) hW
  have h3 := Nat.mod_lt t hW
  have h4 := Nat.mod_eq_sub_div_mul (x := x) (k := W)
  refine ⟨_, _, _, rfl, rfl, rfl, h3, h1, h2, h4, fun h => ?_⟩
  rcases Nat.eq_zero_or_pos (x / W) with h0 | h0
  · rw [h0, Nat.zero_mul]
  · have := Nat.le_mul_of_pos_left W h0
    omega

theorem pick_3 (x q r s W : Nat) (hs : s = q + r) (hr : r < W) (hq : q ≤ x) (hx : x < q + W) (h0 : s + W ≤ 4611686018427387903) (h2 : W ≤ s) : pick x (pick x (s + W) s) (s - W) = expS x s W := by
  have e0 : farN (s + W) x = s + W - x := by unfold farN; omega
  have e2 : farN (s - W) x = x - (s - W) := by unfold farN; omega
  unfold expS
  by_cases h : s ≤ x
  · have e1 : farN s x = x - s := by unfold farN; omega
    rw [if_pos h]
    by_cases g : x - s < s + W - x
    · rw [if_pos (Or.inr g), pick_yes (a := s + W) (b := s) (by omega), pick_no (by omega)]
    · rw [if_neg (by omega), pick_no (a := s + W) (b := s) (by omega), pick_no (by omega)]
  · have e1 : farN s x = s - x := by unfold farN; omega
    rw [if_neg h, if_pos h2, pick_yes (a := s + W) (b := s) (by omega)]
    by_cases g : x - (s - W) < s - x
    · rw [if_pos g, pick_yes (by omega)]
    · rw [if_neg g, pick_no (by omega)]

theorem pick_ftt (x q r s W : Nat) (hs : s = q + r) (hr : r < W) (hq : q ≤ x) (hx : x < q + W) (h0 : 4611686018427387903 < s + W) (h2 : W ≤ s) : pick x s (s - W) = expS x s W := by
  have e2 : farN (s - W) x = x - (s - W) := by unfold farN; omega
  unfold expS
  by_cases h : s ≤ x
  · have e1 : farN s x = x - s := by unfold farN; omega
    rw [if_pos h, if_pos (Or.inl h0), pick_no (by omega)]
  · have e1 : farN s x = s - x := by unfold farN; omega
    rw [if_neg h, if_pos h2]
    by_cases g : x - (s - W) < s - x
    · rw [if_pos g, pick_yes (by omega)]
    · rw [if_neg g, pick_no (by omega)]

theorem pick_ttf (x q r s W : Nat) (hs : s = q + r) (hr : r < W) (hq : q ≤ x) (hx : x < q + W) (h0 : s + W ≤ 4611686018427387903) (h2 : s < W) : pick x (s + W) s = expS x s W := by
  have e0 : farN (s + W) x = s + W - x := by unfold farN; omega
  unfold expS
  by_cases h : s ≤ x
  · have e1 : farN s x = x - s := by unfold farN; omega
    rw [if_pos h]
    by_cases g : x - s < s + W - x
    · rw [if_pos (Or.inr g), pick_yes (by omega)]
    · rw [if_neg (by omega), pick_no (by omega)]
  · have e1 : farN s x = s - x := by unfold farN; omega
    rw [if_neg h, if_neg (by omega), pick_yes (by omega)]

theorem expand_w (b : Int) (W m t : Nat) (w : World) (hW : 0 < W) (hW2 : W ≤ 4294967296) (hsm : min m 4611686018427387903 / W * W + t % W ≤ 4611686018427387903)
    (hmay : ∀ w, Calls Tryd.prog 27 #[.int .i64 b] w fun e w' => e = .returned (.bool true) ∧ w = w')
    (htold : ∀ w, Calls Tryd.prog 33 #[.int .i64 b] w fun e w' => e = .returned (.int .u64 (W : Int)) ∧ w = w') :
    Calls Tryd.prog 11 #[.int .u64 (m : Int), .int .u64 (t : Int), .int .i64 b] w fun e w' => e = .returned (.int .u64 ((expN m t W : Nat) : Int)) ∧ Below w.heap.size w w' := by
  unfold expN
  obtain ⟨x, hx⟩ : ∃ x, x = min m 4611686018427387903 := ⟨_, rfl⟩
  rw [← hx] at hsm ⊢
  obtain ⟨q, r, s, hq, hr, hs, hrW, hqx, hxq, hxm, hq0⟩ := stretch x t W hW
  rw [← hq, ← hr, ← hs] at hsm ⊢
  have hxmx : x ≤ 4611686018427387903 := by omega
  have hWi : (W : Int) ≠ 0 := by omega
  have ha : (x : Int).tmod (W : Int) = ((x - q : Nat) : Int) := by rw [tmod_nat, hxm]
  have hr' : (t : Int).tmod (W : Int) = (r : Int) := by rw [tmod_nat, hr]
  have hq' : IntKind.u64.wrap ((x : Int) - ((x - q : Nat) : Int)) = (q : Int) := by rw [IntKind.wrap_u64]; omega
  have hs' : IntKind.u64.wrap ((q : Int) + (r : Int)) = (s : Int) := by rw [IntKind.wrap_u64]; omega
  have hc0 : IntKind.u64.wrap ((s : Int) + (W : Int)) = ((s + W : Nat) : Int) := by rw [IntKind.wrap_u64]; omega
  by_cases h2 : W ≤ s
  · have hc2 : IntKind.u64.wrap ((s : Int) - (W : Int)) = ((s - W : Nat) : Int) := by rw [IntKind.wrap_u64]; omega
    by_cases h0 : s + W ≤ 4611686018427387903
    · rw [← pick_3 x q r s W hs hrW hqx hxq h0 h2]
      refine expand_of b m x t 3 ((s + W : Nat) : Int) (s : Int) ((s - W : Nat) : Int) _ w hx hmay (fun w' => ?_) (fun g B F w' h3 hB hF => ?_)
      · exact around_of b W x t _ q r s _ _ 3 _ _ _ w' htold hWi ha hq' hr' hs' hc0 hc2 fun g w2 h3 => del_ttt g _ _ _ w2 h3 (by omega) (by omega) (by omega)
      · exact min_3 (s + W) s (s - W) x g B F w' (by omega) (by omega) (by omega) (by omega) h3.c0 h3.c1 h3.c2 hB hF
    · rw [← pick_ftt x q r s W hs hrW hqx hxq (by omega) h2]
      refine expand_of b m x t 2 (s : Int) ((s - W : Nat) : Int) 0 _ w hx hmay (fun w' => ?_) (fun g B F w' h3 hB hF => ?_)
      · exact around_of b W x t _ q r s _ _ 2 _ _ _ w' htold hWi ha hq' hr' hs' hc0 hc2 fun g w2 h3 => del_ftt g _ _ _ w2 h3 (by omega) (by omega) (by omega)
      · exact min_2 s (s - W) x g B F w' (by omega) (by omega) (by omega) h3.c0 h3.c1 hB hF
  · have hc2 : IntKind.u64.wrap ((s : Int) - (W : Int)) = ((s + 18446744073709551616 - W : Nat) : Int) := by rw [IntKind.wrap_u64]; omega
    rw [← pick_ttf x q r s W hs hrW hqx hxq (by omega) (by omega)]
    refine expand_of b m x t 2 ((s + W : Nat) : Int) (s : Int) 0 _ w hx hmay (fun w' => ?_) (fun g B F w' h3 hB hF => ?_)
    · exact around_of b W x t _ q r s _ _ 2 _ _ _ w' htold hWi ha hq' hr' hs' hc0 hc2 fun g w2 h3 => del_ttf g _ _ _ w2 h3 (by omega) (by omega) (by omega)
    · exact min_2 (s + W) s x g B F w' (by omega) (by omega) (by omega) h3.c0 h3.c1 hB hF
end

section
open Go.RowKit
set_option linter.unusedVariables false

theorem expand_k {k : Nat} (hk : k = 1 ∨ k = 2 ∨ k = 3 ∨ k = 4) (m t : Nat) (w : World) :
    Calls Tryd.prog 11 #[.int .u64 (m : Int), .int .u64 (t : Int), .int .i64 (k : Int)] w fun e w' => e = .returned (.int .u64 ((expN m t (256 ^ k) : Nat) : Int)) ∧ Below w.heap.size w w' := by
  rcases hk with rfl | rfl | rfl | rfl
  · exact expand_w 1 256 m t w (by decide) (by decide) (by omega) mayBe_1 told_1
  · exact expand_w 2 65536 m t w (by decide) (by decide) (by omega) mayBe_2 told_2
  · exact expand_w 3 16777216 m t w (by decide) (by decide) (by omega) mayBe_3 told_3
  · exact expand_w 4 4294967296 m t w (by decide) (by decide) (by omega) mayBe_4 told_4
theorem trunc_k {k : Nat} (hk : k = 1 ∨ k = 2 ∨ k = 3 ∨ k = 4) (n : Nat) (w : World) :
    Calls Tryd.prog 12 #[.int .u64 (n : Int), .int .i64 (k : Int)] w fun e w' => e = .returned (.int .u64 ((n % 256 ^ k : Nat) : Int)) ∧ w = w' := by
  rcases hk with rfl | rfl | rfl | rfl
  · exact trunc_1 n w
  · exact trunc_2 n w
  · exact trunc_3 n w
  · exact trunc_4 n w

/-- The protection leaves the first byte's upper bits. -/
theorem firstK_bits (m : List UInt8) (x : UInt8) (sp : Nat) (bt : Bool) (hbt : ((sp : Int) == 2) = bt) :
    (bt = false → (firstK m x sp).toNat / 16 = x.toNat / 16) ∧ (bt = true → (firstK m x sp).toNat / 32 = x.toNat / 32) ∧
      bits .andNot .u8 (bits .xor .u8 (x.toNat : Int) ((firstK m x sp).toNat : Int)) (if bt then 31 else 15) = 0 := by
  unfold firstK
  cases bt
  · have hsp : sp ≠ 2 := by
      rintro rfl
      exact absurd hbt (by decide)
    have hr : (m.getD 0 0 &&& 15).toNat < 16 := by
      rw [UInt8.toNat_and]
      exact Nat.lt_of_le_of_lt Nat.and_le_right (by decide)
    obtain ⟨a1, a2, a3, a4⟩ := xor15 x.toNat x.toNat_lt _ hr
    rw [b_xor] at a1 a2 a3 a4
    rw [Int.toNat_natCast] at a2 a3 a4
    rw [bitsU, if_neg hsp]
    exact ⟨fun _ => a3, fun h => absurd h (by decide), a4⟩
  · have hsp : sp = 2 := by
      have := eq_of_beq hbt
      omega
    have hr : (m.getD 0 0 &&& 31).toNat < 32 := by
      rw [UInt8.toNat_and]
      exact Nat.lt_of_le_of_lt Nat.and_le_right (by decide)
    obtain ⟨a1, a2, a3, a4⟩ := xor31 x.toNat x.toNat_lt _ hr
    rw [b_xor] at a1 a2 a3 a4
    rw [Int.toNat_natCast] at a2 a3 a4
    rw [bitsU, if_pos hsp]
    exact ⟨fun h => absurd h (by decide), fun _ => a3, a4⟩

/-- A protected packet's parts: the first byte turned, the number's bytes turned, the rest as it was. -/
theorem prot_form (M b : List UInt8) (sp n a : Nat) (y0 : UInt8) (MID NB BX : List UInt8) (hb : b = y0 :: (MID ++ (NB ++ BX))) (ha : a = 1 + MID.length) (hn : NB.length = n) :
    ∃ NB', NB'.length = n ∧ protL M b sp n a = firstK M y0 sp :: (MID ++ (NB' ++ BX)) := by
  have hbx : b.drop (a + n) = BX := by
    rw [hb, ha, show 1 + MID.length + n = (MID.length + n) + 1 by omega, List.drop_succ_cons, ← List.append_assoc]
    exact List.drop_left' (by simp [hn])
  have h0 : b.getD 0 0 = y0 := by rw [hb]; rfl
  have hst : b.set 0 (firstK M y0 sp) = firstK M y0 sp :: (MID ++ (NB ++ BX)) := by rw [hb]; rfl
  have hbl : b.length = a + n + BX.length := by rw [hb]; simp [hn]; omega
  have htk : (protL M b sp n a).take a = firstK M y0 sp :: MID := by
    have h1 : (protL M b sp n a).take a = (b.set 0 (firstK M y0 sp)).take a := by
      apply List.ext_getElem?
      intro j
      rw [List.getElem?_take, List.getElem?_take]
      split
      · rw [protL, h0, jnP_at, if_neg (by omega)]
      · rfl
    rw [h1, hst, ha, Nat.add_comm, List.take_succ_cons, List.take_left' rfl]
  refine ⟨((protL M b sp n a).drop a).take n, by rw [List.length_take, List.length_drop, protL_len]; omega, ?_⟩
  have h1 := List.take_append_drop a (protL M b sp n a)
  have h2 := List.take_append_drop n ((protL M b sp n a).drop a)
  rw [List.drop_drop, prot_box _ _ _ _ _ (by omega), hbx] at h2
  rw [htk, ← h2] at h1
  simpa using h1.symm

/-- What Split and Unmask find. -/
structure Pack (P H : List UInt8) (sp k pn a : Nat) (dst src tok : List UInt8) (ph : Bool) : Prop where
  a1 : 1 ≤ a
  an : a + k = H.length
  few : H.length ≤ 3300
  t : splitT P dst.length = some P.length
  at_ : splitA P dst.length = some a
  p : splitP P dst.length = ⟨sp, dst, src, tok⟩
  num : H.drop a = be pn k
  sz : bits .and .u8 ((H.getD 0 0).toNat : Int) 3 = (k : Int) - 1
  res : ∀ bt, ((sp : Int) == 2) = bt → (bits .and .u8 ((H.getD 0 0).toNat : Int) (if bt then 24 else 12) != 0) = false
  phs : (bits .and .u8 ((H.getD 0 0).toNat : Int) 4 != 0) = ph
  x : ∀ bt, ((sp : Int) == 2) = bt → (bits .andNot .u8 (bits .xor .u8 ((H.getD 0 0).toNat : Int) ((P.getD 0 0).toNat : Int)) (if bt then 31 else 15) == 0) = true

theorem pack_facts (K : KS) (sp k pn : Nat) (dst src tok pl : List UInt8) (ph : Bool) (hmay : mayB sp dst.length src.length tok.length ph (pn : Int) (k : Int) = true) (h4 : 4 ≤ k + pl.length) (hpl : pl.length ≤ 300) (ht : tok.length ≤ 300) :
    ∃ a, Pack (packK K sp k pn (headB sp k dst src tok ph pn (pl.length + 16)) pl) (headB sp k dst src tok ph pn (pl.length + 16)) sp k pn a dst src tok ph := by
  obtain ⟨f1, f2, f3, f4, f5, f6, f7, f8, f9⟩ := may_facts hmay
  have hk : k = 1 ∨ k = 2 ∨ k = 3 ∨ k = 4 := by omega
  have hbl := be_length pn k
  obtain ⟨H, hH⟩ : ∃ H, H = headB sp k dst src tok ph pn (pl.length + 16) := ⟨_, rfl⟩
  rw [← hH]
  obtain ⟨y0, MID, hHD, hy, hm, hsp⟩ : ∃ (y0 : Nat) (MID : List UInt8), H = UInt8.ofNat y0 :: (MID ++ be pn k) ∧ y0 < 256 ∧ MID.length ≤ 3200 ∧
      ((sp = 2 ∧ MID = dst ∧ src = [] ∧ tok = [] ∧ y0 = 63 + k + (if ph then 4 else 0)) ∨ (sp ≠ 2 ∧ ph = false ∧ MID = longB sp dst src tok (k + (pl.length + 16)) ∧ y0 = 191 + k + 32 * sp)) := by
    have hp4 : (if ph then 4 else 0 : Nat) ≤ 4 := by split <;> omega
    by_cases h2 : sp = 2
    · subst h2
      refine ⟨63 + k + (if ph then 4 else 0), dst, ?_, by omega, by omega, .inl ⟨rfl, rfl, List.eq_nil_of_length_eq_zero (f7 rfl).1, List.eq_nil_of_length_eq_zero (f7 rfl).2, rfl⟩⟩
      rw [hH]
      unfold headB
      rw [if_pos rfl, show firstB 2 k ph = 63 + k + (if ph then 4 else 0) by unfold firstB; simp]
    · obtain rfl : ph = false := f9 h2
      refine ⟨191 + k + 32 * sp, longB sp dst src tok (k + (pl.length + 16)), ?_, by omega, longB_le f1 f2 (by omega), .inr ⟨h2, rfl, rfl, rfl⟩⟩
      have hsp : sp = 0 ∨ sp = 1 := by omega
      rw [hH]
      unfold headB
      rw [if_neg h2, show firstB sp k false = 191 + k + 32 * sp by unfold firstB; rcases hsp with rfl | rfl <;> simp <;> omega]
  have hHl : H.length = 1 + MID.length + k := by rw [hHD]; simp [hbl]; omega
  obtain ⟨a, ha⟩ : ∃ a, a = 1 + MID.length := ⟨_, rfl⟩
  have haH : H.length - k = a := by omega
  have hH0 : H.getD 0 0 = UInt8.ofNat y0 := by rw [hHD]; rfl
  have hyn : (UInt8.ofNat y0).toNat = y0 := by rw [UInt8.toNat_ofNat', Nat.mod_eq_of_lt (by omega)]
  have hdr : H.drop a = be pn k := by
    rw [hHD, ha, Nat.add_comm, List.drop_succ_cons]
    exact List.drop_left' rfl
  obtain ⟨BX, hBX⟩ : ∃ BX, BX = sealK K.key (nonK K.iv pn) H pl := ⟨_, rfl⟩
  have hbx : BX.length = pl.length + 16 := by rw [hBX, sealK_len]
  have hraw : rawK K pn H pl = UInt8.ofNat y0 :: (MID ++ (be pn k ++ BX)) := by
    rw [rawK, ← hBX, hHD]
    simp
  have hP : packK K sp k pn H pl = protL (mkK K.hp (rawK K pn H pl) a) (rawK K pn H pl) sp k a := by rw [← haH]; rfl
  obtain ⟨NB, hNB, hPF⟩ := prot_form (mkK K.hp (rawK K pn H pl) a) (rawK K pn H pl) sp k a _ MID (be pn k) BX hraw ha hbl
  rw [← hP] at hPF
  generalize mkK K.hp (rawK K pn H pl) a = M at *
  generalize packK K sp k pn H pl = P at *
  have hPl : P.length = a + (k + (pl.length + 16)) := by rw [hPF]; simp [hNB, hbx]; omega
  have hP0 : P.getD 0 0 = firstK M (UInt8.ofNat y0) sp := by rw [hPF]; rfl
  have hfb := firstK_bits M (UInt8.ofNat y0) sp
  rw [hyn] at hfb
  refine ⟨a, ?_⟩
  rcases hsp with ⟨h2, h3, h5, h6, h7⟩ | ⟨h2, h3, h5, h7⟩
  · subst h2 h3 h5 h6
    obtain ⟨g1, g2, g3⟩ := short_bare (ph := ph) hk
    rw [← h7] at g1 g2 g3
    have hz := (hfb true rfl).2.1 rfl
    have hp4 : (if ph then 4 else 0 : Nat) ≤ 4 := by split <;> omega
    obtain ⟨e1, e2, e3⟩ := short_whole hPF (by omega) f1
    rw [List.length_append, hNB, hbx] at e3
    refine ⟨by omega, by omega, by omega, ?_, by rw [e2, ha], e1, hdr, ?_, ?_, ?_, ?_⟩
    · rw [splitT_some e2 e3 (by omega) (by omega), hPl, ha]
    · rw [hH0, hyn]; exact g1
    · intro bt hbt
      obtain rfl : true = bt := by rw [← hbt]; rfl
      rw [hH0, hyn]; exact g2
    · rw [hH0, hyn]; exact g3
    · intro bt hbt
      rw [hH0, hyn, hP0, (hfb bt hbt).2.2]
      rfl
  · subst h3 h5
    have hsp : sp = 0 ∨ sp = 1 := by omega
    obtain ⟨g1, g2, g3⟩ := long_bare hsp hk
    rw [← h7] at g1 g2 g3
    have hbt0 : ((sp : Int) == 2) = false := beq_eq_false_iff_ne.2 (by omega)
    have hz := (hfb false hbt0).1 rfl
    obtain ⟨e1, e2, e3⟩ := long_whole (dst.length : Int) hPF hsp (by omega) (fun e => List.eq_nil_of_length_eq_zero (f8 e)) f1 f2 (by omega) (by omega)
    refine ⟨by omega, by omega, by omega, ?_, by rw [e2, ha], e1, hdr, ?_, ?_, ?_, ?_⟩
    · rw [splitT_some e2 e3 (by omega) (by omega), hPl, ha]
    · rw [hH0, hyn]; exact g1
    · intro bt hbt
      obtain rfl : false = bt := by rw [← hbt, hbt0]
      rw [hH0, hyn]; exact g2
    · rw [hH0, hyn]; exact g3
    · intro bt hbt
      rw [hH0, hyn, hP0, (hfb bt hbt).2.2]
      rfl
end
end Go.Proofs.YtbnnjkjmadnjkaaDoor
