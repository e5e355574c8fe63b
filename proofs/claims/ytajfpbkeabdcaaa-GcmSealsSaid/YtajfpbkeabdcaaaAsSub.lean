/-
  The walks through aes.twice, aes.Sub, hostlerref08.Times, hostlerref08.Sub.
-/
import Derived.IntWalk
import Derived.Test.YtajfpbkeabdcaaaLaws
import Derived.Test.YtajfpbkeabdcaaaAsMath
import Derived.Test.YtajfpbkeabdcaaaProg
namespace Go.Proofs.Ytajfpbkeabdcaaa
open Go.RowKit
set_option linter.unusedVariables false

set_option maxHeartbeats 400000 in
theorem twice_any (x : UInt8) (w : World) :
    Calls Try.prog 41 #[.int .u8 (x.toNat : Int)] w fun e w' => e = .returned (.int .u8 ((tw x).toNat : Int)) ∧ w = w' := by
  have hx := x.toNat_lt
  go_enter Try.func41, Try.ntmps41
  go_wp2
  go_ret
  exact ⟨b_of (b_tw x), rfl⟩

def oS : ByteArray := ⟨oT.toArray⟩
theorem oS_at (x : UInt8) (h : x.toNat < oS.size) : oS[x.toNat]'h = sB x := by
  have h2 : x.toNat < oT.length := by rw [oT_len]; exact x.toNat_lt
  show oT.toArray[x.toNat]'h = oT.getD x.toNat 0
  rw [List.getD, List.getElem?_eq_getElem h2]
  exact List.getElem_toArray _

set_option maxHeartbeats 400000 in
set_option maxRecDepth 100000 in
theorem sub_any (x : UInt8) (w : World) :
    Calls Try.prog 43 #[.int .u8 (x.toNat : Int)] w fun e w' => e = .returned (.int .u8 ((sB x).toNat : Int)) ∧ w = w' := by
  have hx := x.toNat_lt
  go_enter Try.func43, Try.ntmps43
  go_wp2_with fail
  go_ret
  exact ⟨b_of (congrArg (fun b : UInt8 => (b.toNat : Int)) (oS_at x _)), rfl⟩

theorem b_tmO (o a b : UInt8) (h : (b.toNat : Int) % 2 = 1) : tmO o a b = o ^^^ a := by
  have : b % 2 = 1 := UInt8.toNat_inj.1 (by rw [UInt8.toNat_mod]; simp; omega)
  rw [tmO, if_pos this]
theorem b_tmO' (o a b : UInt8) (h : ¬ (b.toNat : Int) % 2 = 1) : tmO o a b = o := by
  have : ¬ b % 2 = 1 := fun e => by
    have := congrArg UInt8.toNat e
    rw [UInt8.toNat_mod] at this
    simp at this
    omega
  rw [tmO, if_neg this]
theorem b_half (b : UInt8) : (b.toNat : Int) / 2 = ((b / 2 : UInt8).toNat : Int) := by
  rw [UInt8.toNat_div]; simp
theorem b_dbl (a : UInt8) : 2 * (a.toNat : Int) % 256 = ((2 * a : UInt8).toNat : Int) := by
  rw [UInt8.toNat_mul]; simp
theorem b_tmA (a : UInt8) (h : 128 ≤ (a.toNat : Int)) : bits .xor .u8 (2 * (a.toNat : Int) % 256) 27 = ((tmA a).toNat : Int) := by
  have h1 : 128 ≤ a := by rw [UInt8.le_iff_toNat_le]; simp; omega
  rw [tmA, if_pos h1, b_dbl, show (27 : Int) = ((27 : UInt8).toNat : Int) from rfl, b_xor]
theorem b_tmA' (a : UInt8) (h : ¬ 128 ≤ (a.toNat : Int)) : 2 * (a.toNat : Int) = ((tmA a).toNat : Int) := by
  rw [show 2 * (a.toNat : Int) = 2 * (a.toNat : Int) % 256 by omega]
  have h1 : ¬ 128 ≤ a := by rw [UInt8.le_iff_toNat_le]; simp; omega
  rw [tmA, if_neg h1, b_dbl]

set_option maxRecDepth 100000 in
set_option maxHeartbeats 400000 in
theorem times_any (a b : UInt8) (w : World) :
    Calls Try.prog 31 #[.int .u8 (a.toNat : Int), .int .u8 (b.toNat : Int)] w fun e w' => e = .returned (.int .u8 ((tm a b).toNat : Int)) ∧ w = w' := by
  go_enter Try.func31, Try.ntmps31
  go_wp2
  go_loop [0, 1, 5, 6] (fun va vb vo i => ∃ (k : Nat) (x y o : UInt8), k ≤ 8 ∧ i = .int .i64 (k : Int) ∧ Deep (x = tmAN a k) ∧ Deep (y = tmBN b k) ∧ Deep (o = tmON a b k) ∧ va = .int .u8 (x.toNat : Int) ∧ vb = .int .u8 (y.toNat : Int) ∧ vo = .int .u8 (o.toNat : Int)) (fun _ _ _ i => 8 - (intOf i).toNat)
  case atStart => exact ⟨0, a, b, 0, by omega, rfl, ⟨rfl⟩, ⟨rfl⟩, ⟨rfl⟩, rfl, rfl, rfl⟩
  case round =>
    obtain ⟨k, x, y, o, hk, rfl, HX, HY, HO, rfl, rfl, rfl⟩ := hrel
    have hx := x.toNat_lt
    have hy := y.toNat_lt
    have ho := o.toNat_lt
    by_cases hlt : k < 8
    · by_cases h1 : (y.toNat : Int) % 2 = 1
      · by_cases h2 : 128 ≤ (x.toNat : Int)
        all_goals
          have hn1 : ((y.toNat : Int) % 2 == 1) = true := by simpa using h1
          have H1 := Deep.mk h1
          clear h1
          go_wp2
          go_round
          case rel =>
            refine ⟨k + 1, tmA x, y / 2, tmO o x y, by omega, by go_num, ⟨by rw [tmAN, ← HX.out]⟩, ⟨by rw [tmBN, ← HY.out]⟩, ⟨by rw [tmON, ← HO.out, ← HX.out, ← HY.out]⟩, ?_, ?_, ?_⟩
            · first | rw [b_tmA x (by omega)] | rw [b_tmA' x (by omega)]
            · rw [b_half]
            · rw [b_xor, b_tmO o x y H1.out]
          case measure => simp [intOf]; omega
      · by_cases h2 : 128 ≤ (x.toNat : Int)
        all_goals
          have hn1 : ((y.toNat : Int) % 2 == 1) = false := by simpa using h1
          have H1 := Deep.mk h1
          clear h1
          go_wp2
          go_round
          case rel =>
            refine ⟨k + 1, tmA x, y / 2, tmO o x y, by omega, by go_num, ⟨by rw [tmAN, ← HX.out]⟩, ⟨by rw [tmBN, ← HY.out]⟩, ⟨by rw [tmON, ← HO.out, ← HX.out, ← HY.out]⟩, ?_, ?_, ?_⟩
            · first | rw [b_tmA x (by omega)] | rw [b_tmA' x (by omega)]
            · rw [b_half]
            · rw [b_tmO' o x y H1.out]
          case measure => simp [intOf]; omega
    · have HR : Deep (o = tm a b) := ⟨by rw [tm, show (8 : Nat) = k by omega]; exact HO.out⟩
      have hkd : decide ((k : Int) < 8) = false := by rw [decide_eq_false_iff_not]; omega
      clear HX HY HO hlt
      go_wp2
      go_ret
      exact ⟨b_of (congrArg (fun b : UInt8 => (b.toNat : Int)) HR.out), rfl⟩

theorem b_rl (y : UInt8) : 2 * (y.toNat : Int) % 256 + (y.toNat : Int) / 128 = ((rl y).toNat : Int) := by
  rw [show 2 * (y.toNat : Int) % 256 + (y.toNat : Int) / 128 = (2 * (y.toNat : Int) % 256 + (y.toNat : Int) / 128) % 256 by have := y.toNat_lt; omega]
  have hy := y.toNat_lt
  rw [rl, UInt8.toNat_add, UInt8.toNat_mul, UInt8.toNat_div]
  simp

set_option maxRecDepth 100000 in
set_option maxHeartbeats 400000 in
theorem rsub_any (b : UInt8) (w : World) :
    Calls Try.prog 30 #[.int .u8 (b.toNat : Int)] w fun e w' => e = .returned (.int .u8 ((sB b).toNat : Int)) ∧ w = w' := by
  go_enter Try.func30, Try.ntmps30
  go_wp2
  go_loop [3, 4, 5] (fun vy vx n => ∃ (k : Nat) (x y : UInt8), k ≤ 8 ∧ n = .int .i64 ((254 / 2 ^ k : Nat) : Int) ∧ Deep (x = pwX b k) ∧ Deep (y = pwY b k) ∧ vx = .int .u8 (x.toNat : Int) ∧ vy = .int .u8 (y.toNat : Int)) (fun _ _ n => (intOf n).toNat)
  case atStart => exact ⟨0, b, 1, by omega, rfl, ⟨rfl⟩, ⟨rfl⟩, rfl, rfl⟩
  case round =>
    obtain ⟨k, x, y, hk, rfl, HX, HY, rfl, rfl⟩ := hrel
    have hx := x.toNat_lt
    have hy := y.toNat_lt
    rcases (show k = 0 ∨ k = 1 ∨ k = 2 ∨ k = 3 ∨ k = 4 ∨ k = 5 ∨ k = 6 ∨ k = 7 ∨ k = 8 by omega) with rfl | rfl | rfl | rfl | rfl | rfl | rfl | rfl | rfl
    · clear hk
      go_wp2_with (go_at_call 31; refine (times_any _ _ _).mono ?_; rintro e w1 ⟨rfl, rfl⟩)
      go_round
      case rel => exact ⟨1, tm x x, y, by omega, rfl, ⟨by rw [pwX, ← HX.out]⟩, ⟨by rw [HY.out, pwY, pwY]⟩, rfl, rfl⟩
      case measure => decide
    · clear hk
      go_wp2_with (go_at_call 31; refine (times_any _ _ _).mono ?_; rintro e w1 ⟨rfl, rfl⟩)
      go_round
      case rel => exact ⟨2, tm x x, tm y x, by omega, rfl, ⟨by rw [pwX, ← HX.out]⟩, ⟨by rw [pwY, ← HX.out, ← HY.out]⟩, rfl, rfl⟩
      case measure => decide
    · clear hk
      go_wp2_with (go_at_call 31; refine (times_any _ _ _).mono ?_; rintro e w1 ⟨rfl, rfl⟩)
      go_round
      case rel => exact ⟨3, tm x x, tm y x, by omega, rfl, ⟨by rw [pwX, ← HX.out]⟩, ⟨by rw [pwY, ← HX.out, ← HY.out]⟩, rfl, rfl⟩
      case measure => decide
    · clear hk
      go_wp2_with (go_at_call 31; refine (times_any _ _ _).mono ?_; rintro e w1 ⟨rfl, rfl⟩)
      go_round
      case rel => exact ⟨4, tm x x, tm y x, by omega, rfl, ⟨by rw [pwX, ← HX.out]⟩, ⟨by rw [pwY, ← HX.out, ← HY.out]⟩, rfl, rfl⟩
      case measure => decide
    · clear hk
      go_wp2_with (go_at_call 31; refine (times_any _ _ _).mono ?_; rintro e w1 ⟨rfl, rfl⟩)
      go_round
      case rel => exact ⟨5, tm x x, tm y x, by omega, rfl, ⟨by rw [pwX, ← HX.out]⟩, ⟨by rw [pwY, ← HX.out, ← HY.out]⟩, rfl, rfl⟩
      case measure => decide
    · clear hk
      go_wp2_with (go_at_call 31; refine (times_any _ _ _).mono ?_; rintro e w1 ⟨rfl, rfl⟩)
      go_round
      case rel => exact ⟨6, tm x x, tm y x, by omega, rfl, ⟨by rw [pwX, ← HX.out]⟩, ⟨by rw [pwY, ← HX.out, ← HY.out]⟩, rfl, rfl⟩
      case measure => decide
    · clear hk
      go_wp2_with (go_at_call 31; refine (times_any _ _ _).mono ?_; rintro e w1 ⟨rfl, rfl⟩)
      go_round
      case rel => exact ⟨7, tm x x, tm y x, by omega, rfl, ⟨by rw [pwX, ← HX.out]⟩, ⟨by rw [pwY, ← HX.out, ← HY.out]⟩, rfl, rfl⟩
      case measure => decide
    · clear hk
      go_wp2_with (go_at_call 31; refine (times_any _ _ _).mono ?_; rintro e w1 ⟨rfl, rfl⟩)
      go_round
      case rel => exact ⟨8, tm x x, tm y x, by omega, rfl, ⟨by rw [pwX, ← HX.out]⟩, ⟨by rw [pwY, ← HX.out, ← HY.out]⟩, rfl, rfl⟩
      case measure => decide
    · clear hk HX
      have HY8 := HY
      clear HY
      go_wp2
      go_loop [3, 6, 7, 8] (fun vy vo i _ => ∃ (k : Nat) (z o : UInt8), k ≤ 5 ∧ i = .int .i64 (k : Int) ∧ Deep (z = rlN y k) ∧ Deep (o = rsN y k) ∧ vy = .int .u8 (z.toNat : Int) ∧ vo = .int .u8 (o.toNat : Int)) (fun _ _ i _ => 5 - (intOf i).toNat)
      case atStart => exact ⟨0, y, 99, by omega, rfl, ⟨rfl⟩, ⟨rfl⟩, rfl, rfl⟩
      case round =>
        obtain ⟨k, z, o, hk, rfl, HZ, HO, rfl, rfl⟩ := hrel
        clear hx hy
        have hz := z.toNat_lt
        have ho := o.toNat_lt
        by_cases hlt : k < 5
        · go_wp2
          go_round
          case rel => exact ⟨k + 1, rl z, o ^^^ z, by omega, by go_num, ⟨by rw [rlN, ← HZ.out]⟩, ⟨by rw [rsN, ← HO.out, ← HZ.out]⟩, by rw [b_rl], by rw [b_xor]⟩
          case measure => simp [intOf]; omega
        · have HR : Deep (o = sB b) := ⟨by rw [← sR_sB, sR, ← HY8.out, show (5 : Nat) = k by omega]; exact HO.out⟩
          have hkd : decide ((k : Int) < 5) = false := by rw [decide_eq_false_iff_not]; omega
          clear HZ HO hlt HY8
          go_wp2
          go_ret
          exact ⟨b_of (congrArg (fun b : UInt8 => (b.toNat : Int)) HR.out), rfl⟩
end Go.Proofs.Ytajfpbkeabdcaaa
