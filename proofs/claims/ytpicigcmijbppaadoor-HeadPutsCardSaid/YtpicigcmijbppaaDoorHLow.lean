/-
  The walk through the document's own low (hostlerref03): a number's low bytes.
-/
import Derived.Test.YtpicigcmijbppaaDoorHPut3
import Derived.Test.YtpicigcmijbppaaDoorRefBytes
namespace Go.Proofs.YtpicigcmijbppaaDoor
open Go.RowKit
set_option linter.unusedVariables false

set_option maxRecDepth 10000 in
set_option maxHeartbeats 800000 in
theorem low_any (n k : Nat) (w : World) (hk : k ≤ 4) (hmax : n ≤ 4611686018427387903) :
    Calls Tryd.prog 18 #[.int .u64 (n : Int), .int .i64 (k : Int)] w (Gave w (be n k) fun v => v) := by
  obtain ⟨i0, hi0, hz0, hz1, hz2⟩ := info_parts info8
  have HMAX := Lib.hid hmax
  clear hmax
  go_enter Tryd.func18, Tryd.ntmps18
  go_wp2_with (at_make; (refine wpList_make_full _ rfl _ _ _ rfl w.heap.size 5 i0 _ 1 Tryd.underlying22 hi0 hz0 hz1 _ _ _ _ k rfl rfl rfl rfl (by rw [hz2]; omega) (by unfold maxLen; omega) (Nat.le_refl _) ?_); intro w1 hown1 hg1)
  have hb1 : Below w.heap.size w w1 := (Below.refl _ _).grown hg1 (Nat.le_refl _) (by simp)
  clear hg1
  go_loopw [0, 6] (fun v0 i wr => ∃ (j : Nat) (xs : List Value), j ≤ k ∧ i = .int .i64 ((j : Int) - 1) ∧ v0 = .int .u64 (n / 256 ^ (k - j) : Nat) ∧
      wr.ownsRow w.heap.size 5 1 (.slice (some ⟨w.heap.size, 0, none⟩) k k) k xs ∧ Hid (xs.drop j = (be n (k - j)).map cell8) ∧ Below w.heap.size w wr) (fun _ i _ => (intOf i + 1).toNat)
  case atStart => exact ⟨k, _, Nat.le_refl _, rfl, by simp, hown1, by show _ = _; rw [Nat.sub_self, List.drop_eq_nil_of_le (by rw [hown1.1]; omega)]; rfl, hb1⟩
  case round =>
    obtain ⟨j, xs, hj, rfl, rfl, hown, hdrop, hbel⟩ := hrel
    have hxl := hown.1
    have HX := Lib.hid hxl
    have HO := Lib.hid hown
    by_cases h0 : 1 ≤ j
    · obtain ⟨q, rfl⟩ : ∃ q, j = q + 1 := ⟨j - 1, by omega⟩
      have hcell := hown.cellAt q (by omega)
      have hfz := hown.frozenAt q
      obtain ⟨u, hu⟩ : ∃ u, xs[q]? = some u := ⟨_, List.getElem?_eq_getElem (by omega)⟩
      rw [hu] at hcell
      clear hu
      generalize hy : n / 256 ^ (k - (q + 1)) = y at *
      have HY := Lib.hid hy
      clear hy hown hown1 hxl
      go_wp2
      go_roundw
      case rel =>
        have hy64 : y ≤ 4611686018427387903 := by
          have h1 := HMAX.out
          have h2 := HY.out
          have h3 := Nat.div_le_self n (256 ^ (k - (q + 1)))
          omega
        have hown := HO.out
        have hst := hown.stored q (.int .u8 ((y : Int) % 256))
        have hx := HX.out
        refine ⟨q, xs.set q (.int .u8 ((y : Int) % 256)), by omega, rfl, ?_, hst.1, ?_, hbel.setCell (Nat.le_refl _) _⟩
        · rw [IntWalk.u64_in _ ⟨by omega, by omega⟩, ← HY.out, show k - q = k - (q + 1) + 1 by omega, Nat.pow_succ, ← Nat.div_div_eq_div_mul]
          rfl
        · show _ = _
          rw [drop_set_cons _ _ _ (by omega), hdrop.out, show k - q = k - (q + 1) + 1 by omega]
          show _ = cell8 (UInt8.ofNat (n / 256 ^ (k - (q + 1)) % 256)) :: _
          rw [HY.out]
          show _ = Value.int .u8 ((UInt8.ofNat (y % 256)).toNat : Int) :: _
          rw [UInt8.toNat_ofNat', Nat.mod_mod]
          rfl
      case measure => simp [intOf]
    · obtain rfl : j = 0 := by omega
      have hxs : xs = (be n k).map cell8 := by have := hdrop.out; simpa using this
      clear hdrop hown hown1
      go_wp2
      go_ret
      have ho := HO.out
      rw [hxs] at ho
      have hlen : (be n k).length = k := be_length _ _
      generalize be n k = g at *
      subst hlen
      exact ⟨some ⟨w.heap.size, 0, none⟩, g.length, rfl, Nat.le_refl _, by unfold maxLen; omega, ho, hbel⟩

end Go.Proofs.YtpicigcmijbppaaDoor
