/-
  The walks through the document's own Bytes and Short (hostlerref01).
-/
import Derived.Test.YtkkojhkglcigmaaDoorPut
namespace Go.Proofs.YtkkojhkglcigmaaDoor
open Go.RowKit
set_option linter.unusedVariables false

set_option maxRecDepth 10000 in
set_option maxHeartbeats 800000 in
theorem refbytes_any (n s c : Nat) (w : World) (hs : s = 2 ^ c) (hs1 : 1 ≤ s) (hs8 : s ≤ 8) (hc : c ≤ 3) (hn : n < 64 * 256 ^ (s - 1)) (hmax : n ≤ 4611686018427387903) :
    Calls Tryd.prog 52 #[.int .u64 (n : Int), .int .i64 (s : Int)] w (Gave w (be (n + c * 2 ^ (8 * s - 2)) s) fun v => v) := by
  obtain ⟨i0, hi0, hz0, hz1, hz2⟩ := info_parts info8
  have HS := Lib.hid hs
  have HN := Lib.hid hn
  have HMAX := Lib.hid hmax
  clear hs hn hmax
  go_enter Tryd.func52, Tryd.ntmps52
  go_wp2_with (at_make; (refine wpList_make_full _ rfl _ _ _ rfl w.heap.size 5 i0 _ 1 Tryd.underlying22 hi0 hz0 hz1 _ _ _ _ s rfl rfl rfl rfl (by rw [hz2]; omega) (by unfold maxLen; omega) (Nat.le_refl _) ?_); intro w1 hown1 hg1)
  have hb1 : Below w.heap.size w w1 := (Below.refl _ _).grown hg1 (Nat.le_refl _) (by simp)
  clear hg1
  go_loopw [0, 6] (fun v0 i wr => ∃ (j : Nat) (xs : List Value), j ≤ s ∧ i = .int .i64 ((j : Int) - 1) ∧ v0 = .int .u64 (n / 256 ^ (s - j) : Nat) ∧
      wr.ownsRow w.heap.size 5 1 (.slice (some ⟨w.heap.size, 0, none⟩) s s) s xs ∧ Hid (xs.drop j = (be n (s - j)).map cell8) ∧ Below w.heap.size w wr) (fun _ i _ => (intOf i + 1).toNat)
  case atStart => exact ⟨s, _, Nat.le_refl _, rfl, by simp, hown1, by show _ = _; rw [Nat.sub_self, List.drop_eq_nil_of_le (by rw [hown1.1]; omega)]; rfl, hb1⟩
  case round =>
    obtain ⟨j, xs, hj, rfl, rfl, hown, hdrop, hbel⟩ := hrel
    have hxl := hown.1
    have HX := Lib.hid hxl
    have HO := Lib.hid hown
    by_cases h0 : 1 ≤ j
    · obtain ⟨q, rfl⟩ : ∃ q, j = q + 1 := ⟨j - 1, by omega⟩
      have hcell := hown.cellAt q (by omega)
      have hfz := hown.frozenAt q
      obtain ⟨u, hu⟩ : ∃ u, xs[q]? = some u := ⟨_, List.getElem?_eq_getElem (by omega)⟩
      rw [hu] at hcell
      clear hu
      generalize hy : n / 256 ^ (s - (q + 1)) = y at *
      have HY := Lib.hid hy
      clear hy hown hown1 hxl
      go_wp2
      go_roundw
      case rel =>
        have hy64 : y ≤ 4611686018427387903 := by
          have h1 := HMAX.out
          have h2 := HY.out
          have h3 := Nat.div_le_self n (256 ^ (s - (q + 1)))
          omega
        have hown := HO.out
        have hst := hown.stored q (.int .u8 ((y : Int) % 256))
        have hx := HX.out
        refine ⟨q, xs.set q (.int .u8 ((y : Int) % 256)), by omega, rfl, ?_, hst.1, ?_, hbel.setCell (Nat.le_refl _) _⟩
        · rw [IntWalk.u64_in _ ⟨by omega, by omega⟩, ← HY.out, show s - q = s - (q + 1) + 1 by omega, Nat.pow_succ, ← Nat.div_div_eq_div_mul]
          rfl
        · show _ = _
          have hcl := be_cell n (s - (q + 1))
          rw [drop_set_cons _ _ _ (by omega), hdrop.out, show s - q = s - (q + 1) + 1 by omega]
          show _ = cell8 (UInt8.ofNat (n / 256 ^ (s - (q + 1)) % 256)) :: _
          rw [HY.out]
          show _ = Value.int .u8 ((UInt8.ofNat (y % 256)).toNat : Int) :: _
          rw [UInt8.toNat_ofNat', Nat.mod_mod]
          rfl
      case measure => simp [intOf]
    · obtain rfl : j = 0 := by omega
      obtain ⟨k, rfl⟩ : ∃ k, s = k + 1 := ⟨s - 1, by omega⟩
      rw [Nat.add_sub_cancel] at HN
      have hxs : xs = cell8 (UInt8.ofNat (n / 256 ^ k % 256)) :: (be n k).map cell8 := hdrop.out
      have hz64 : n / 256 ^ k % 256 < 64 := by
        have h64 : n / 256 ^ k < 64 := by rw [Nat.div_lt_iff_lt_mul (Nat.pow_pos (by omega))]; exact HN.out
        rw [Nat.mod_eq_of_lt (Nat.lt_of_lt_of_le h64 (by omega))]
        exact h64
      have hcell := hown.cellAt 0 (by omega)
      have hfz := hown.frozenAt 0
      rw [hxs] at hcell
      have hcell0 : wr.cell? ⟨w.heap.size, 0, none⟩ = some (.int .u8 ((n / 256 ^ k % 256 : Nat) : Int)) := by
        rw [hcell]
        show some (Value.int .u8 ((UInt8.ofNat (n / 256 ^ k % 256)).toNat : Int)) = _
        rw [be_head]
      have HXS := Lib.hid hxs
      clear hcell hown hown1 hxs hxl hdrop
      generalize hz : n / 256 ^ k % 256 = z at *
      have HZ := Lib.hid hz
      clear hz
      go_wp2
      go_loop [7, 8] (fun v i => ∃ j : Nat, j ≤ c ∧ v = .int .i64 j ∧ i = .int .i64 (2 ^ j : Nat)) (fun v _ => c - (intOf v).toNat)
      case atStart => exact ⟨0, Nat.zero_le _, rfl, rfl⟩
      case round =>
        obtain ⟨j, hj, rfl, rfl⟩ := hrel
        by_cases hlt : j < c
        · have hp1 : 2 ^ j < k + 1 := by rw [HS.out]; exact Nat.pow_lt_pow_right (by omega) hlt
          have HN2 := Lib.hid (show 2 ^ (j + 1) = 2 * 2 ^ j by rw [Nat.pow_succ]; omega)
          generalize 2 ^ j = p at *
          go_wp2
          go_round
          case rel => exact ⟨j + 1, by omega, by go_num, by rw [HN2.out]; go_num⟩
          case measure => simp [intOf]; omega
        · obtain rfl : j = c := by omega
          have hp1 : ¬ 2 ^ j < k + 1 := by rw [HS.out]; omega
          generalize 2 ^ j = p at *
          go_wp2
          go_ret
          have hst := HO.out.stored 0 (.int .u8 ((z : Int) + 64 * (j : Int)))
          have hbc := be_class n k j HN.out hc
          rw [HZ.out] at hbc
          have hlen : (be (n + j * 2 ^ (8 * (k + 1) - 2)) (k + 1)).length = k + 1 := be_length _ _
          have hcells : xs.set 0 (.int .u8 ((z : Int) + 64 * (j : Int))) = (be (n + j * 2 ^ (8 * (k + 1) - 2)) (k + 1)).map cell8 := by
            rw [← hbc, HXS.out, List.set_cons_zero, List.map_cons]
            congr 1
            show _ = Value.int .u8 ((UInt8.ofNat (z + 64 * j)).toNat : Int)
            rw [UInt8.toNat_ofNat', Nat.mod_eq_of_lt (by omega)]
            congr 1
          rw [hcells] at hst
          generalize be (n + j * 2 ^ (8 * (k + 1) - 2)) (k + 1) = g at *
          refine ⟨some ⟨w.heap.size, 0, none⟩, k + 1, by rw [hlen]; rfl, by omega, by unfold maxLen; omega, ?_, hbel.setCell (Nat.le_refl _) _⟩
          rw [hlen]
          exact hst.1

/-- The document's Short where a number has some. -/
theorem short_some {n : Nat} (h : n ≤ 4611686018427387903) (w : World) :
    Calls Tryd.prog 37 #[.int .u64 (n : Int)] w (Gave w (enc n) fun v => v) := by
  have hc := lg_cases h
  have hp : 1 ≤ szN n := szN_pos h
  have hlt := szN_lt h
  have hby := refbytes_any n (szN n) (lg n) w (by rcases hc with ⟨e1, e2⟩ | ⟨e1, e2⟩ | ⟨e1, e2⟩ | ⟨e1, e2⟩ <;> rw [e1, e2]) hp (by omega) (by omega)
    (by rw [show 8 * szN n - 2 = 6 + 8 * (szN n - 1) by omega, Nat.pow_add, Nat.pow_mul] at hlt; exact hlt) h
  have hne : ((szN n : Int) == 0) = false := by rw [beq_eq_false_iff_ne]; omega
  have hsz := refsize_any n
  have HB := Lib.hid hby
  have HZ := Lib.hid hsz
  clear hby hsz hlt hc h
  show Calls Tryd.prog 37 #[.int .u64 (n : Int)] w (Gave w (be (n + lg n * 2 ^ (8 * szN n - 2)) (szN n)) fun v => v)
  generalize be (n + lg n * 2 ^ (8 * szN n - 2)) (szN n) = g at *
  generalize szN n = z at *
  go_enter Tryd.func37, Tryd.ntmps37
  go_wp2_with (first
    | (go_at_call 51; refine (HZ.out _).mono ?_; rintro e w' ⟨rfl, rfl⟩)
    | (go_at_call 52; refine HB.out.mono ?_; rintro e w' ⟨A', c', rfl, q1, q2, hown, hbel⟩))
  go_ret
  exact ⟨A', c', rfl, q1, q2, hown, hbel⟩

/-- The document's Short where it has none. -/
theorem short_none {n : Nat} (h : ¬ n ≤ 4611686018427387903) (w : World) :
    Calls Tryd.prog 37 #[.int .u64 (n : Int)] w fun e w' => e = .returned (.slice none 0 0) ∧ w = w' := by
  have hz := szN_0 h
  have hsz := refsize_any n
  rw [hz] at hsz
  have HZ := Lib.hid hsz
  clear hz hsz h
  go_enter Tryd.func37, Tryd.ntmps37
  go_wp2_with (go_at_call 51; refine (HZ.out _).mono ?_; rintro e w' ⟨rfl, rfl⟩)
  go_ret
  exact ⟨rfl, rfl⟩

end Go.Proofs.YtkkojhkglcigmaaDoor
