/-
  hostlerref09.whole, eight.
-/
import Derived.Test.YtajfpbkeabdcaaaGcRKey
namespace Go.Proofs.Ytajfpbkeabdcaaa
open Go.RowKit
set_option linter.unusedVariables false

set_option maxRecDepth 100000 in
set_option maxHeartbeats 1000000 in
theorem rwhole_any (l : List UInt8) (A : Option Addr) (c B n : Nat) (w : World) (hB : B ≤ w.heap.size) (hl : l.length = n) (hn : n ≤ 1099511627776) (hs : Sl w B A l) :
    Calls Try.prog 36 #[.slice A n c] w (GaveN w (n + (16 - n % 16) % 16) (whL l)) := by
  obtain ⟨i0, hi0, hz0, hz1, hz2⟩ := info_parts info8
  have HL := Deep.mk hl
  have hln : (l.map cell8).length = n := by rw [List.length_map, HL.out]
  obtain ⟨q, hq⟩ : ∃ q, q = (16 - n % 16) % 16 := ⟨_, rfl⟩
  have HQ : Deep (whL l = l ++ List.replicate q 0) := ⟨by rw [whL, hl, hq]⟩
  have hq16 : q < 16 := by omega
  have hqn : (n + q) % 16 = 0 := by omega
  have hqj : ∀ j, j < q → (n + j) % 16 ≠ 0 := fun j hj => by omega
  have HQJ := Lib.hid hqj
  have HQN := Lib.hid hqn
  rw [← hq]
  clear hl hq hqj hqn
  go_enter Try.func36, Try.ntmps36
  go_upto_region 2 with (first
    | (at_builtin; refine wpList_append_sv _ rfl (.tmp 4) (.tmp 5) _ rfl w.heap.size 5 i0 _ 1 Try.underlying24 hi0 hz0 hz1 hz2 rfl (.slice (some ⟨w.heap.size, 0, none⟩) 0 0) 0 [] rfl (own_none w 5) B A n c (l.map cell8) rfl (sv_alloc hs hB _) hln (cell8_one _) (by unfold maxLen; omega) (by omega) (by simp) ?_; intro v1 w1 ho1 hg1 _; rw [Nat.zero_add, List.nil_append] at ho1; have HO1 := Lib.hid ho1; have HC1 := Lib.hid (below_clone hg1 (Nat.le_refl _)); clear ho1 hg1))
  have HO2 : Hid (OwB w.heap.size 5 w w1 v1 (l ++ List.replicate 0 0)) := Lib.hid ⟨by rw [List.replicate_zero, List.append_nil, HL.out]; exact HO1.out, HC1.out, HC1.out.size⟩
  clear HO1 HC1 hs hln
  go_wp2_with fail
  go_loopw [3] (fun v wr => ∃ j m : Nat, m = n + j ∧ j ≤ q ∧ (∃ A' c', v = .slice A' m c') ∧ Hid (OwB w.heap.size 5 w wr v (l ++ List.replicate j 0))) (fun v _ => n + q - lenV v)
  case atStart =>
    obtain ⟨A1, c1, rfl, _, _⟩ := own_form HO2.out.1
    rw [List.replicate_zero, List.append_nil, HL.out]
    exact ⟨0, n, rfl, by omega, ⟨A1, c1, rfl⟩, by rw [List.replicate_zero, List.append_nil] at HO2 ⊢; rw [HL.out] at HO2; exact HO2⟩
  case round =>
    obtain ⟨j, m, hm, hj, ⟨A1, c1, rfl⟩, HO⟩ := hrel
    clear HO2
    by_cases hlt : j < q
    · have hmod : ¬ m % 16 = 0 := by rw [hm]; exact HQJ.out j hlt
      have hmi : ¬ (m : Int) % 16 = 0 := by omega
      have hd : decide ((m : Int) % 16 = 0) = false := decide_eq_false hmi
      have hd2 : ((m : Int) % 16 == 0) = false := by simpa using hmi
      have hd3 : ((m : Int) % 16 != 0) = true := by simpa using hmi
      have hown := HO.out.1
      have hll : (l ++ List.replicate j (0 : UInt8)).length = m := by rw [List.length_append, List.length_replicate, HL.out, hm]
      rw [hll] at hown
      have hbz := HO.out.2.2
      have HM := Deep.mk hm
      have HLL := Deep.mk hll
      have hm2 : m ≤ 1099511627800 := by omega
      clear hm hmi hmod hll
      go_wp2_with (first
        | (at_builtin; refine wpList_append_sv _ rfl (.tmp 11) (.tmp 12) _ rfl w.heap.size 5 i0 _ 1 Try.underlying24 hi0 hz0 hz1 hz2 rfl (.slice A1 m c1) _ _ rfl (hown.alloc _) _ _ 1 1 _ rfl (sv_new _ _ _) rfl (fun u hu => by simp at hu; subst hu; rfl) (by unfold maxLen; omega) (by omega) (by simp; omega) ?_; intro v2 w2 hown2 hg2 hat2; have HO3 := Lib.hid (HO.out.more 0 _ (by rw [HLL.out]; exact hown2) hg2); clear hg2 hat2 hown2))
      have HO4 : Hid (OwB w.heap.size 5 w w2 v2 (l ++ List.replicate (j + 1) 0)) := by
        have h := HO3.out
        rw [List.append_assoc, ← List.replicate_succ'] at h
        exact Lib.hid h
      obtain ⟨A2, c2, e2, _, _⟩ := own_form HO4.out.1
      have hl2 : (l ++ List.replicate (j + 1) (0 : UInt8)).length = m + 1 := by rw [List.length_append, List.length_replicate, HL.out, HM.out]; omega
      rw [hl2] at e2
      subst e2
      refine ⟨⟨j + 1, m + 1, by rw [HM.out]; omega, by omega, ⟨A2, c2, rfl⟩, HO4⟩, by have := HM.out; simp only [lenV]; omega⟩
    · have hjq : j = q := by omega
      have hmod : m % 16 = 0 := by rw [hm, hjq]; exact HQN.out
      have hmi : (m : Int) % 16 = 0 := by omega
      have hd : decide ((m : Int) % 16 = 0) = true := decide_eq_true hmi
      have hd2 : ((m : Int) % 16 == 0) = true := by simpa using hmi
      have hd3 : ((m : Int) % 16 != 0) = false := by simpa using hmi
      have HO5 : Hid (OwB w.heap.size 5 w wr (.slice A1 m c1) (whL l)) := by rw [HQ.out, ← hjq]; exact HO
      have hll : (whL l).length = m := by rw [HQ.out, List.length_append, List.length_replicate, HL.out, hm, hjq]
      have HLL := Deep.mk hll
      have hmq : m = n + q := by omega
      have HMQ := Deep.mk hmq
      obtain ⟨_, _, e, h51, h52⟩ := own_form HO5.out.1
      rw [hll] at e h51
      simp only [Value.slice.injEq] at e
      obtain ⟨rfl, _, rfl⟩ := e
      have H51 := Lib.hid h51
      have H52 := Lib.hid h52
      clear HO hlt hj hjq hmod hmi hm hll hmq h51 h52
      go_wp2
      go_ret
      have ho := HO5.out.1
      rw [HLL.out] at ho
      exact ⟨A1, c1, by rw [← HMQ.out]; rfl, by rw [← HMQ.out]; exact H51.out, H52.out, by rw [← HMQ.out]; exact ho, HO5.out.2.1⟩

/-- A number's bytes, behind j of them, the last one first. -/
def e8K (x : Nat) : Nat → List UInt8
  | 0 => List.replicate 8 0
  | j + 1 => (e8K x j).set (7 - j) (UInt8.ofNat (x / 256 ^ j % 256))
theorem e8K_len (x j : Nat) : (e8K x j).length = 8 := by
  induction j with
  | zero => rfl
  | succ j ih => simp [e8K, ih]
theorem e8K_all (x : Nat) : e8K x 8 = e8L x := by
  unfold e8L
  rw [e8K, e8K, e8K, e8K, e8K, e8K, e8K, e8K, e8K]
  rfl
theorem mod_byte (m : Nat) : (m : Int) % 256 = ((UInt8.ofNat (m % 256)).toNat : Int) := by
  have e : (UInt8.ofNat (m % 256)).toNat = m % 256 := by simp
  rw [e, Int.natCast_emod]
  rfl

set_option maxRecDepth 100000 in
set_option maxHeartbeats 1000000 in
theorem reight_any (n : Nat) (w : World) (hn : n ≤ 1099511627776) :
    Calls Try.prog 37 #[.int .i64 (n : Int)] w (GaveN w 8 (e8L (8 * n))) := by
  obtain ⟨i0, hi0, hz0, hz1, hz2⟩ := info_parts info8
  obtain ⟨X, hX⟩ : ∃ X, X = 8 * n := ⟨_, rfl⟩
  have hXi : 8 * (n : Int) = (X : Int) := by omega
  have hXb : X ≤ 8796093022208 := by omega
  rw [← hX]
  obtain ⟨Z, hZ⟩ : ∃ Z : List UInt8, Z = List.replicate 8 0 := ⟨_, rfl⟩
  have HZR := Deep.mk hZ
  clear hZ hX
  go_enter Try.func37, Try.ntmps37
  go_upto_region 2 with (first
    | (refine wpList_make_mn w rfl (.const (.int .i64 8)) (.const (.int .i64 8)) 24 rfl 5 i0 _ Try.underlying24 hi0 hz0 hz1 rfl .i64 .i64 8 8 8 8 rfl rfl rfl rfl (Nat.le_refl _) (by rw [hz2]; omega) (by omega) ?_; rw [zrow, ← HZR.out]))
  have hbe : Below w.heap.size w (w.alloc (.cells (aRow Z) 5)) := (Below.refl _ _).alloc (Nat.le_refl _) _
  have h1 := Wh.new w 5 (aRow Z)
  obtain ⟨ob, hob⟩ : ∃ b, b = w.heap.size := ⟨_, rfl⟩
  rw [← hob] at h1 ⊢
  have hwo : w.heap.size ≤ ob := by omega
  generalize w.alloc (.cells (aRow Z) 5) = w1 at *
  have HO1 : Hid (Wh w1 ob 5 (aRow (e8K X 0))) := by rw [HZR.out] at h1; exact Lib.hid h1
  have HB1 := Lib.hid hbe
  clear hob h1 hbe
  go_wp2_with fail
  go_loopw [4, 5] (fun x i wr => ∃ j : Nat, j ≤ 8 ∧ i = .int .i64 ((7 : Int) - (j : Int)) ∧ x = .int .u64 ((X / 256 ^ j : Nat) : Int) ∧ Hid (Wh wr ob 5 (aRow (e8K X j))) ∧ Hid (Below w.heap.size w wr)) (fun _ i _ => (intOf i + 1).toNat)
  case atStart => exact ⟨0, by omega, rfl, by rw [Nat.pow_zero, Nat.div_one], HO1, HB1⟩
  case round =>
    obtain ⟨j, hj, rfl, rfl, HO, HB⟩ := hrel
    clear HO1 HB1
    obtain ⟨x, hx⟩ : ∃ x, x = X / 256 ^ j := ⟨_, rfl⟩
    have hxb : x ≤ 8796093022208 := by rw [hx]; exact Nat.le_trans (Nat.div_le_self _ _) hXb
    have hnx : x / 256 = X / 256 ^ (j + 1) := by rw [hx, Nat.div_div_eq_div_mul, Nat.pow_succ]
    rw [← hx]
    obtain ⟨y, hy⟩ : ∃ y, y = UInt8.ofNat (x % 256) := ⟨_, rfl⟩
    have hyb := mod_byte x
    rw [← hy] at hyb
    by_cases hlt : j < 8
    · obtain ⟨i, hi⟩ : ∃ i, i = 7 - j := ⟨_, rfl⟩
      have hki : (7 : Int) - (j : Int) = (i : Int) := by omega
      rw [hki]
      have hci : ∃ u, wr.cell? ⟨ob, i, none⟩ = some (.int .u8 ((u : UInt8).toNat : Int)) := ⟨_, (HO.out.cell i).trans (aRow_at (by rw [e8K_len]; omega))⟩
      obtain ⟨u, hci⟩ := hci
      have hfi := HO.out.frozen i
      have hi8 : (i : Int) < 8 := by omega
      have hid : decide ((i : Int) ≥ 0) = true := by rw [decide_eq_true_iff]; omega
      have hput := HO.out.put i (.int .u8 (y.toNat : Int))
      rw [aRow_set] at hput
      have HNX : Deep ((e8K X j).set i y = e8K X (j + 1)) := ⟨by rw [e8K, hi, hy, hx]⟩
      have HPU := Lib.hid hput
      have HGS := Lib.hid (grown_set wr ob i (.int .u8 (y.toNat : Int)))
      have HX2 := Deep.mk hnx
      have HYB := Deep.mk hyb
      have HJ1 : Deep ((i : Int) - 1 = (7 : Int) - ((j + 1 : Nat) : Int)) := ⟨by omega⟩
      have HJ2 : Hid (j + 1 ≤ 8) := Lib.hid (by omega)
      clear hx hnx hy hyb hi hki hput hlt hj
      go_wp2_with fail
      rw [HYB.out]
      refine ⟨⟨j + 1, HJ2.out, by rw [← HJ1.out], by rw [← HX2.out]; rfl, ?_, ?_⟩, by first | (simp [intOf]; done) | (simp [intOf]; omega)⟩
      · rw [← HNX.out]; exact HPU
      · exact Lib.hid (HB.out.grown HGS.out HB.out.size (fun q hq => by have := Option.some.inj hq; omega))
    · have hj8 : j = 8 := by omega
      obtain ⟨t, ht⟩ : ∃ t, t = (7 : Int) - (j : Int) := ⟨_, rfl⟩
      rw [← ht]
      have htd : decide (t ≥ 0) = false := by rw [decide_eq_false_iff_not]; omega
      have htn : ¬ (0 ≤ t) := by omega
      obtain ⟨z, hz⟩ : ∃ z, z = e8L X := ⟨_, rfl⟩
      have hzl : z.length = 8 := by rw [hz]; exact e8_len _
      have HWN : Hid (Wh wr ob 5 (aRow z)) := by
        have h := HO.out
        rw [hj8, e8K_all] at h
        rw [hz]
        exact Lib.hid h
      have HZ := Deep.mk hz
      have HZL := Deep.mk hzl
      clear HO hx hnx hy hyb ht hj hlt hj8 hz hzl
      go_wp2
      go_ret
      have hown := own_of_wh (l := z.map cell8) HWN.out w.heap.size 8 8 hwo (by rw [List.length_map, HZL.out]) (Nat.le_refl _) (by unfold maxLen; omega)
      rw [List.take_of_length_le (by rw [List.length_map, HZL.out]; exact Nat.le_refl _)] at hown
      exact ⟨_, _, rfl, Nat.le_refl _, by unfold maxLen; omega, by rw [← HZ.out]; exact hown, HB.out⟩
end Go.Proofs.Ytajfpbkeabdcaaa
