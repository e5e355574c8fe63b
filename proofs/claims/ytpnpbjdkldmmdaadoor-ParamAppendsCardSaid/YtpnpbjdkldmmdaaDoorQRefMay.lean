/-
  Transport parameters: the document's own May (hostlerref04).
-/
import Derived.Test.YtpnpbjdkldmmdaaDoorQNum
import Derived.Test.YtpnpbjdkldmmdaaDoorQFits
import Derived.Test.YtpnpbjdkldmmdaaDoorQApp
import Derived.BigQuiet
namespace Go.Proofs.YtpnpbjdkldmmdaaDoor
open Go.RowKit
set_option linter.unusedVariables false

/-- Are the token's first k bytes zero? -/
def zB (p : PQ) (k : Nat) : Bool := (p.tok.take k).all (· == 0)

theorem zB_succ {p : PQ} {k : Nat} {x : UInt8} (h : p.tok[k]? = some x) : zB p (k + 1) = (zB p k && (x == 0)) := by
  unfold zB
  rw [take_next _ _ _ h, List.all_append]
  simp

theorem zB_all {p : PQ} (ht : p.tok.length = 16) : zB p 16 = decide (p.tok = zTok) := by
  unfold zB
  rw [List.take_of_length_le (by omega), Bool.eq_iff_iff, decide_eq_true_iff, List.all_eq_true]
  unfold zTok
  rw [List.eq_replicate_iff]
  constructor
  · intro h
    exact ⟨ht, fun b hb => by simpa using h b hb⟩
  · intro h b hb
    simpa using h.2 b hb

theorem okNum_zero {p : PQ} {k : Nat} (h : p.num k = 0) : okNum p k = true := by unfold okNum; simp [h]
theorem okNum_fits {p : PQ} {k : Nat} (h : p.num k ≠ 0) : okNum p k = fitsB k (p.num k) := by
  have hn : nIdx k ≠ 0 := fun e => h (num_off e)
  unfold okNum
  simp [h, hn]

theorem may_ref {p : PQ} (h : ∀ j, j < 16 → okNum p j = true) : mayQ p = (decide (p.orig.length ≤ 20) && (decide (p.cid.length ≤ 20) && (p.has || decide (p.tok = zTok)))) := by
  unfold mayQ
  have hk : okTo p 16 = (decide (p.orig.length ≤ 20) && decide (p.cid.length ≤ 20)) := by
    rw [Bool.eq_iff_iff, Bool.and_eq_true]
    constructor
    · intro hh
      have h0 := (okTo_mono hh 0 (by omega)).2
      have h1 := (okTo_mono hh 15 (by omega)).2
      unfold okId at h0 h1
      exact ⟨by simpa using h0, by simpa using h1⟩
    · intro ⟨h0, h1⟩
      refine okTo_of fun j hj => ⟨h j hj, ?_⟩
      unfold okId
      split
      · exact h0
      · split
        · exact h1
        · rfl
  rw [hk]
  cases p.has <;> cases decide (p.orig.length ≤ 20) <;> cases decide (p.cid.length ≤ 20) <;> cases decide (p.tok = zTok) <;> rfl

set_option maxRecDepth 100000 in
set_option maxHeartbeats 3200000 in
theorem rmayq_any (R : Array Value) (A0 : Option Addr) (c0 : Nat) (A1 : Option Addr) (c1 : Nat) (p : PQ) (hR : R = prC A0 c0 A1 c1 p) (w : World) (ht : p.tok.length = 16) :
    Calls Tryd.prog 16 #[.agg R] w (MayGave w (mayQ p)) := by
  have hb0 : Below w.heap.size w (w.alloc (.cells R 43)) := (Below.refl _ _).alloc (Nat.le_refl _) _
  have HI : Hid ((Tryd.prog.info? 43).map (·.size) = some R.size) := by
    show _ = _
    rw [hR, prC_size, ht]
    kernel_rfl
  have HW := Lib.hid (Wh.new w 43 R)
  have hWP : Wh (w.alloc (.cells R 43)) w.heap.size 43 (prC A0 c0 A1 c1 p) := by rw [← hR]; exact Wh.new _ _ _
  have HWP := Lib.hid hWP
  have HN := Lib.hid (fun w => numbers_any R A0 c0 A1 c1 p hR w)
  have HB0 := Lib.hid hb0
  have HT := Lib.hid ht
  obtain ⟨m, hm⟩ : ∃ m, mayQ p = m := ⟨_, rfl⟩
  rw [hm]
  have HM := Lib.hid hm
  clear hR hb0 hWP ht hm
  go_enter Tryd.func16, Tryd.ntmps16
  go_wp2_with (first
    | (refine wpList_load_row rfl 43 (.tmp 1) rfl w.heap.size rfl _ R (0, 0) _ HW.out Tryd.underlying43 rfl HI.out ?_)
    | (go_at_call 31; refine (HN.out _).mono ?_; rintro e w1 ⟨g, rfl, hg, hb1, hn1⟩))
  have HB1 := Lib.hid (HB0.out.trans (hb1.mono HB0.out.size))
  have HW1 := Lib.hid (HWP.out.below hb1 HWP.out.lt)
  have HN1 := Lib.hid hn1
  clear hb1 hn1 HW HWP HB0
  go_loop [4] (fun i => ∃ k : Nat, k ≤ 16 ∧ i = .int .i64 (k : Int) ∧ Hid (∀ j, j < k → okNum p j = true)) (fun i => 16 - (intOf i).toNat)
  case atStart => exact ⟨0, Nat.zero_le _, rfl, Lib.hid (fun j hj => absurd hj (Nat.not_lt_zero _))⟩
  case round =>
    obtain ⟨k, hk, rfl, HOK⟩ := hrel
    by_cases hlt : k < 16
    · have ea : w1.cell? ⟨g, k, none⟩ = some (.int .u64 (p.num k : Int)) := by rw [HN1.out.cell, numC_at p k hlt]
      by_cases hn : p.num k = 0
      · have ho := Lib.hid (okNum_zero hn)
        rw [hn] at ea
        clear hn
        go_wp2
        go_round
        case rel => exact ⟨k + 1, by omega, by go_num, Lib.hid (fun j hj => by
          by_cases e : j = k
          · rw [e]; exact ho.out
          · exact HOK.out j (by omega))⟩
        case measure => simp [intOf]; omega
      · have ho := okNum_fits hn
        have hft := fun w => fits_any k (p.num k) w
        have hpos : (0 : Int) < (p.num k : Int) := by omega
        cases hf : fitsB k (p.num k)
        · rw [hf] at hft ho
          have HF := Lib.hid hft
          have HO := Lib.hid ho
          clear hf hft ho hn
          generalize p.num k = n at *
          go_wp2_with (go_at_call 32; refine (HF.out _).mono ?_; rintro e w' ⟨rfl, rfl⟩)
          go_ret
          rw [← HM.out, may_no hlt (.inl HO.out)]
          exact ⟨rfl, HB1.out⟩
        · rw [hf] at hft ho
          have HF := Lib.hid hft
          have HO := Lib.hid ho
          clear hf hft ho hn
          generalize p.num k = n at *
          go_wp2_with (go_at_call 32; refine (HF.out _).mono ?_; rintro e w' ⟨rfl, rfl⟩)
          go_round
          case rel => exact ⟨k + 1, by omega, by go_num, Lib.hid (fun j hj => by
            by_cases e : j = k
            · rw [e]; exact HO.out
            · exact HOK.out j (by omega))⟩
          case measure => simp [intOf]; omega
    · obtain rfl : k = 16 := by omega
      have HREF := Lib.hid (may_ref HOK.out)
      clear HOK hlt
      go_wp2_with fail
      go_loop [5, 6] (fun z i => ∃ k : Nat, k ≤ 16 ∧ i = .int .i64 (k : Int) ∧ z = .bool (zB p k)) (fun _ i => 16 - (intOf i).toNat)
      case atStart => exact ⟨0, Nat.zero_le _, rfl, rfl⟩
      case round =>
        obtain ⟨k, hk, rfl, rfl⟩ := hrel
        by_cases hlt : k < 16
        · obtain ⟨x, hx⟩ : ∃ x, p.tok[k]? = some x := ⟨_, List.getElem?_eq_getElem (by have := HT.out; omega)⟩
          have ec : w1.cell? ⟨w.heap.size, 12 + k, none⟩ = some (.int .u8 (x.toNat : Int)) := by rw [HW1.out.cell, prC_tok, hx]; rfl
          have hs := zB_succ hx
          have hx0 : (x == 0) = ((x.toNat : Int) == 0) := by
            rw [Bool.eq_iff_iff, beq_iff_eq, beq_iff_eq]
            constructor
            · rintro rfl; rfl
            · intro h; exact UInt8.toNat_inj.1 (by show x.toNat = 0; omega)
          rw [hx0] at hs
          have HS := Lib.hid hs
          clear hx hs hx0
          generalize zB p k = z at *
          cases z
          all_goals
            go_wp2
            go_round
            case rel => exact ⟨k + 1, by omega, by go_num, by rw [HS.out]; rfl⟩
            case measure => simp [intOf]; omega
        · obtain rfl : k = 16 := by omega
          have e0 : w1.cell? ⟨w.heap.size, 0, none⟩ = some (.slice A0 p.orig.length c0) := by rw [HW1.out.cell, prC_0]
          have e1 : w1.cell? ⟨w.heap.size, 1, none⟩ = some (.slice A1 p.cid.length c1) := by rw [HW1.out.cell, prC_1]
          have e2 : w1.cell? ⟨w.heap.size, 11, none⟩ = some (.bool p.has) := by rw [HW1.out.cell, prC_has]
          have hz := zB_all HT.out
          have hf := HM.out
          rw [HREF.out, ← hz] at hf
          have HF := Lib.hid hf
          clear hz hf HREF HM
          generalize zB p 16 = z at *
          generalize p.has = h at *
          by_cases q0 : p.orig.length ≤ 20 <;> by_cases q1 : p.cid.length ≤ 20 <;> cases h <;> cases z
          all_goals
            go_wp2
            go_ret
            refine ⟨?_, HB1.out⟩
            rw [← HF.out]
            simp [q0, q1]

end Go.Proofs.YtpnpbjdkldmmdaaDoor
