/-
  Transport parameters: whether they may be (param.May).
-/
import Derived.Test.YtpnpbjdkldmmdaaDoorQTok
namespace Go.Proofs.YtpnpbjdkldmmdaaDoor
open Go.RowKit
set_option linter.unusedVariables false

set_option maxRecDepth 100000 in
set_option maxHeartbeats 1600000 in
/-- A token that none has. -/
theorem may_tok (R : Array Value) (A0 : Option Addr) (c0 : Nat) (A1 : Option Addr) (c1 : Nat) (p : PQ) (hR : R = prC A0 c0 A1 c1 p) (w : World) (ht : p.tok.length = 16) (hh : p.has = false) (hne : p.tok ≠ zTok) :
    Calls Tryd.prog 17 #[.agg R] w fun e w' => e = .returned (.bool false) ∧ Below w.heap.size w w' := by
  have hW : Wh (w.alloc (.cells R 43)) w.heap.size 43 (prC A0 c0 A1 c1 p) := by rw [← hR]; exact Wh.new _ _ _
  have hb0 : Below w.heap.size w (w.alloc (.cells R 43)) := (Below.refl _ _).alloc (Nat.le_refl _) _
  have e11 : (w.alloc (.cells R 43)).cell? ⟨w.heap.size, 11, none⟩ = some (.bool false) := by rw [hW.cell, prC_has, hh]
  have g0 : (w.alloc (.cells R 43)).cell? ⟨w.heap.size, 12, none⟩ = some (.int .u8 (tkI p.tok 0)) := prC_at hW ht 0 (by omega)
  have g1 : (w.alloc (.cells R 43)).cell? ⟨w.heap.size, 13, none⟩ = some (.int .u8 (tkI p.tok 1)) := prC_at hW ht 1 (by omega)
  have g2 : (w.alloc (.cells R 43)).cell? ⟨w.heap.size, 14, none⟩ = some (.int .u8 (tkI p.tok 2)) := prC_at hW ht 2 (by omega)
  have g3 : (w.alloc (.cells R 43)).cell? ⟨w.heap.size, 15, none⟩ = some (.int .u8 (tkI p.tok 3)) := prC_at hW ht 3 (by omega)
  have g4 : (w.alloc (.cells R 43)).cell? ⟨w.heap.size, 16, none⟩ = some (.int .u8 (tkI p.tok 4)) := prC_at hW ht 4 (by omega)
  have g5 : (w.alloc (.cells R 43)).cell? ⟨w.heap.size, 17, none⟩ = some (.int .u8 (tkI p.tok 5)) := prC_at hW ht 5 (by omega)
  have g6 : (w.alloc (.cells R 43)).cell? ⟨w.heap.size, 18, none⟩ = some (.int .u8 (tkI p.tok 6)) := prC_at hW ht 6 (by omega)
  have g7 : (w.alloc (.cells R 43)).cell? ⟨w.heap.size, 19, none⟩ = some (.int .u8 (tkI p.tok 7)) := prC_at hW ht 7 (by omega)
  have g8 : (w.alloc (.cells R 43)).cell? ⟨w.heap.size, 20, none⟩ = some (.int .u8 (tkI p.tok 8)) := prC_at hW ht 8 (by omega)
  have g9 : (w.alloc (.cells R 43)).cell? ⟨w.heap.size, 21, none⟩ = some (.int .u8 (tkI p.tok 9)) := prC_at hW ht 9 (by omega)
  have g10 : (w.alloc (.cells R 43)).cell? ⟨w.heap.size, 22, none⟩ = some (.int .u8 (tkI p.tok 10)) := prC_at hW ht 10 (by omega)
  have g11 : (w.alloc (.cells R 43)).cell? ⟨w.heap.size, 23, none⟩ = some (.int .u8 (tkI p.tok 11)) := prC_at hW ht 11 (by omega)
  have g12 : (w.alloc (.cells R 43)).cell? ⟨w.heap.size, 24, none⟩ = some (.int .u8 (tkI p.tok 12)) := prC_at hW ht 12 (by omega)
  have g13 : (w.alloc (.cells R 43)).cell? ⟨w.heap.size, 25, none⟩ = some (.int .u8 (tkI p.tok 13)) := prC_at hW ht 13 (by omega)
  have g14 : (w.alloc (.cells R 43)).cell? ⟨w.heap.size, 26, none⟩ = some (.int .u8 (tkI p.tok 14)) := prC_at hW ht 14 (by omega)
  have g15 : (w.alloc (.cells R 43)).cell? ⟨w.heap.size, 27, none⟩ = some (.int .u8 (tkI p.tok 15)) := prC_at hW ht 15 (by omega)
  have hts := fun w => tok_same p.tok zTok ht rfl w
  rw [decide_eq_false hne] at hts
  have hz : tkC zTok = #[.int .u8 0, .int .u8 0, .int .u8 0, .int .u8 0, .int .u8 0, .int .u8 0, .int .u8 0, .int .u8 0, .int .u8 0, .int .u8 0, .int .u8 0, .int .u8 0, .int .u8 0, .int .u8 0, .int .u8 0, .int .u8 0] := rfl
  rw [hz] at hts
  have HB0 := Lib.hid hb0
  clear hR hW hne hh ht hz hb0
  unfold tkC at hts
  go_enter Tryd.func17, Tryd.ntmps17
  go_wp2
  go_ret
  exact ⟨rfl, HB0.out⟩


/-- What the round asks of one number. -/
theorem okNum_cases (p : PQ) (k : Nat) : (nIdx k = 0 ∧ okNum p k = true) ∨ (nIdx k ≠ 0 ∧ p.num k = 0 ∧ okNum p k = true) ∨ (nIdx k ≠ 0 ∧ p.num k ≠ 0 ∧ fitsB k (p.num k) = true ∧ okNum p k = true) ∨ (nIdx k ≠ 0 ∧ p.num k ≠ 0 ∧ fitsB k (p.num k) = false ∧ okNum p k = false) := by
  unfold okNum
  by_cases h : nIdx k = 0
  · exact .inl ⟨h, by simp [h]⟩
  · by_cases h0 : p.num k = 0
    · exact .inr (.inl ⟨h, h0, by simp [h0]⟩)
    · cases hf : fitsB k (p.num k)
      · exact .inr (.inr (.inr ⟨h, h0, rfl, by simp [h, h0]⟩))
      · exact .inr (.inr (.inl ⟨h, h0, rfl, by simp⟩))

theorem okTo_succ {p : PQ} {k : Nat} (h : okTo p k = true) (h1 : okNum p k = true) (h2 : okId p k = true) : okTo p (k + 1) = true := by
  unfold okTo; rw [h, h1, h2]; rfl

theorem may_no {p : PQ} {k : Nat} (hk : k < 16) (h : okNum p k = false ∨ okId p k = false) : mayQ p = false := by
  cases hm : mayQ p
  · rfl
  · unfold mayQ at hm
    rw [Bool.and_eq_true] at hm
    obtain ⟨h1, h2⟩ := okTo_mono hm.2 k hk
    rcases h with h | h
    · rw [h] at h1; cases h1
    · rw [h] at h2; cases h2

def MayGave (w : World) (b : Bool) (e : Ending) (w' : World) : Prop := e = .returned (.bool b) ∧ Below w.heap.size w w'

set_option maxRecDepth 100000 in
set_option maxHeartbeats 3200000 in
theorem may_loop (R : Array Value) (A0 : Option Addr) (c0 : Nat) (A1 : Option Addr) (c1 : Nat) (p : PQ) (hR : R = prC A0 c0 A1 c1 p) (w : World) (ht : p.tok.length = 16) (hh : p.has = true ∨ (p.has = false ∧ p.tok = zTok)) :
    Calls Tryd.prog 17 #[.agg R] w (MayGave w (mayQ p)) := by
  have hW : Wh (w.alloc (.cells R 43)) w.heap.size 43 (prC A0 c0 A1 c1 p) := by rw [← hR]; exact Wh.new _ _ _
  have hb0 : Below w.heap.size w (w.alloc (.cells R 43)) := (Below.refl _ _).alloc (Nat.le_refl _) _
  have HB0 := Lib.hid hb0
  have HW := Lib.hid hW
  have hyes : okTo p 16 = true → mayQ p = true := fun h => by
    unfold mayQ
    rw [h]
    rcases hh with h | ⟨_, h⟩ <;> rw [h] <;> simp
  have HYES := Lib.hid hyes
  clear hyes
  rcases hh with hh | ⟨hh, hz⟩
  case' inl =>
    have e11 : (w.alloc (.cells R 43)).cell? ⟨w.heap.size, 11, none⟩ = some (.bool true) := by rw [hW.cell, prC_has, hh]
    clear hR hW hh ht hb0
    go_enter Tryd.func17, Tryd.ntmps17
    go_wp2_with fail
    clear e11
  case' inr =>
    have e11 : (w.alloc (.cells R 43)).cell? ⟨w.heap.size, 11, none⟩ = some (.bool false) := by rw [hW.cell, prC_has, hh]
    have g0 : (w.alloc (.cells R 43)).cell? ⟨w.heap.size, 12, none⟩ = some (.int .u8 (tkI p.tok 0)) := prC_at hW ht 0 (by omega)
    have g1 : (w.alloc (.cells R 43)).cell? ⟨w.heap.size, 13, none⟩ = some (.int .u8 (tkI p.tok 1)) := prC_at hW ht 1 (by omega)
    have g2 : (w.alloc (.cells R 43)).cell? ⟨w.heap.size, 14, none⟩ = some (.int .u8 (tkI p.tok 2)) := prC_at hW ht 2 (by omega)
    have g3 : (w.alloc (.cells R 43)).cell? ⟨w.heap.size, 15, none⟩ = some (.int .u8 (tkI p.tok 3)) := prC_at hW ht 3 (by omega)
    have g4 : (w.alloc (.cells R 43)).cell? ⟨w.heap.size, 16, none⟩ = some (.int .u8 (tkI p.tok 4)) := prC_at hW ht 4 (by omega)
    have g5 : (w.alloc (.cells R 43)).cell? ⟨w.heap.size, 17, none⟩ = some (.int .u8 (tkI p.tok 5)) := prC_at hW ht 5 (by omega)
    have g6 : (w.alloc (.cells R 43)).cell? ⟨w.heap.size, 18, none⟩ = some (.int .u8 (tkI p.tok 6)) := prC_at hW ht 6 (by omega)
    have g7 : (w.alloc (.cells R 43)).cell? ⟨w.heap.size, 19, none⟩ = some (.int .u8 (tkI p.tok 7)) := prC_at hW ht 7 (by omega)
    have g8 : (w.alloc (.cells R 43)).cell? ⟨w.heap.size, 20, none⟩ = some (.int .u8 (tkI p.tok 8)) := prC_at hW ht 8 (by omega)
    have g9 : (w.alloc (.cells R 43)).cell? ⟨w.heap.size, 21, none⟩ = some (.int .u8 (tkI p.tok 9)) := prC_at hW ht 9 (by omega)
    have g10 : (w.alloc (.cells R 43)).cell? ⟨w.heap.size, 22, none⟩ = some (.int .u8 (tkI p.tok 10)) := prC_at hW ht 10 (by omega)
    have g11 : (w.alloc (.cells R 43)).cell? ⟨w.heap.size, 23, none⟩ = some (.int .u8 (tkI p.tok 11)) := prC_at hW ht 11 (by omega)
    have g12 : (w.alloc (.cells R 43)).cell? ⟨w.heap.size, 24, none⟩ = some (.int .u8 (tkI p.tok 12)) := prC_at hW ht 12 (by omega)
    have g13 : (w.alloc (.cells R 43)).cell? ⟨w.heap.size, 25, none⟩ = some (.int .u8 (tkI p.tok 13)) := prC_at hW ht 13 (by omega)
    have g14 : (w.alloc (.cells R 43)).cell? ⟨w.heap.size, 26, none⟩ = some (.int .u8 (tkI p.tok 14)) := prC_at hW ht 14 (by omega)
    have g15 : (w.alloc (.cells R 43)).cell? ⟨w.heap.size, 27, none⟩ = some (.int .u8 (tkI p.tok 15)) := prC_at hW ht 15 (by omega)
    have hts := fun w => tok_same p.tok zTok ht rfl w
    rw [decide_eq_true hz] at hts
    have hzz : tkC zTok = #[.int .u8 0, .int .u8 0, .int .u8 0, .int .u8 0, .int .u8 0, .int .u8 0, .int .u8 0, .int .u8 0, .int .u8 0, .int .u8 0, .int .u8 0, .int .u8 0, .int .u8 0, .int .u8 0, .int .u8 0, .int .u8 0] := rfl
    rw [hzz] at hts
    clear hR hW hh hz ht hzz hb0
    unfold tkC at hts
    go_enter Tryd.func17, Tryd.ntmps17
    go_wp2_with fail
    clear e11 hts g0 g1 g2 g3 g4 g5 g6 g7 g8 g9 g10 g11 g12 g13 g14 g15
  all_goals
    generalize w.alloc (.cells R 43) = w0 at *
    go_loop [15] (fun v => ∃ k : Nat, k ≤ 16 ∧ v = .int .u64 (k : Int) ∧ Hid (okTo p k = true)) (fun v => 16 - (intOf v).toNat)
    case atStart => exact ⟨0, Nat.zero_le _, rfl, Lib.hid rfl⟩
    case round =>
      obtain ⟨k, hk, rfl, HOK⟩ := hrel
      by_cases hlt : k < 16
      · have hnum := fun w' => numberOf_any w.heap.size k w'
        have hbyt := fun w' => bytesOf_any w.heap.size k w'
        have hmt := fun w' => mayTell_any k (p.num k) w'
        rcases okNum_cases p k with ⟨hn, ho⟩ | ⟨hn, h0, ho⟩ | ⟨hn, h0, hf, ho⟩ | ⟨hn, h0, hf, ho⟩
        · rw [numP_none hn] at hnum
          have HNO := Lib.hid hnum
          have HMT := Lib.hid hmt
          have HO := Lib.hid ho
          clear hnum hmt hn ho
          by_cases k0 : k = 0
          · subst k0
            rw [bytP_0] at hbyt
            have HBY := Lib.hid hbyt
            have e0 : w0.cell? ⟨w.heap.size, 0, none⟩ = some (.slice A0 p.orig.length c0) := by rw [HW.out.cell, prC_0]
            clear hbyt
            by_cases hl : p.orig.length ≤ 20
            · have HOI : Hid (okId p 0 = true) := by show _ = _; unfold okId; simpa using hl
              go_wp2_with (first | (go_at_call 33; refine (HNO.out _).mono ?_; rintro e w' ⟨rfl, rfl⟩) | (go_at_call 34; refine (HMT.out _).mono ?_; rintro e w' ⟨rfl, rfl⟩) | (go_at_call 35; refine (HBY.out _).mono ?_; rintro e w' ⟨rfl, rfl⟩))
              go_round
              case rel => exact ⟨1, by omega, by go_num, Lib.hid (okTo_succ HOK.out HO.out HOI.out)⟩
              case measure => simp [intOf]
            · have HOI : Hid (okId p 0 = false) := by show _ = _; unfold okId; simpa using hl
              go_wp2_with (first | (go_at_call 33; refine (HNO.out _).mono ?_; rintro e w' ⟨rfl, rfl⟩) | (go_at_call 34; refine (HMT.out _).mono ?_; rintro e w' ⟨rfl, rfl⟩) | (go_at_call 35; refine (HBY.out _).mono ?_; rintro e w' ⟨rfl, rfl⟩))
              go_ret
              rw [may_no hlt (.inr HOI.out)]; exact ⟨rfl, HB0.out⟩
          · by_cases k1 : k = 15
            · subst k1
              rw [bytP_15] at hbyt
              have HBY := Lib.hid hbyt
              have e1 : w0.cell? ⟨w.heap.size, 1, none⟩ = some (.slice A1 p.cid.length c1) := by rw [HW.out.cell, prC_1]
              clear hbyt k0
              by_cases hl : p.cid.length ≤ 20
              · have HOI : Hid (okId p 15 = true) := by show _ = _; unfold okId; simpa using hl
                go_wp2_with (first | (go_at_call 33; refine (HNO.out _).mono ?_; rintro e w' ⟨rfl, rfl⟩) | (go_at_call 34; refine (HMT.out _).mono ?_; rintro e w' ⟨rfl, rfl⟩) | (go_at_call 35; refine (HBY.out _).mono ?_; rintro e w' ⟨rfl, rfl⟩))
                go_round
                case rel => exact ⟨16, by omega, by go_num, Lib.hid (okTo_succ HOK.out HO.out HOI.out)⟩
                case measure => simp [intOf]
              · have HOI : Hid (okId p 15 = false) := by show _ = _; unfold okId; simpa using hl
                go_wp2_with (first | (go_at_call 33; refine (HNO.out _).mono ?_; rintro e w' ⟨rfl, rfl⟩) | (go_at_call 34; refine (HMT.out _).mono ?_; rintro e w' ⟨rfl, rfl⟩) | (go_at_call 35; refine (HBY.out _).mono ?_; rintro e w' ⟨rfl, rfl⟩))
                go_ret
                rw [may_no hlt (.inr HOI.out)]; exact ⟨rfl, HB0.out⟩
            · rw [bytP_none k0 k1] at hbyt
              have HBY := Lib.hid hbyt
              have HOI : Hid (okId p k = true) := by show _ = _; unfold okId; rw [if_neg k0, if_neg k1]
              clear hbyt k0 k1
              go_wp2_with (first | (go_at_call 33; refine (HNO.out _).mono ?_; rintro e w' ⟨rfl, rfl⟩) | (go_at_call 34; refine (HMT.out _).mono ?_; rintro e w' ⟨rfl, rfl⟩) | (go_at_call 35; refine (HBY.out _).mono ?_; rintro e w' ⟨rfl, rfl⟩))
              go_round
              case rel => exact ⟨k + 1, by omega, by go_num, Lib.hid (okTo_succ HOK.out HO.out HOI.out)⟩
              case measure => simp [intOf]; omega
        all_goals
          obtain ⟨_, n0, n15⟩ := nIdx_ne hn
          rw [numP_some hn] at hnum
          rw [bytP_none n0 n15] at hbyt
          have HNO := Lib.hid hnum
          have HBY := Lib.hid hbyt
          have HO := Lib.hid ho
          have HOI : Hid (okId p k = true) := by show _ = _; unfold okId; rw [if_neg n0, if_neg n15]
          have hc : w0.cell? ⟨w.heap.size, nIdx k, none⟩ = some (.int .u64 (p.num k : Int)) := by rw [HW.out.cell, prC_num _ _ _ _ _ _ hn]
          clear hnum hbyt ho n0 n15 hn
        · have HMT := Lib.hid hmt
          rw [h0] at hc
          clear hmt h0
          go_wp2_with (first | (go_at_call 33; refine (HNO.out _).mono ?_; rintro e w' ⟨rfl, rfl⟩) | (go_at_call 34; refine (HMT.out _).mono ?_; rintro e w' ⟨rfl, rfl⟩) | (go_at_call 35; refine (HBY.out _).mono ?_; rintro e w' ⟨rfl, rfl⟩))
          go_round
          case rel => exact ⟨k + 1, by omega, by go_num, Lib.hid (okTo_succ HOK.out HO.out HOI.out)⟩
          case measure => simp [intOf]; omega
        all_goals
          rw [hf] at hmt
          have HMT := Lib.hid hmt
          have t0 : ((p.num k : Int) != 0) = true := by rw [bne_iff_ne]; omega
          clear hmt h0 hf
        · go_wp2_with (first | (go_at_call 33; refine (HNO.out _).mono ?_; rintro e w' ⟨rfl, rfl⟩) | (go_at_call 34; refine (HMT.out _).mono ?_; rintro e w' ⟨rfl, rfl⟩) | (go_at_call 35; refine (HBY.out _).mono ?_; rintro e w' ⟨rfl, rfl⟩))
          go_round
          case rel => exact ⟨k + 1, by omega, by go_num, Lib.hid (okTo_succ HOK.out HO.out HOI.out)⟩
          case measure => simp [intOf]; omega
        · go_wp2_with (first | (go_at_call 33; refine (HNO.out _).mono ?_; rintro e w' ⟨rfl, rfl⟩) | (go_at_call 34; refine (HMT.out _).mono ?_; rintro e w' ⟨rfl, rfl⟩) | (go_at_call 35; refine (HBY.out _).mono ?_; rintro e w' ⟨rfl, rfl⟩))
          go_ret
          rw [may_no hlt (.inl HO.out)]; exact ⟨rfl, HB0.out⟩
      · obtain rfl : k = 16 := by omega
        go_wp2
        go_ret
        rw [HYES.out HOK.out]; exact ⟨rfl, HB0.out⟩

theorem may_any (R : Array Value) (A0 : Option Addr) (c0 : Nat) (A1 : Option Addr) (c1 : Nat) (p : PQ) (hR : R = prC A0 c0 A1 c1 p) (w : World) (ht : p.tok.length = 16) :
    Calls Tryd.prog 17 #[.agg R] w (MayGave w (mayQ p)) := by
  cases hh : p.has
  · by_cases hz : p.tok = zTok
    · exact may_loop R A0 c0 A1 c1 p hR w ht (.inr ⟨hh, hz⟩)
    · refine (may_tok R A0 c0 A1 c1 p hR w ht hh hz).mono ?_
      rintro e w' ⟨rfl, hb⟩
      exact ⟨by unfold mayQ; rw [hh, decide_eq_false hz]; rfl, hb⟩
  · exact may_loop R A0 c0 A1 c1 p hR w ht (.inl hh)

end Go.Proofs.YtpnpbjdkldmmdaaDoor
