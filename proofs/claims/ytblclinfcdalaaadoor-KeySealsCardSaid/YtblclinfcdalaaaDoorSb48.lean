/-
  The walk through the document's own Put (hostlerref03), at a short head that may be.
  The document's own Put of a head that may be (hostlerref03).
-/
import Derived.Test.YtblclinfcdalaaaDoorSb47
namespace Go.Proofs.YtblclinfcdalaaaDoor
section
open Go.RowKit
set_option linter.unusedVariables false

set_option maxRecDepth 10000 in
set_option maxHeartbeats 1600000 in
theorem refput_short (k n pn : Nat) (dst : List UInt8) (ph : Bool) (A1 : Option Addr) (c1 : Nat) (A2 : Option Addr) (c2 : Nat) (A3 : Option Addr) (c3 : Nat) (w : World)
    (hk : k = 1 ∨ k = 2 ∨ k = 3 ∨ k = 4) (hpn : pn ≤ 4611686018427387903) (h1 : Sl w w.heap.size A1 dst) (hd : dst.length ≤ 20) :
    Calls Tryd.prog 39 #[.agg (headC 2 A1 dst.length c1 A2 0 c2 A3 0 c3 ph (pn : Int) (k : Int)), .int .i64 (n : Int)] w (Gave w (headB 2 k dst [] [] ph pn n) fun v => v) := by
  obtain ⟨i0, hi0, hz0, hz1, hz2⟩ := info_parts info8V
  have hz : (w.alloc (.cells (headC 2 A1 dst.length c1 A2 0 c2 A3 0 c3 ph (pn : Int) (k : Int)) 39)).heap.size = w.heap.size + 1 := by simp
  have hb0 : Below w.heap.size w (w.alloc (.cells (headC 2 A1 dst.length c1 A2 0 c2 A3 0 c3 ph (pn : Int) (k : Int)) 39)) := (Below.refl _ _).alloc (Nat.le_refl _) _
  have hW0 : Wh (w.alloc (.cells (headC 2 A1 dst.length c1 A2 0 c2 A3 0 c3 ph (pn : Int) (k : Int)) 39)) w.heap.size 39 (headC 2 A1 dst.length c1 A2 0 c2 A3 0 c3 ph (pn : Int) (k : Int)) := Wh.new _ _ _
  have H1 : Hid (Sl (w.alloc (.cells (headC 2 A1 dst.length c1 A2 0 c2 A3 0 c3 ph (pn : Int) (k : Int)) 39)) (w.heap.size + 1) A1 dst) := h1.keep (Nat.le_succ _) fun p hp => hb0.cell hp
  have hx : firstB 2 k ph = 63 + k + (if ph then 4 else 0) := by
    unfold firstB
    simp
  have HH : Hid (headB 2 k dst [] [] ph pn n = UInt8.ofNat (firstB 2 k ph) :: (dst ++ be pn k)) := by
    show _ = _
    unfold headB
    rw [if_pos rfl]
  rw [hx] at HH
  have HB0 := Lib.hid hb0
  have HW0 := Lib.hid hW0
  generalize headB 2 k dst [] [] ph pn n = HD at *
  clear h1 hb0 hW0 hx
  have hk4 : k ≤ 4 := by omega
  have hk1 : 1 ≤ k := by omega
  cases ph
  all_goals unfold headC
  all_goals go_enter Tryd.func39, Tryd.ntmps39
  · go_upto_region 5 with fail
    change Code.wp _ _ _ _ (w.alloc (.cells (headC 2 A1 dst.length c1 A2 0 c2 A3 0 c3 false (pn : Int) (k : Int)) 39))
    generalize (w.alloc (.cells (headC 2 A1 dst.length c1 A2 0 c2 A3 0 c3 false (pn : Int) (k : Int)) 39)) = w0 at *
    have HX : Hid (cell8 (UInt8.ofNat (63 + k)) = .int .u8 (64 + (k : Int) - 1)) := by
      show _ = _
      rw [← byte_len (63 + k) (by omega)]
      congr 1
      omega
    have e1 : w0.cell? ⟨w.heap.size, 1, none⟩ = some (.slice A1 dst.length c1) := HW0.out.cell 1
    have e5 : w0.cell? ⟨w.heap.size, 5, none⟩ = some (.int .u64 (pn : Int)) := HW0.out.cell 5
    have e6 : w0.cell? ⟨w.heap.size, 6, none⟩ = some (.int .i64 (k : Int)) := HW0.out.cell 6
    have HZ : Hid (w0.heap.size = w.heap.size + 1) := hz
    clear hz
    -- a first byte's own row, in whatever world that has the box
    have HLIT : Hid (∀ wq : World, Below (w.heap.size + 1) w0 wq → w.heap.size + 1 ≤ wq.heap.size → PB w0 (wq.alloc (.cells #[.int .u8 (64 + (k : Int) - 1)] 5)) (w.heap.size + 1) w.heap.size (headC 2 A1 dst.length c1 A2 0 c2 A3 0 c3 false (pn : Int) (k : Int)) (.slice (some ⟨wq.heap.size, 0, none⟩) 1 1) [UInt8.ofNat (63 + k)]) := by
      intro wq hbq hzq
      have ho := own_one (w := wq) (B := w.heap.size + 1) (UInt8.ofNat (63 + k)) hzq
      rw [HX.out] at ho
      have hbx := (HW0.out.below hbq (Nat.lt_succ_self _)).alloc (.cells #[.int .u8 (64 + (k : Int) - 1)] 5)
      exact ⟨ho, hbq.alloc hzq _, hbx, own_type ho hbx (by decide), by rw [HZ.out]; exact Nat.le_refl _⟩
    have HPA := Lib.hid ((HLIT.out w0 (Below.refl _ _) (by rw [HZ.out]; exact Nat.le_refl _)).drew)
    have hbd : Below (w.heap.size + 1) w0 w0.drew := (Below.refl _ _).drew
    have HBD := Lib.hid hbd
    clear hbd
    have HLW := Lib.hid (fun w => low_any pn k w hk4 hpn)
    have hbe : (be pn k).length ≤ 4 := by rw [be_length]; exact hk4
    go_region_held3 (fun w' => w'.cell? ⟨w.heap.size, 1, none⟩ = some (.slice A1 dst.length c1) ∧ w'.cell? ⟨w.heap.size, 5, none⟩ = some (.int .u64 (pn : Int)) ∧ w'.cell? ⟨w.heap.size, 6, none⟩ = some (.int .i64 (k : Int))) (go_keep)
      (first
        | (go_simp; go_at_call 73; refine (HLW.out _).mono ?_; rintro e wl ⟨Al, ql, rfl, hql, hml, hownl, hbl⟩;
            first
              | (have HPz := Lib.hid (HP4.out.beside hbl); have HSz := Lib.hid (Sv.of_own hownl); have q1 : wl.cell? ⟨w.heap.size, 1, none⟩ = some (.slice A1 dst.length c1) := HPz.out.box.cell 1; have q5 : wl.cell? ⟨w.heap.size, 5, none⟩ = some (.int .u64 (pn : Int)) := HPz.out.box.cell 5; have q6 : wl.cell? ⟨w.heap.size, 6, none⟩ = some (.int .i64 (k : Int)) := HPz.out.box.cell 6)
              | (have HPl := Lib.hid (HPA.out.beside hbl); have HYl := Lib.hid (Sy.of_own hownl (Nat.le_refl _)); have q1 : wl.cell? ⟨w.heap.size, 1, none⟩ = some (.slice A1 dst.length c1) := HPl.out.box.cell 1; have q5 : wl.cell? ⟨w.heap.size, 5, none⟩ = some (.int .u64 (pn : Int)) := HPl.out.box.cell 5; have q6 : wl.cell? ⟨w.heap.size, 6, none⟩ = some (.int .i64 (k : Int)) := HPl.out.box.cell 6)
              | (have HQl := Lib.hid (HBD.out.trans (hbl.mono (show w.heap.size + 1 ≤ w0.drew.heap.size from by rw [show w0.drew.heap.size = w0.heap.size from rfl, HZ.out]; exact Nat.le_refl _))); have HSl := Lib.hid (Sv.of_own hownl); have HBX := Lib.hid (HW0.out.below HQl.out (Nat.lt_succ_self _)); have q1 : wl.cell? ⟨w.heap.size, 1, none⟩ = some (.slice A1 dst.length c1) := HBX.out.cell 1; have q5 : wl.cell? ⟨w.heap.size, 5, none⟩ = some (.int .u64 (pn : Int)) := HBX.out.cell 5; have q6 : wl.cell? ⟨w.heap.size, 6, none⟩ = some (.int .i64 (k : Int)) := HBX.out.cell 6))
        | (refine step_app_sv rfl (.tmp 21) (.tmp 23) 23 rfl (w.heap.size + 1) 5 i0 _ 1 Tryd.underlying23 hi0 hz0 hz1 hz2 rfl (.slice (some ⟨w0.heap.size, 0, none⟩) 1 1) _ _ rfl HPl.out.own (w.heap.size + 1) _ dst.length _ (dst.map cell8) rfl (HPl.out.sl H1.out) (by simp) (cell8_one dst) (by unfold maxLen; simp; omega) (by simp; omega) HPl.out.hBw ?_; intro v4 w4 hown4 hg4; have HPz := Lib.hid (HPl.out.app (d := dst) hown4 rfl hg4); have HSz := Lib.hid ((HYl.out.grown hg4 (fun g hg => by obtain rfl := Option.some.inj hg; exact Nat.lt_of_lt_of_le (Nat.lt_succ_self _) (by simp))).sv); have q1 : w4.cell? ⟨w.heap.size, 1, none⟩ = some (.slice A1 dst.length c1) := HPz.out.box.cell 1; have q5 : w4.cell? ⟨w.heap.size, 5, none⟩ = some (.int .u64 (pn : Int)) := HPz.out.box.cell 5; have q6 : w4.cell? ⟨w.heap.size, 6, none⟩ = some (.int .i64 (k : Int)) := HPz.out.box.cell 6)
        | (refine step_app_sv rfl (.tmp 21) (.tmp 23) 23 rfl (w.heap.size + 1) 5 i0 _ 1 Tryd.underlying23 hi0 hz0 hz1 hz2 rfl (.slice (some ⟨w0.heap.size, 0, none⟩) 1 1) _ _ rfl HPA.out.own (w.heap.size + 1) _ dst.length _ (dst.map cell8) rfl (HPA.out.sl H1.out) (by simp) (cell8_one dst) (by unfold maxLen; simp; omega) (by simp; omega) HPA.out.hBw ?_; intro v4 w4 hown4 hg4; have HP4 := Lib.hid (HPA.out.app (d := dst) hown4 rfl hg4); have q1 : w4.cell? ⟨w.heap.size, 1, none⟩ = some (.slice A1 dst.length c1) := HP4.out.box.cell 1; have q5 : w4.cell? ⟨w.heap.size, 5, none⟩ = some (.int .u64 (pn : Int)) := HP4.out.box.cell 5; have q6 : w4.cell? ⟨w.heap.size, 6, none⟩ = some (.int .i64 (k : Int)) := HP4.out.box.cell 6)
        | (refine step_app_sv rfl (.tmp 21) (.tmp 23) 23 rfl (w.heap.size + 1) 5 i0 _ 1 Tryd.underlying23 hi0 hz0 hz1 hz2 rfl (.slice (some ⟨wl.heap.size, 0, none⟩) 1 1) _ _ rfl (HLIT.out _ HQl.out (Nat.le_trans (by rw [HZ.out]; exact Nat.le_refl _) HQl.out.size)).own (w.heap.size + 1) _ dst.length _ (dst.map cell8) rfl ((HLIT.out _ HQl.out (Nat.le_trans (by rw [HZ.out]; exact Nat.le_refl _) HQl.out.size)).sl H1.out) (by simp) (cell8_one dst) (by unfold maxLen; simp; omega) (by simp; omega) (HLIT.out _ HQl.out (Nat.le_trans (by rw [HZ.out]; exact Nat.le_refl _) HQl.out.size)).hBw ?_; intro v4 w4 hown4 hg4; have HPz := Lib.hid ((HLIT.out _ HQl.out (Nat.le_trans (by rw [HZ.out]; exact Nat.le_refl _) HQl.out.size)).app (d := dst) hown4 rfl hg4); have HSz := Lib.hid (((Sx.of (HSl.out.keep (Nat.le_refl _) (fun p hp => World.cell?_alloc_lt wl _ p hp)) (Nat.le_refl _) (by simp)).grown hg4).sv); have q1 : w4.cell? ⟨w.heap.size, 1, none⟩ = some (.slice A1 dst.length c1) := HPz.out.box.cell 1; have q5 : w4.cell? ⟨w.heap.size, 5, none⟩ = some (.int .u64 (pn : Int)) := HPz.out.box.cell 5; have q6 : w4.cell? ⟨w.heap.size, 6, none⟩ = some (.int .i64 (k : Int)) := HPz.out.box.cell 6)
        | (refine step_app_sv rfl (.tmp 24) (.tmp 29) 23 rfl (w.heap.size + 1) 5 i0 _ 1 Tryd.underlying23 hi0 hz0 hz1 hz2 rfl v4 _ _ rfl HPz.out.own _ Al (be pn k).length _ ((be pn k).map cell8) rfl HSz.out (by simp) (cell8_one _) (by unfold maxLen; simp; omega) (by simp; omega) HPz.out.hBw ?_; intro v5 w5 hown5 hg5; have HP5 := Lib.hid (HPz.out.app (d := be pn k) hown5 rfl hg5); have q1 : w5.cell? ⟨w.heap.size, 1, none⟩ = some (.slice A1 dst.length c1) := HP5.out.box.cell 1; have q5 : w5.cell? ⟨w.heap.size, 5, none⟩ = some (.int .u64 (pn : Int)) := HP5.out.box.cell 5; have q6 : w5.cell? ⟨w.heap.size, 6, none⟩ = some (.int .i64 (k : Int)) := HP5.out.box.cell 6))
    all_goals
      go_wp2
      have hpd := HP5.out
      have hhd : HD = [UInt8.ofNat (63 + k)] ++ dst ++ be pn k := by rw [HH.out]; simp
      rw [← hhd] at hpd
      obtain ⟨Ad, cd, rfl, p1, p2⟩ := own_form hpd.own
      go_ret
      exact ⟨Ad, cd, rfl, p1, p2, hown_base hpd.own (Nat.le_succ _), HB0.out.trans (hpd.bel.mono (Nat.le_succ _))⟩
  · go_upto_region 5 with fail
    change Code.wp _ _ _ _ (w.alloc (.cells (headC 2 A1 dst.length c1 A2 0 c2 A3 0 c3 true (pn : Int) (k : Int)) 39))
    generalize (w.alloc (.cells (headC 2 A1 dst.length c1 A2 0 c2 A3 0 c3 true (pn : Int) (k : Int)) 39)) = w0 at *
    have HX : Hid (cell8 (UInt8.ofNat (63 + k + 4)) = .int .u8 (64 + (k : Int) - 1 + 4)) := by
      show _ = _
      rw [← byte_len (63 + k + 4) (by omega)]
      congr 1
      omega
    have e1 : w0.cell? ⟨w.heap.size, 1, none⟩ = some (.slice A1 dst.length c1) := HW0.out.cell 1
    have e5 : w0.cell? ⟨w.heap.size, 5, none⟩ = some (.int .u64 (pn : Int)) := HW0.out.cell 5
    have e6 : w0.cell? ⟨w.heap.size, 6, none⟩ = some (.int .i64 (k : Int)) := HW0.out.cell 6
    have HZ : Hid (w0.heap.size = w.heap.size + 1) := hz
    clear hz
    -- a first byte's own row, in whatever world that has the box
    have HLIT : Hid (∀ wq : World, Below (w.heap.size + 1) w0 wq → w.heap.size + 1 ≤ wq.heap.size → PB w0 (wq.alloc (.cells #[.int .u8 (64 + (k : Int) - 1 + 4)] 5)) (w.heap.size + 1) w.heap.size (headC 2 A1 dst.length c1 A2 0 c2 A3 0 c3 true (pn : Int) (k : Int)) (.slice (some ⟨wq.heap.size, 0, none⟩) 1 1) [UInt8.ofNat (63 + k + 4)]) := by
      intro wq hbq hzq
      have ho := own_one (w := wq) (B := w.heap.size + 1) (UInt8.ofNat (63 + k + 4)) hzq
      rw [HX.out] at ho
      have hbx := (HW0.out.below hbq (Nat.lt_succ_self _)).alloc (.cells #[.int .u8 (64 + (k : Int) - 1 + 4)] 5)
      exact ⟨ho, hbq.alloc hzq _, hbx, own_type ho hbx (by decide), by rw [HZ.out]; exact Nat.le_refl _⟩
    have HPA := Lib.hid ((HLIT.out w0 (Below.refl _ _) (by rw [HZ.out]; exact Nat.le_refl _)).drew)
    have hbd : Below (w.heap.size + 1) w0 w0.drew := (Below.refl _ _).drew
    have HBD := Lib.hid hbd
    clear hbd
    have HLW := Lib.hid (fun w => low_any pn k w hk4 hpn)
    have hbe : (be pn k).length ≤ 4 := by rw [be_length]; exact hk4
    go_region_held3 (fun w' => w'.cell? ⟨w.heap.size, 1, none⟩ = some (.slice A1 dst.length c1) ∧ w'.cell? ⟨w.heap.size, 5, none⟩ = some (.int .u64 (pn : Int)) ∧ w'.cell? ⟨w.heap.size, 6, none⟩ = some (.int .i64 (k : Int))) (go_keep)
      (first
        | (go_simp; go_at_call 73; refine (HLW.out _).mono ?_; rintro e wl ⟨Al, ql, rfl, hql, hml, hownl, hbl⟩;
            first
              | (have HPz := Lib.hid (HP4.out.beside hbl); have HSz := Lib.hid (Sv.of_own hownl); have q1 : wl.cell? ⟨w.heap.size, 1, none⟩ = some (.slice A1 dst.length c1) := HPz.out.box.cell 1; have q5 : wl.cell? ⟨w.heap.size, 5, none⟩ = some (.int .u64 (pn : Int)) := HPz.out.box.cell 5; have q6 : wl.cell? ⟨w.heap.size, 6, none⟩ = some (.int .i64 (k : Int)) := HPz.out.box.cell 6)
              | (have HPl := Lib.hid (HPA.out.beside hbl); have HYl := Lib.hid (Sy.of_own hownl (Nat.le_refl _)); have q1 : wl.cell? ⟨w.heap.size, 1, none⟩ = some (.slice A1 dst.length c1) := HPl.out.box.cell 1; have q5 : wl.cell? ⟨w.heap.size, 5, none⟩ = some (.int .u64 (pn : Int)) := HPl.out.box.cell 5; have q6 : wl.cell? ⟨w.heap.size, 6, none⟩ = some (.int .i64 (k : Int)) := HPl.out.box.cell 6)
              | (have HQl := Lib.hid (HBD.out.trans (hbl.mono (show w.heap.size + 1 ≤ w0.drew.heap.size from by rw [show w0.drew.heap.size = w0.heap.size from rfl, HZ.out]; exact Nat.le_refl _))); have HSl := Lib.hid (Sv.of_own hownl); have HBX := Lib.hid (HW0.out.below HQl.out (Nat.lt_succ_self _)); have q1 : wl.cell? ⟨w.heap.size, 1, none⟩ = some (.slice A1 dst.length c1) := HBX.out.cell 1; have q5 : wl.cell? ⟨w.heap.size, 5, none⟩ = some (.int .u64 (pn : Int)) := HBX.out.cell 5; have q6 : wl.cell? ⟨w.heap.size, 6, none⟩ = some (.int .i64 (k : Int)) := HBX.out.cell 6))
        | (refine step_app_sv rfl (.tmp 21) (.tmp 23) 23 rfl (w.heap.size + 1) 5 i0 _ 1 Tryd.underlying23 hi0 hz0 hz1 hz2 rfl (.slice (some ⟨w0.heap.size, 0, none⟩) 1 1) _ _ rfl HPl.out.own (w.heap.size + 1) _ dst.length _ (dst.map cell8) rfl (HPl.out.sl H1.out) (by simp) (cell8_one dst) (by unfold maxLen; simp; omega) (by simp; omega) HPl.out.hBw ?_; intro v4 w4 hown4 hg4; have HPz := Lib.hid (HPl.out.app (d := dst) hown4 rfl hg4); have HSz := Lib.hid ((HYl.out.grown hg4 (fun g hg => by obtain rfl := Option.some.inj hg; exact Nat.lt_of_lt_of_le (Nat.lt_succ_self _) (by simp))).sv); have q1 : w4.cell? ⟨w.heap.size, 1, none⟩ = some (.slice A1 dst.length c1) := HPz.out.box.cell 1; have q5 : w4.cell? ⟨w.heap.size, 5, none⟩ = some (.int .u64 (pn : Int)) := HPz.out.box.cell 5; have q6 : w4.cell? ⟨w.heap.size, 6, none⟩ = some (.int .i64 (k : Int)) := HPz.out.box.cell 6)
        | (refine step_app_sv rfl (.tmp 21) (.tmp 23) 23 rfl (w.heap.size + 1) 5 i0 _ 1 Tryd.underlying23 hi0 hz0 hz1 hz2 rfl (.slice (some ⟨w0.heap.size, 0, none⟩) 1 1) _ _ rfl HPA.out.own (w.heap.size + 1) _ dst.length _ (dst.map cell8) rfl (HPA.out.sl H1.out) (by simp) (cell8_one dst) (by unfold maxLen; simp; omega) (by simp; omega) HPA.out.hBw ?_; intro v4 w4 hown4 hg4; have HP4 := Lib.hid (HPA.out.app (d := dst) hown4 rfl hg4); have q1 : w4.cell? ⟨w.heap.size, 1, none⟩ = some (.slice A1 dst.length c1) := HP4.out.box.cell 1; have q5 : w4.cell? ⟨w.heap.size, 5, none⟩ = some (.int .u64 (pn : Int)) := HP4.out.box.cell 5; have q6 : w4.cell? ⟨w.heap.size, 6, none⟩ = some (.int .i64 (k : Int)) := HP4.out.box.cell 6)
        | (refine step_app_sv rfl (.tmp 21) (.tmp 23) 23 rfl (w.heap.size + 1) 5 i0 _ 1 Tryd.underlying23 hi0 hz0 hz1 hz2 rfl (.slice (some ⟨wl.heap.size, 0, none⟩) 1 1) _ _ rfl (HLIT.out _ HQl.out (Nat.le_trans (by rw [HZ.out]; exact Nat.le_refl _) HQl.out.size)).own (w.heap.size + 1) _ dst.length _ (dst.map cell8) rfl ((HLIT.out _ HQl.out (Nat.le_trans (by rw [HZ.out]; exact Nat.le_refl _) HQl.out.size)).sl H1.out) (by simp) (cell8_one dst) (by unfold maxLen; simp; omega) (by simp; omega) (HLIT.out _ HQl.out (Nat.le_trans (by rw [HZ.out]; exact Nat.le_refl _) HQl.out.size)).hBw ?_; intro v4 w4 hown4 hg4; have HPz := Lib.hid ((HLIT.out _ HQl.out (Nat.le_trans (by rw [HZ.out]; exact Nat.le_refl _) HQl.out.size)).app (d := dst) hown4 rfl hg4); have HSz := Lib.hid (((Sx.of (HSl.out.keep (Nat.le_refl _) (fun p hp => World.cell?_alloc_lt wl _ p hp)) (Nat.le_refl _) (by simp)).grown hg4).sv); have q1 : w4.cell? ⟨w.heap.size, 1, none⟩ = some (.slice A1 dst.length c1) := HPz.out.box.cell 1; have q5 : w4.cell? ⟨w.heap.size, 5, none⟩ = some (.int .u64 (pn : Int)) := HPz.out.box.cell 5; have q6 : w4.cell? ⟨w.heap.size, 6, none⟩ = some (.int .i64 (k : Int)) := HPz.out.box.cell 6)
        | (refine step_app_sv rfl (.tmp 24) (.tmp 29) 23 rfl (w.heap.size + 1) 5 i0 _ 1 Tryd.underlying23 hi0 hz0 hz1 hz2 rfl v4 _ _ rfl HPz.out.own _ Al (be pn k).length _ ((be pn k).map cell8) rfl HSz.out (by simp) (cell8_one _) (by unfold maxLen; simp; omega) (by simp; omega) HPz.out.hBw ?_; intro v5 w5 hown5 hg5; have HP5 := Lib.hid (HPz.out.app (d := be pn k) hown5 rfl hg5); have q1 : w5.cell? ⟨w.heap.size, 1, none⟩ = some (.slice A1 dst.length c1) := HP5.out.box.cell 1; have q5 : w5.cell? ⟨w.heap.size, 5, none⟩ = some (.int .u64 (pn : Int)) := HP5.out.box.cell 5; have q6 : w5.cell? ⟨w.heap.size, 6, none⟩ = some (.int .i64 (k : Int)) := HP5.out.box.cell 6))
    all_goals
      go_wp2
      have hpd := HP5.out
      have hhd : HD = [UInt8.ofNat (63 + k + 4)] ++ dst ++ be pn k := by rw [HH.out]; simp
      rw [← hhd] at hpd
      obtain ⟨Ad, cd, rfl, p1, p2⟩ := own_form hpd.own
      go_ret
      exact ⟨Ad, cd, rfl, p1, p2, hown_base hpd.own (Nat.le_succ _), HB0.out.trans (hpd.bel.mono (Nat.le_succ _))⟩
end

section
open Go.RowKit
set_option linter.unusedVariables false

theorem refput_any (sp k n pn : Nat) (dst src tok : List UInt8) (ph : Bool) (A1 : Option Addr) (c1 : Nat) (A2 : Option Addr) (c2 : Nat) (A3 : Option Addr) (c3 : Nat) (w : World)
    (hm : mayB sp dst.length src.length tok.length ph (pn : Int) (k : Int) = true) (hn : n ≤ 65536) (h1 : Sl w w.heap.size A1 dst) (h2 : Sl w w.heap.size A2 src) (h3 : Sl w w.heap.size A3 tok) (ht : tok.length ≤ 3000) :
    Calls Tryd.prog 39 #[.agg (headC sp A1 dst.length c1 A2 src.length c2 A3 tok.length c3 ph (pn : Int) (k : Int)), .int .i64 (n : Int)] w (Gave w (headB sp k dst src tok ph pn n) fun v => v) := by
  obtain ⟨f1, f2, f3, f4, f5, f6, f7, f8, f9⟩ := may_facts hm
  by_cases hs : sp = 2
  · subst hs
    obtain ⟨hl2, hl3⟩ := f7 rfl
    obtain rfl := List.eq_nil_of_length_eq_zero hl2
    obtain rfl := List.eq_nil_of_length_eq_zero hl3
    exact refput_short k n pn dst ph A1 c1 A2 c2 A3 c3 w (by omega) (by omega) h1 f1
  · obtain rfl := f9 hs
    exact refput_long sp k n pn dst src tok A1 c1 A2 c2 A3 c3 w (by omega) (by omega) hn (by omega) h1 h2 h3 f1 f2 ht (fun h => List.eq_nil_of_length_eq_zero (f8 h))
end
end Go.Proofs.YtblclinfcdalaaaDoor
