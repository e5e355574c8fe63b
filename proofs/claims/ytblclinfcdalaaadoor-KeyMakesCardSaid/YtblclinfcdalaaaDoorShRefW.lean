/-
  The document's own words of a block (hostlerref06).
-/
import Derived.WalkSpells
import Derived.WalkLawsBesides
import Derived.Deep.QuietTactic
import Derived.BigQuiet
import Derived.Deep.DeepCutAuto
import Derived.Test.YtblclinfcdalaaaDoorStep
import Derived.Test.YtblclinfcdalaaaDoorShRefT
import Derived.Test.YtblclinfcdalaaaDoorShRefM
namespace Go.Proofs.YtblclinfcdalaaaDoor
open Go.RowKit
set_option linter.unusedVariables false

theorem info32 : (Tryd.prog.info? 130).map (fun i => (i.zero, i.size, i.bytes)) = some (some (.int .u32 0), 1, 4) := by kernel_rfl

/-- Words in memory of their own. -/
def GaveW (w : World) (l : List W32) (e : Ending) (w' : World) : Prop :=
  ∃ A' c', e = .returned (.slice A' l.length c') ∧ l.length ≤ c' ∧ c' ≤ maxLen ∧ w'.ownsRow w.heap.size 130 1 (.slice A' l.length c') l.length (l.map cw) ∧ Below w.heap.size w w'

theorem cw_one (l : List W32) : ∀ u ∈ l.map cw, u.oneCell' = true := by
  intro u hu
  obtain ⟨_, _, rfl⟩ := List.mem_map.1 hu
  rfl

set_option maxRecDepth 100000 in
set_option maxHeartbeats 800000 in
theorem words_any (A : Option Addr) (c B : Nat) (bs : List UInt8) (w : World) (hB : B ≤ w.heap.size) (hl : bs.length = 64) (hs : Sl w B A bs) (hc : 64 ≤ c) (hcm : c ≤ maxLen) :
    Calls Tryd.prog 93 #[.slice A 64 c] w (GaveW w (wsW bs)) := by
  obtain ⟨i0, hi0, hz0, hz1, hz2⟩ := info_parts info32
  obtain ⟨b, off, rfl, hbB, hcell⟩ := Sl.at_ hs (by omega)
  have HC := Lib.hid hcell
  have HL := Lib.hid hl
  unfold maxLen at hcm
  have HMN := Deep.mk (mW_len bs)
  clear hs hcell hl
  go_enter Tryd.func93, Tryd.ntmps93
  go_wp2
  go_loopw [3, 4] (fun v i wr => ∃ t : Nat, t ≤ 16 ∧ i = .int .i64 (t : Int) ∧ Hid (wr.ownsRow w.heap.size 130 1 v t (((mW bs).take t).map cw)) ∧ Hid (Below w.heap.size w wr)) (fun _ i _ => 16 - (intOf i).toNat)
  case atStart => exact ⟨0, by omega, rfl, Lib.hid (World.ownsRow_nil _ _ _ 1), Lib.hid (Below.refl _ _)⟩
  case round =>
    obtain ⟨t, ht, rfl, HO, HB⟩ := hrel
    by_cases hlt : t < 16
    · have hw : ∀ j, j < 4 → w.cell? ⟨b, off + (4 * t + j), none⟩ = some (.int .u8 ((bs.getD (4 * t + j) 0).toNat : Int)) := by
        intro j hj
        have h1 : 4 * t + j < bs.length := by rw [HL.out]; omega
        exact HC.out _ _ (by simp [List.getD, h1])
      have k0 := hw 0 (by omega)
      have k1 := hw 1 (by omega)
      have k2 := hw 2 (by omega)
      have k3 := hw 3 (by omega)
      have hx : ∀ j, j < 4 → wr.cell? ⟨b, off + (4 * t + j), none⟩ = some (.int .u8 ((bs.getD (4 * t + j) 0).toNat : Int)) := by
        intro j hj
        have h1 : 4 * t + j < bs.length := by rw [HL.out]; omega
        rw [HB.out.cell (p := ⟨b, off + (4 * t + j), none⟩) (by show b < _; omega)]
        exact HC.out _ _ (by simp [List.getD, h1])
      have h0 := hx 0 (by omega)
      have h1 := hx 1 (by omega)
      have h2 := hx 2 (by omega)
      have h3 := hx 3 (by omega)
      have hw4 := mW_at bs t hlt
      rw [Nat.add_zero] at h0 k0
      generalize bs.getD (4 * t) 0 = b0 at *
      generalize bs.getD (4 * t + 1) 0 = b1 at *
      generalize bs.getD (4 * t + 2) 0 = b2 at *
      generalize bs.getD (4 * t + 3) 0 = b3 at *
      have HW4 := Deep.mk hw4
      have K0 := Deep.mk k0
      have K1 := Deep.mk k1
      have K2 := Deep.mk k2
      have K3 := Deep.mk k3
      clear k0 k1 k2 k3 hw
      have l0 := b0.toNat_lt
      have l1 := b1.toNat_lt
      have l2 := b2.toNat_lt
      have l3 := b3.toNat_lt
      have hown := HO.out
      have hbz := HB.out.size
      clear hx hw4
      go_wp2
      have w0 : IntKind.i64.wrap (4 * (t : Int)) = 4 * (t : Int) := IntWalk.i64_in _ (by omega)
      have w1 : IntKind.i64.wrap (4 * (t : Int) + 1) = 4 * (t : Int) + 1 := IntWalk.i64_in _ (by omega)
      have w2 : IntKind.i64.wrap (4 * (t : Int) + 2) = 4 * (t : Int) + 2 := IntWalk.i64_in _ (by omega)
      have w3 : IntKind.i64.wrap (4 * (t : Int) + 3) = 4 * (t : Int) + 3 := IntWalk.i64_in _ (by omega)
      have p0 : (0 : Int) ≤ 4 * (t : Int) := by omega
      have p1 : (0 : Int) ≤ 4 * (t : Int) + 1 := by omega
      have p2 : (0 : Int) ≤ 4 * (t : Int) + 2 := by omega
      have p3 : (0 : Int) ≤ 4 * (t : Int) + 3 := by omega
      have q0 : 4 * (t : Int) < 64 := by omega
      have q1 : 4 * (t : Int) + 1 < 64 := by omega
      have q2 : 4 * (t : Int) + 2 < 64 := by omega
      have q3 : 4 * (t : Int) + 3 < 64 := by omega
      have n0 : (4 * (t : Int)).toNat = 4 * t := by omega
      have n1 : (4 * (t : Int) + 1).toNat = 4 * t + 1 := by omega
      have n2 : (4 * (t : Int) + 2).toNat = 4 * t + 2 := by omega
      have n3 : (4 * (t : Int) + 3).toNat = 4 * t + 3 := by omega
      go_region_held3 (fun w' => w'.cell? ⟨b, off + 4 * t, none⟩ = some (.int .u8 (b0.toNat : Int)) ∧ w'.cell? ⟨b, off + (4 * t + 1), none⟩ = some (.int .u8 (b1.toNat : Int)) ∧ w'.cell? ⟨b, off + (4 * t + 2), none⟩ = some (.int .u8 (b2.toNat : Int)) ∧ w'.cell? ⟨b, off + (4 * t + 3), none⟩ = some (.int .u8 (b3.toNat : Int))) (go_keep)
        (first
          | (refine step_app_sv rfl (.tmp 12) (.tmp 46) 127 rfl w.heap.size 130 i0 _ 4 Tryd.underlying127 hi0 hz0 hz1 hz2 rfl u3 _ _ rfl (hown.alloc _) _ _ 1 1 _ rfl (sv_new _ _ _) rfl (fun u hu => by simp at hu; subst hu; rfl) (by unfold maxLen; omega) (by omega) (by simp; omega) ?_; intro v1 w9 hown1 hg1; have hb9 : Below w.heap.size w w9 := (HB.out.alloc hbz _).drew.grown hg1 (by simp; omega) (fun q hq => (HO.out.lt q hq).1); have g0 := (hb9.cell (p := ⟨b, off + 4 * t, none⟩) (by show b < _; omega)).trans K0.out; have g1 := (hb9.cell (p := ⟨b, off + (4 * t + 1), none⟩) (by show b < _; omega)).trans K1.out; have g2 := (hb9.cell (p := ⟨b, off + (4 * t + 2), none⟩) (by show b < _; omega)).trans K2.out; have g3 := (hb9.cell (p := ⟨b, off + (4 * t + 3), none⟩) (by show b < _; omega)).trans K3.out))
      clear w0 w1 w2 w3 p0 p1 p2 p3 q0 q1 q2 q3 n0 n1 n2 n3 g0 g1 g2 g3 h0 h1 h2 h3 hg1
      have HO9 : Hid (w9.ownsRow w.heap.size 130 1 v1 (t + 1) (((mW bs).take (t + 1)).map cw)) := by
        rw [wi_word4, ← HW4.out] at hown1
        rw [take_one (mW bs) t 0 (by rw [HMN.out]; exact hlt), List.map_append]
        exact Lib.hid hown1
      have HB9 := Lib.hid hb9
      clear hown1 hb9 hown hbz
      go_wp2
      go_roundw
      case rel => exact ⟨t + 1, by omega, by go_num, HO9, HB9⟩
      case measure => simp [intOf]; omega
    · have hkd : decide ((t : Int) < 16) = false := by rw [decide_eq_false_iff_not]; omega
      have HO1 : Hid (wr.ownsRow w.heap.size 130 1 u3 16 ((schW (mW bs) 0).map cw)) := by
        have h := HO.out
        rw [show t = 16 by omega, List.take_of_length_le (by rw [HMN.out]; exact Nat.le_refl _)] at h
        exact Lib.hid h
      clear HO hlt ht
      go_wp2
      generalize wr = w1 at *
      go_loopw [3, 5, 6, 7] (fun v i _ _ wr => ∃ t : Nat, 16 ≤ t ∧ t ≤ 64 ∧ i = .int .i64 (t : Int) ∧ Hid (wr.ownsRow w.heap.size 130 1 v t ((schW (mW bs) (t - 16)).map cw)) ∧ Hid (Below w.heap.size w wr)) (fun _ i _ _ _ => 64 - (intOf i).toNat)
      case atStart => exact ⟨16, by omega, by omega, rfl, HO1, HB⟩
      case round =>
        obtain ⟨t, ht1, ht2, rfl, HO2, HB2⟩ := hrel
        clear HO1 HB hkd
        by_cases htl : t < 64
        · obtain ⟨l, hl⟩ : ∃ l, l = schW (mW bs) (t - 16) := ⟨_, rfl⟩
          rw [← hl] at HO2
          have hll : l.length = t := by rw [hl, schW_len, HMN.out]; omega
          have HLL := Deep.mk hll
          have HLD := Deep.mk hl
          obtain ⟨g, cap, rfl, hbg, hgl⟩ := HO2.out.form (by omega)
          have cell : ∀ j, j < t → wr.cell? ⟨g, j, none⟩ = some (.int .u32 (wi (l.getD j 0))) := by
            intro j hj
            have hjl : j < l.length := by rw [hll]; exact hj
            have h := HO2.out.cells (g := g) rfl j (.int .u32 (wi (l.getD j 0))) (by simp [List.getD, hjl, cw])
            rw [Addr.add_lit, Nat.zero_add] at h
            exact h
          have c15 := cell (t - 15) (by omega)
          have c2 := cell (t - 2) (by omega)
          have c16 := cell (t - 16) (by omega)
          have c7 := cell (t - 7) (by omega)
          clear cell hl hll
          generalize h15 : l.getD (t - 15) 0 = x15 at *
          generalize h2 : l.getD (t - 2) 0 = x2 at *
          generalize h16 : l.getD (t - 16) 0 = x16 at *
          generalize h7 : l.getD (t - 7) 0 = x7 at *
          have H15 := Deep.mk h15
          have H2' := Deep.mk h2
          have H16 := Deep.mk h16
          have H7 := Deep.mk h7
          clear h15 h2 h16 h7
          go_wp2
          have e1 : IntKind.i64.wrap ((t : Int) - 15) = (t : Int) - 15 := IntWalk.i64_in _ (by omega)
          have e5 : (0 : Int) ≤ (t : Int) - 15 := by omega
          have e6 : (15 : Int) ≤ (t : Int) := by omega
          have e7 : (t : Int) - 15 < (t : Int) := by omega
          have e3 : ((t : Int) - 15).toNat = t - 15 := by omega
          go_quiet ((first
            | (go_at_call 94; exact Calls.quiet_of_same ((turn_i _ _ _ (by decide) (by decide)).mono fun _ _ h => ⟨h.1, h.2.symm⟩))
            | (go_at_call 95; exact Calls.quiet_of_same ((shift_i _ _ _ (by decide) (by decide)).mono fun _ _ h => ⟨h.1, h.2.symm⟩))))
          rw [show bits BinOp.xor IntKind.u32 (bits BinOp.xor IntKind.u32 (wi (rr x15 7)) (wi (rr x15 18))) (wi (sr x15 3)) = wi (sig0 x15) by rw [wi_xor, wi_xor]; rfl]
          clear e1 e5 e6 e7 e3 c15
          have c7' : (wr.drewN nq).cell? ⟨g, t - 7, none⟩ = some (.int .u32 (wi x7)) := by simpa using c7
          have c16' : (wr.drewN nq).cell? ⟨g, t - 16, none⟩ = some (.int .u32 (wi x16)) := by simpa using c16
          have c2' : (wr.drewN nq).cell? ⟨g, t - 2, none⟩ = some (.int .u32 (wi x2)) := by simpa using c2
          have HB3 := Lib.hid (below_drewN HB2.out nq)
          have HO3 := Lib.hid (own_below HO2.out (below_drewN (Below.refl _ _) nq))
          clear c7 c16 c2 HB2 HO2
          generalize wr.drewN nq = w3 at *
          clear nq
          go_wp2
          have e1 : IntKind.i64.wrap ((t : Int) - 2) = (t : Int) - 2 := IntWalk.i64_in _ (by omega)
          have e5 : (0 : Int) ≤ (t : Int) - 2 := by omega
          have e6 : (2 : Int) ≤ (t : Int) := by omega
          have e7 : (t : Int) - 2 < (t : Int) := by omega
          have e3 : ((t : Int) - 2).toNat = t - 2 := by omega
          go_quiet ((first
            | (go_at_call 94; exact Calls.quiet_of_same ((turn_i _ _ _ (by decide) (by decide)).mono fun _ _ h => ⟨h.1, h.2.symm⟩))
            | (go_at_call 95; exact Calls.quiet_of_same ((shift_i _ _ _ (by decide) (by decide)).mono fun _ _ h => ⟨h.1, h.2.symm⟩))))
          rw [show bits BinOp.xor IntKind.u32 (bits BinOp.xor IntKind.u32 (wi (rr x2 17)) (wi (rr x2 19))) (wi (sr x2 10)) = wi (sig1 x2) by rw [wi_xor, wi_xor]; rfl]
          clear e1 e5 e6 e7 e3 c2'
          have c7 : (w3.drewN nq).cell? ⟨g, t - 7, none⟩ = some (.int .u32 (wi x7)) := by simpa using c7'
          have c16 : (w3.drewN nq).cell? ⟨g, t - 16, none⟩ = some (.int .u32 (wi x16)) := by simpa using c16'
          have HB4 := Lib.hid (below_drewN HB3.out nq)
          have HO4 := Lib.hid (own_below HO3.out (below_drewN (Below.refl _ _) nq))
          clear c7' c16' HB3 HO3
          generalize w3.drewN nq = w4 at *
          go_wp2
          have hown := HO4.out
          have hbz := HB4.out.size
          have e1 : IntKind.i64.wrap ((t : Int) - 16) = (t : Int) - 16 := IntWalk.i64_in _ (by omega)
          have e2 : IntKind.i64.wrap ((t : Int) - 7) = (t : Int) - 7 := IntWalk.i64_in _ (by omega)
          have f1 : (16 : Int) ≤ (t : Int) := by omega
          have f2 : (7 : Int) ≤ (t : Int) := by omega
          have f3 : (0 : Int) ≤ (t : Int) - 16 := by omega
          have f4 : (0 : Int) ≤ (t : Int) - 7 := by omega
          have f5 : (t : Int) - 16 < (t : Int) := by omega
          have f6 : (t : Int) - 7 < (t : Int) := by omega
          have f7 : ((t : Int) - 16).toNat = t - 16 := by omega
          have f8 : ((t : Int) - 7).toNat = t - 7 := by omega
          go_region_law
            (first
              | (refine step_app_sv rfl (.tmp 92) (.tmp 108) 127 rfl w.heap.size 130 i0 _ 4 Tryd.underlying127 hi0 hz0 hz1 hz2 rfl (.slice (some ⟨g, 0, none⟩) t cap) _ _ rfl (hown.alloc _) _ _ 1 1 _ rfl (sv_new _ _ _) rfl (fun u hu => by simp at hu; subst hu; rfl) (by unfold maxLen; omega) (by omega) (by simp; omega) ?_; intro v1 w9 hown1 hg1; have hb9 : Below w.heap.size w w9 := (HB4.out.alloc hbz _).drew.grown hg1 (by simp; omega) (fun q hq => (HO4.out.lt q hq).1)))
          all_goals
            clear e1 e2 f1 f2 f3 f4 f5 f6 f7 f8 c7 c16 hg1 hown hbz
            have HO9 : Hid (w9.ownsRow w.heap.size 130 1 v1 (t + 1) ((schW (mW bs) (t + 1 - 16)).map cw)) := by
              rw [wi_add, wi_add, wi_add] at hown1
              rw [show t + 1 - 16 = (t - 16) + 1 by omega, schW, ← HLD.out, List.map_append, nextW, HLL.out, H16.out, H15.out, H7.out, H2'.out]
              exact Lib.hid hown1
            have HB9 := Lib.hid hb9
            clear hown1 hb9 HO4 HB4
            go_wp2
            go_roundw
            case rel => exact ⟨t + 1, by omega, by omega, by go_num, HO9, HB9⟩
            case measure => simp [intOf]; omega
        · have hkd : decide ((t : Int) < 64) = false := by rw [decide_eq_false_iff_not]; omega
          obtain ⟨A, c2, rfl, h1, h2⟩ := own_form HO2.out
          have HO9 : Hid (wr.ownsRow w.heap.size 130 1 (.slice A 64 c2) 64 ((wsW bs).map cw)) := by
            have h := HO2.out
            rw [show t = 64 by omega] at h
            exact Lib.hid h
          have h64 : Deep (t = 64) := ⟨by omega⟩
          have H1 := Lib.hid h1
          have H2 := Lib.hid h2
          clear HO2 htl ht1 ht2 h1 h2
          go_wp2
          go_ret
          have hw := wsW_len bs
          have hret : Ending.returned (.slice A t c2) = Ending.returned (.slice A 64 c2) := by rw [h64.out]
          refine ⟨A, c2, by rw [hw]; exact hret, by rw [hw, ← h64.out]; exact H1.out, H2.out, by rw [hw]; exact HO9.out, HB2.out⟩
end Go.Proofs.YtblclinfcdalaaaDoor
