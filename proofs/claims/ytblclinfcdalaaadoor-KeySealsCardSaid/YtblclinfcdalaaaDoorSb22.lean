/-
  Plain mathematics for the document's own words of a block. No program is named here.
  The document's own words of a block (hostlerref06).
  The document's own First, Constants, blocks, Join, Great (hostlerref06).
-/
import Derived.Test.YtblclinfcdalaaaDoorSb0
import Derived.WalkSpells
import Derived.WalkLawsBesides
import Derived.Deep.QuietTactic
import Derived.BigQuiet
import Derived.Deep.DeepCutAuto
import Derived.Test.YtblclinfcdalaaaDoorSb2
import Derived.Test.YtblclinfcdalaaaDoorSb21
import Derived.Test.YtblclinfcdalaaaDoorSb7
import Derived.Test.YtblclinfcdalaaaDoorSb1
namespace Go.Proofs.YtblclinfcdalaaaDoor
section
open Go.RowKit
set_option linter.unusedVariables false

/-- A word behind r of its bytes. -/
def partW (bs : List UInt8) (j : Nat) : Nat → W32
  | 0 => 0
  | r + 1 => inB (partW bs j r) (bs.getD (4 * j + r) 0)

theorem ldW_at (bs : List UInt8) (j : Nat) (hj : j < 16) (k : Nat) (hk : k ≤ 64) : (ldW bs k).getD j 0 = partW bs j (min (k - 4 * j) 4) := by
  induction k with
  | zero =>
    rw [Nat.zero_sub, show min 0 4 = 0 from rfl, partW, ldW, List.getD_eq_getElem?_getD, List.getElem?_replicate]
    split <;> rfl
  | succ k ih =>
    have ih := ih (by omega)
    have hl := ldW_len bs k
    rw [ldW]
    by_cases h : k / 4 = j
    · subst h
      have e : (List.set (ldW bs k) (k / 4) (inB ((ldW bs k).getD (k / 4) 0) (bs.getD k 0))).getD (k / 4) 0 = inB ((ldW bs k).getD (k / 4) 0) (bs.getD k 0) := by
        have : k / 4 < (ldW bs k).length := by omega
        simp [List.getD, this]
      rw [e, ih]
      rw [show min (k + 1 - 4 * (k / 4)) 4 = min (k - 4 * (k / 4)) 4 + 1 by omega, partW, show 4 * (k / 4) + min (k - 4 * (k / 4)) 4 = k by omega]
    · have e : (List.set (ldW bs k) (k / 4) (inB ((ldW bs k).getD (k / 4) 0) (bs.getD k 0))).getD j 0 = (ldW bs k).getD j 0 := by
        simp [List.getD, h]
      rw [e, ih]
      congr 1
      omega

theorem mW_at (bs : List UInt8) (j : Nat) (hj : j < 16) : (mW bs).getD j 0 = inB (inB (inB (inB 0 (bs.getD (4 * j) 0)) (bs.getD (4 * j + 1) 0)) (bs.getD (4 * j + 2) 0)) (bs.getD (4 * j + 3) 0) := by
  have h := ldW_at bs j hj 64 (Nat.le_refl _)
  have e : (mW bs).getD j 0 = (ldW bs 64).getD j 0 := by
    unfold mW
    simp [List.getD, hj]
  rw [e, h, show min (64 - 4 * j) 4 = 4 by omega]
  rfl

theorem wi_inB_small (x : W32) (b : UInt8) (h : wi x < 16777216) : wi (inB x b) = wi x * 256 + (b.toNat : Int) := by
  have hb := b.toNat_lt
  unfold wi inB at *
  rw [BitVec.toNat_or, BitVec.toNat_shiftLeft, BitVec.toNat_ofNat, Nat.shiftLeft_eq, Nat.mod_eq_of_lt (by omega : x.toNat * 2 ^ 8 < 2 ^ 32), Nat.mod_eq_of_lt (by omega : b.toNat < 2 ^ 32)]
  rw [nat_join 8 (x.toNat * 2 ^ 8) b.toNat (Nat.mul_mod_left _ _) hb]
  omega

theorem wi_inB4 (b0 b1 b2 b3 : UInt8) : wi (inB (inB (inB (inB 0 b0) b1) b2) b3) = (((b0.toNat : Int) * 256 + (b1.toNat : Int)) * 256 + (b2.toNat : Int)) * 256 + (b3.toNat : Int) := by
  have h0 := b0.toNat_lt
  have h1 := b1.toNat_lt
  have h2 := b2.toNat_lt
  have z : wi 0 = 0 := rfl
  have e0 := wi_inB_small 0 b0 (by rw [z]; decide)
  have e1 := wi_inB_small (inB 0 b0) b1 (by rw [e0, z]; omega)
  have e2 := wi_inB_small (inB (inB 0 b0) b1) b2 (by rw [e1, e0, z]; omega)
  have e3 := wi_inB_small (inB (inB (inB 0 b0) b1) b2) b3 (by rw [e2, e1, e0, z]; omega)
  rw [e3, e2, e1, e0, z]
  omega

theorem wi_word4 (b0 b1 b2 b3 : UInt8) : IntKind.u32.wrap (IntKind.u32.wrap (IntKind.u32.wrap (IntKind.u32.wrap (IntKind.u32.wrap (IntKind.u32.wrap (IntKind.u32.wrap (b0.toNat : Int) * 256) + IntKind.u32.wrap (b1.toNat : Int)) * 256) + IntKind.u32.wrap (b2.toNat : Int)) * 256) + IntKind.u32.wrap (b3.toNat : Int)) = wi (inB (inB (inB (inB 0 b0) b1) b2) b3) := by
  have h0 := b0.toNat_lt
  have h1 := b1.toNat_lt
  have h2 := b2.toNat_lt
  have h3 := b3.toNat_lt
  rw [wi_inB4]
  simp only [IntKind.wrap_u32']
  omega

theorem take_one {α : Type} (l : List α) (n : Nat) (d : α) (h : n < l.length) : l.take (n + 1) = l.take n ++ [l.getD n d] := by
  rw [List.take_succ_eq_append_getElem h]
  simp [List.getD, h]
end

section
open Go.RowKit
set_option linter.unusedVariables false

theorem info32 : (Tryd.prog.info? 130).map (fun i => (i.zero, i.size, i.bytes)) = some (some (.int .u32 0), 1, 4) := by kernel_rfl

/-- Words in memory of their own. -/
def GaveW (w : World) (l : List W32) (e : Ending) (w' : World) : Prop :=
  ∃ A' c', e = .returned (.slice A' l.length c') ∧ l.length ≤ c' ∧ c' ≤ maxLen ∧ w'.ownsRow w.heap.size 130 1 (.slice A' l.length c') l.length (l.map cw) ∧ Below w.heap.size w w'

theorem cw_one (l : List W32) : ∀ u ∈ l.map cw, u.oneCell' = true := by
  intro u hu
  obtain ⟨_, _, rfl⟩ := List.mem_map.1 hu
  rfl

set_option maxRecDepth 100000 in
set_option maxHeartbeats 800000 in
theorem words_any (A : Option Addr) (c B : Nat) (bs : List UInt8) (w : World) (hB : B ≤ w.heap.size) (hl : bs.length = 64) (hs : Sl w B A bs) (hc : 64 ≤ c) (hcm : c ≤ maxLen) :
    Calls Tryd.prog 93 #[.slice A 64 c] w (GaveW w (wsW bs)) := by
  obtain ⟨i0, hi0, hz0, hz1, hz2⟩ := info_parts info32
  obtain ⟨b, off, rfl, hbB, hcell⟩ := Sl.at_ hs (by omega)
  have HC := Lib.hid hcell
  have HL := Lib.hid hl
  unfold maxLen at hcm
  have HMN := Deep.mk (mW_len bs)
  clear hs hcell hl
  go_enter Tryd.func93, Tryd.ntmps93
  go_wp2
  go_loopw [3, 4] (fun v i wr => ∃ t : Nat, t ≤ 16 ∧ i = .int .i64 (t : Int) ∧ Hid (wr.ownsRow w.heap.size 130 1 v t (((mW bs).take t).map cw)) ∧ Hid (Below w.heap.size w wr)) (fun _ i _ => 16 - (intOf i).toNat)
  case atStart => exact ⟨0, by omega, rfl, Lib.hid (World.ownsRow_nil _ _ _ 1), Lib.hid (Below.refl _ _)⟩
  case round =>
    obtain ⟨t, ht, rfl, HO, HB⟩ := hrel
    by_cases hlt : t < 16
    · have hw : ∀ j, j < 4 → w.cell? ⟨b, off + (4 * t + j), none⟩ = some (.int .u8 ((bs.getD (4 * t + j) 0).toNat : Int)) := by
        intro j hj
        have h1 : 4 * t + j < bs.length := by rw [HL.out]; omega
        exact HC.out _ _ (by simp [List.getD, h1])
      have k0 := hw 0 (by omega)
      have k1 := hw 1 (by omega)
      have k2 := hw 2 (by omega)
      have k3 := hw 3 (by omega)
      have hx : ∀ j, j < 4 → wr.cell? ⟨b, off + (4 * t + j), none⟩ = some (.int .u8 ((bs.getD (4 * t + j) 0).toNat : Int)) := by
        intro j hj
        have h1 : 4 * t + j < bs.length := by rw [HL.out]; omega
        rw [HB.out.cell (p := ⟨b, off + (4 * t + j), none⟩) (by show b < _; omega)]
        exact HC.out _ _ (by simp [List.getD, h1])
      have h0 := hx 0 (by omega)
      have h1 := hx 1 (by omega)
      have h2 := hx 2 (by omega)
      have h3 := hx 3 (by omega)
      have hw4 := mW_at bs t hlt
      rw [Nat.add_zero] at h0 k0
      generalize bs.getD (4 * t) 0 = b0 at *
      generalize bs.getD (4 * t + 1) 0 = b1 at *
      generalize bs.getD (4 * t + 2) 0 = b2 at *
      generalize bs.getD (4 * t + 3) 0 = b3 at *
      have HW4 := Deep.mk hw4
      have K0 := Deep.mk k0
      have K1 := Deep.mk k1
      have K2 := Deep.mk k2
      have K3 := Deep.mk k3
      clear k0 k1 k2 k3 hw
      have l0 := b0.toNat_lt
      have l1 := b1.toNat_lt
      have l2 := b2.toNat_lt
      have l3 := b3.toNat_lt
      have hown := HO.out
      have hbz := HB.out.size
      clear hx hw4
      go_wp2
      have w0 : IntKind.i64.wrap (4 * (t : Int)) = 4 * (t : Int) := IntWalk.i64_in _ (by omega)
      have w1 : IntKind.i64.wrap (4 * (t : Int) + 1) = 4 * (t : Int) + 1 := IntWalk.i64_in _ (by omega)
      have w2 : IntKind.i64.wrap (4 * (t : Int) + 2) = 4 * (t : Int) + 2 := IntWalk.i64_in _ (by omega)
      have w3 : IntKind.i64.wrap (4 * (t : Int) + 3) = 4 * (t : Int) + 3 := IntWalk.i64_in _ (by omega)
      have p0 : (0 : Int) ≤ 4 * (t : Int) := by omega
      have p1 : (0 : Int) ≤ 4 * (t : Int) + 1 := by omega
      have p2 : (0 : Int) ≤ 4 * (t : Int) + 2 := by omega
      have p3 : (0 : Int) ≤ 4 * (t : Int) + 3 := by omega
      have q0 : 4 * (t : Int) < 64 := by omega
      have q1 : 4 * (t : Int) + 1 < 64 := by omega
      have q2 : 4 * (t : Int) + 2 < 64 := by omega
      have q3 : 4 * (t : Int) + 3 < 64 := by omega
      have n0 : (4 * (t : Int)).toNat = 4 * t := by omega
      have n1 : (4 * (t : Int) + 1).toNat = 4 * t + 1 := by omega
      have n2 : (4 * (t : Int) + 2).toNat = 4 * t + 2 := by omega
      have n3 : (4 * (t : Int) + 3).toNat = 4 * t + 3 := by omega
      go_region_held3 (fun w' => w'.cell? ⟨b, off + 4 * t, none⟩ = some (.int .u8 (b0.toNat : Int)) ∧ w'.cell? ⟨b, off + (4 * t + 1), none⟩ = some (.int .u8 (b1.toNat : Int)) ∧ w'.cell? ⟨b, off + (4 * t + 2), none⟩ = some (.int .u8 (b2.toNat : Int)) ∧ w'.cell? ⟨b, off + (4 * t + 3), none⟩ = some (.int .u8 (b3.toNat : Int))) (go_keep)
        (first
          | (refine step_app_sv rfl (.tmp 12) (.tmp 46) 127 rfl w.heap.size 130 i0 _ 4 Tryd.underlying127 hi0 hz0 hz1 hz2 rfl u3 _ _ rfl (hown.alloc _) _ _ 1 1 _ rfl (sv_new _ _ _) rfl (fun u hu => by simp at hu; subst hu; rfl) (by unfold maxLen; omega) (by omega) (by simp; omega) ?_; intro v1 w9 hown1 hg1; have hb9 : Below w.heap.size w w9 := (HB.out.alloc hbz _).drew.grown hg1 (by simp; omega) (fun q hq => (HO.out.lt q hq).1); have g0 := (hb9.cell (p := ⟨b, off + 4 * t, none⟩) (by show b < _; omega)).trans K0.out; have g1 := (hb9.cell (p := ⟨b, off + (4 * t + 1), none⟩) (by show b < _; omega)).trans K1.out; have g2 := (hb9.cell (p := ⟨b, off + (4 * t + 2), none⟩) (by show b < _; omega)).trans K2.out; have g3 := (hb9.cell (p := ⟨b, off + (4 * t + 3), none⟩) (by show b < _; omega)).trans K3.out))
      clear w0 w1 w2 w3 p0 p1 p2 p3 q0 q1 q2 q3 n0 n1 n2 n3 g0 g1 g2 g3 h0 h1 h2 h3 hg1
      have HO9 : Hid (w9.ownsRow w.heap.size 130 1 v1 (t + 1) (((mW bs).take (t + 1)).map cw)) := by
        rw [wi_word4, ← HW4.out] at hown1
        rw [take_one (mW bs) t 0 (by rw [HMN.out]; exact hlt), List.map_append]
        exact Lib.hid hown1
      have HB9 := Lib.hid hb9
      clear hown1 hb9 hown hbz
      go_wp2
      go_roundw
      case rel => exact ⟨t + 1, by omega, by go_num, HO9, HB9⟩
      case measure => simp [intOf]; omega
    · have hkd : decide ((t : Int) < 16) = false := by rw [decide_eq_false_iff_not]; omega
      have HO1 : Hid (wr.ownsRow w.heap.size 130 1 u3 16 ((schW (mW bs) 0).map cw)) := by
        have h := HO.out
        rw [show t = 16 by omega, List.take_of_length_le (by rw [HMN.out]; exact Nat.le_refl _)] at h
        exact Lib.hid h
      clear HO hlt ht
      go_wp2
      generalize wr = w1 at *
      go_loopw [3, 5, 6, 7] (fun v i _ _ wr => ∃ t : Nat, 16 ≤ t ∧ t ≤ 64 ∧ i = .int .i64 (t : Int) ∧ Hid (wr.ownsRow w.heap.size 130 1 v t ((schW (mW bs) (t - 16)).map cw)) ∧ Hid (Below w.heap.size w wr)) (fun _ i _ _ _ => 64 - (intOf i).toNat)
      case atStart => exact ⟨16, by omega, by omega, rfl, HO1, HB⟩
      case round =>
        obtain ⟨t, ht1, ht2, rfl, HO2, HB2⟩ := hrel
        clear HO1 HB hkd
        by_cases htl : t < 64
        · obtain ⟨l, hl⟩ : ∃ l, l = schW (mW bs) (t - 16) := ⟨_, rfl⟩
          rw [← hl] at HO2
          have hll : l.length = t := by rw [hl, schW_len, HMN.out]; omega
          have HLL := Deep.mk hll
          have HLD := Deep.mk hl
          obtain ⟨g, cap, rfl, hbg, hgl⟩ := HO2.out.form (by omega)
          have cell : ∀ j, j < t → wr.cell? ⟨g, j, none⟩ = some (.int .u32 (wi (l.getD j 0))) := by
            intro j hj
            have hjl : j < l.length := by rw [hll]; exact hj
            have h := HO2.out.cells (g := g) rfl j (.int .u32 (wi (l.getD j 0))) (by simp [List.getD, hjl, cw])
            rw [Addr.add_lit, Nat.zero_add] at h
            exact h
          have c15 := cell (t - 15) (by omega)
          have c2 := cell (t - 2) (by omega)
          have c16 := cell (t - 16) (by omega)
          have c7 := cell (t - 7) (by omega)
          clear cell hl hll
          generalize h15 : l.getD (t - 15) 0 = x15 at *
          generalize h2 : l.getD (t - 2) 0 = x2 at *
          generalize h16 : l.getD (t - 16) 0 = x16 at *
          generalize h7 : l.getD (t - 7) 0 = x7 at *
          have H15 := Deep.mk h15
          have H2' := Deep.mk h2
          have H16 := Deep.mk h16
          have H7 := Deep.mk h7
          clear h15 h2 h16 h7
          go_wp2
          have e1 : IntKind.i64.wrap ((t : Int) - 15) = (t : Int) - 15 := IntWalk.i64_in _ (by omega)
          have e5 : (0 : Int) ≤ (t : Int) - 15 := by omega
          have e6 : (15 : Int) ≤ (t : Int) := by omega
          have e7 : (t : Int) - 15 < (t : Int) := by omega
          have e3 : ((t : Int) - 15).toNat = t - 15 := by omega
          go_quiet ((first
            | (go_at_call 94; exact Calls.quiet_of_same ((turn_i _ _ _ (by decide) (by decide)).mono fun _ _ h => ⟨h.1, h.2.symm⟩))
            | (go_at_call 95; exact Calls.quiet_of_same ((shift_i _ _ _ (by decide) (by decide)).mono fun _ _ h => ⟨h.1, h.2.symm⟩))))
          rw [show bits BinOp.xor IntKind.u32 (bits BinOp.xor IntKind.u32 (wi (rr x15 7)) (wi (rr x15 18))) (wi (sr x15 3)) = wi (sig0 x15) by rw [wi_xor, wi_xor]; rfl]
          clear e1 e5 e6 e7 e3 c15
          have c7' : (wr.drewN nq).cell? ⟨g, t - 7, none⟩ = some (.int .u32 (wi x7)) := by simpa using c7
          have c16' : (wr.drewN nq).cell? ⟨g, t - 16, none⟩ = some (.int .u32 (wi x16)) := by simpa using c16
          have c2' : (wr.drewN nq).cell? ⟨g, t - 2, none⟩ = some (.int .u32 (wi x2)) := by simpa using c2
          have HB3 := Lib.hid (below_drewN HB2.out nq)
          have HO3 := Lib.hid (own_below HO2.out (below_drewN (Below.refl _ _) nq))
          clear c7 c16 c2 HB2 HO2
          generalize wr.drewN nq = w3 at *
          clear nq
          go_wp2
          have e1 : IntKind.i64.wrap ((t : Int) - 2) = (t : Int) - 2 := IntWalk.i64_in _ (by omega)
          have e5 : (0 : Int) ≤ (t : Int) - 2 := by omega
          have e6 : (2 : Int) ≤ (t : Int) := by omega
          have e7 : (t : Int) - 2 < (t : Int) := by omega
          have e3 : ((t : Int) - 2).toNat = t - 2 := by omega
          go_quiet ((first
            | (go_at_call 94; exact Calls.quiet_of_same ((turn_i _ _ _ (by decide) (by decide)).mono fun _ _ h => ⟨h.1, h.2.symm⟩))
            | (go_at_call 95; exact Calls.quiet_of_same ((shift_i _ _ _ (by decide) (by decide)).mono fun _ _ h => ⟨h.1, h.2.symm⟩))))
          rw [show bits BinOp.xor IntKind.u32 (bits BinOp.xor IntKind.u32 (wi (rr x2 17)) (wi (rr x2 19))) (wi (sr x2 10)) = wi (sig1 x2) by rw [wi_xor, wi_xor]; rfl]
          clear e1 e5 e6 e7 e3 c2'
          have c7 : (w3.drewN nq).cell? ⟨g, t - 7, none⟩ = some (.int .u32 (wi x7)) := by simpa using c7'
          have c16 : (w3.drewN nq).cell? ⟨g, t - 16, none⟩ = some (.int .u32 (wi x16)) := by simpa using c16'
          have HB4 := Lib.hid (below_drewN HB3.out nq)
          have HO4 := Lib.hid (own_below HO3.out (below_drewN (Below.refl _ _) nq))
          clear c7' c16' HB3 HO3
          generalize w3.drewN nq = w4 at *
          go_wp2
          have hown := HO4.out
          have hbz := HB4.out.size
          have e1 : IntKind.i64.wrap ((t : Int) - 16) = (t : Int) - 16 := IntWalk.i64_in _ (by omega)
          have e2 : IntKind.i64.wrap ((t : Int) - 7) = (t : Int) - 7 := IntWalk.i64_in _ (by omega)
          have f1 : (16 : Int) ≤ (t : Int) := by omega
          have f2 : (7 : Int) ≤ (t : Int) := by omega
          have f3 : (0 : Int) ≤ (t : Int) - 16 := by omega
          have f4 : (0 : Int) ≤ (t : Int) - 7 := by omega
          have f5 : (t : Int) - 16 < (t : Int) := by omega
          have f6 : (t : Int) - 7 < (t : Int) := by omega
          have f7 : ((t : Int) - 16).toNat = t - 16 := by omega
          have f8 : ((t : Int) - 7).toNat = t - 7 := by omega
          go_region_law
            (first
              | (refine step_app_sv rfl (.tmp 92) (.tmp 108) 127 rfl w.heap.size 130 i0 _ 4 Tryd.underlying127 hi0 hz0 hz1 hz2 rfl (.slice (some ⟨g, 0, none⟩) t cap) _ _ rfl (hown.alloc _) _ _ 1 1 _ rfl (sv_new _ _ _) rfl (fun u hu => by simp at hu; subst hu; rfl) (by unfold maxLen; omega) (by omega) (by simp; omega) ?_; intro v1 w9 hown1 hg1; have hb9 : Below w.heap.size w w9 := (HB4.out.alloc hbz _).drew.grown hg1 (by simp; omega) (fun q hq => (HO4.out.lt q hq).1)))
          all_goals
            clear e1 e2 f1 f2 f3 f4 f5 f6 f7 f8 c7 c16 hg1 hown hbz
            have HO9 : Hid (w9.ownsRow w.heap.size 130 1 v1 (t + 1) ((schW (mW bs) (t + 1 - 16)).map cw)) := by
              rw [wi_add, wi_add, wi_add] at hown1
              rw [show t + 1 - 16 = (t - 16) + 1 by omega, schW, ← HLD.out, List.map_append, nextW, HLL.out, H16.out, H15.out, H7.out, H2'.out]
              exact Lib.hid hown1
            have HB9 := Lib.hid hb9
            clear hown1 hb9 HO4 HB4
            go_wp2
            go_roundw
            case rel => exact ⟨t + 1, by omega, by omega, by go_num, HO9, HB9⟩
            case measure => simp [intOf]; omega
        · have hkd : decide ((t : Int) < 64) = false := by rw [decide_eq_false_iff_not]; omega
          obtain ⟨A, c2, rfl, h1, h2⟩ := own_form HO2.out
          have HO9 : Hid (wr.ownsRow w.heap.size 130 1 (.slice A 64 c2) 64 ((wsW bs).map cw)) := by
            have h := HO2.out
            rw [show t = 64 by omega] at h
            exact Lib.hid h
          have h64 : Deep (t = 64) := ⟨by omega⟩
          have H1 := Lib.hid h1
          have H2 := Lib.hid h2
          clear HO2 htl ht1 ht2 h1 h2
          go_wp2
          go_ret
          have hw := wsW_len bs
          have hret : Ending.returned (.slice A t c2) = Ending.returned (.slice A 64 c2) := by rw [h64.out]
          refine ⟨A, c2, by rw [hw]; exact hret, by rw [hw, ← h64.out]; exact H1.out, H2.out, by rw [hw]; exact HO9.out, HB2.out⟩
end

section
open Go.RowKit
set_option linter.unusedVariables false

set_option maxRecDepth 100000 in
set_option maxHeartbeats 400000 in
theorem rfirst_any (w : World) : Calls Tryd.prog 90 #[] w (GaveW w initS.l) := by
  have hW : Wh (w.alloc (.cells (initS.l.map cw).toArray 130)) w.heap.size 130 (initS.l.map cw).toArray := Wh.new _ _ _
  have hown := own_of_wh hW w.heap.size 8 8 (Nat.le_refl _) rfl (Nat.le_refl _) (by unfold maxLen; omega)
  go_enter Tryd.func90, Tryd.ntmps90
  go_wp2
  go_ret
  exact ⟨some ⟨w.heap.size, 0, none⟩, 8, rfl, Nat.le_refl _, (by unfold maxLen; decide), hown, (Below.refl _ _).alloc (Nat.le_refl _) _⟩

theorem kLit : (#[.int .u32 1116352408, .int .u32 1899447441, .int .u32 3049323471, .int .u32 3921009573, .int .u32 961987163, .int .u32 1508970993, .int .u32 2453635748, .int .u32 2870763221, .int .u32 3624381080, .int .u32 310598401, .int .u32 607225278, .int .u32 1426881987, .int .u32 1925078388, .int .u32 2162078206, .int .u32 2614888103, .int .u32 3248222580, .int .u32 3835390401, .int .u32 4022224774, .int .u32 264347078, .int .u32 604807628, .int .u32 770255983, .int .u32 1249150122, .int .u32 1555081692, .int .u32 1996064986, .int .u32 2554220882, .int .u32 2821834349, .int .u32 2952996808, .int .u32 3210313671, .int .u32 3336571891, .int .u32 3584528711, .int .u32 113926993, .int .u32 338241895, .int .u32 666307205, .int .u32 773529912, .int .u32 1294757372, .int .u32 1396182291, .int .u32 1695183700, .int .u32 1986661051, .int .u32 2177026350, .int .u32 2456956037, .int .u32 2730485921, .int .u32 2820302411, .int .u32 3259730800, .int .u32 3345764771, .int .u32 3516065817, .int .u32 3600352804, .int .u32 4094571909, .int .u32 275423344, .int .u32 430227734, .int .u32 506948616, .int .u32 659060556, .int .u32 883997877, .int .u32 958139571, .int .u32 1322822218, .int .u32 1537002063, .int .u32 1747873779, .int .u32 1955562222, .int .u32 2024104815, .int .u32 2227730452, .int .u32 2361852424, .int .u32 2428436474, .int .u32 2756734187, .int .u32 3204031479, .int .u32 3329325298] : Array Value) = (kW.map cw).toArray := by kernel_rfl

set_option maxRecDepth 100000 in
set_option maxHeartbeats 400000 in
theorem rconst_any (w : World) : Calls Tryd.prog 91 #[] w (GaveW w kW) := by
  have hl := kW_len
  obtain ⟨ks, hks⟩ : ∃ ks, ks = kW := ⟨_, rfl⟩
  rw [← hks] at hl
  have hW : Wh (w.alloc (.cells (ks.map cw).toArray 130)) w.heap.size 130 (ks.map cw).toArray := Wh.new _ _ _
  have hown := own_of_wh hW w.heap.size 64 64 (Nat.le_refl _) (by simpa using hl) (Nat.le_refl _) (by unfold maxLen; omega)
  rw [List.take_of_length_le (by rw [List.length_map, hl]; exact Nat.le_refl _)] at hown
  rw [← hks]
  have HK := Deep.mk hks
  have HL := Deep.mk hl
  clear hks hl
  go_enter Tryd.func91, Tryd.ntmps91
  go_wp2
  rw [kLit, ← HK.out]
  go_ret
  exact ⟨some ⟨w.heap.size, 0, none⟩, 64, by rw [HL.out]; rfl, by rw [HL.out]; exact Nat.le_refl _, (by unfold maxLen; decide), by rw [HL.out]; exact hown, (Below.refl _ _).alloc (Nat.le_refl _) _⟩

/-- How many noughts stand behind a text of n bytes and its mark. -/
theorem zeros_ne (n z m : Nat) (hz : z = (119 - n % 64) % 64) (h1 : n + 1 ≤ m) (h2 : m < n + 1 + z) : ((m : Int) % 64 == 56) = false ∧ ((m : Int) % 64 != 56) = true := by
  have h : (m : Int) % 64 ≠ 56 := by omega
  exact ⟨by simpa using h, by simpa using h⟩
theorem zeros_eq (n z m : Nat) (hz : z = (119 - n % 64) % 64) (h1 : m = n + 1 + z) : ((m : Int) % 64 == 56) = true ∧ ((m : Int) % 64 != 56) = false := by
  have h : (m : Int) % 64 = 56 := by omega
  exact ⟨by simpa using h, by simpa using h⟩

theorem own_grown {w w' : World} {base : Nat} {e : TypeId} {v : Value} {n : Nat} {xs : List Value} {row : Option Nat} (h : w.ownsRow base e 1 v n xs) (hb : w.grownBy w' row) (hne : ∀ q, v.ownBlock = some q → row ≠ some q) : w'.ownsRow base e 1 v n xs := by
  refine ⟨h.1, ?_⟩
  rcases h.2 with hn | ⟨g, cap, cur, rfl, hbs, hgg, rest⟩
  · exact .inl hn
  · exact .inr ⟨g, cap, cur, rfl, hbs, (hb.block g (Array.getElem?_eq_some_iff.1 hgg).1 (fun e => hne g rfl e.symm)).trans hgg, rest⟩

/-- A slice's length. -/
def lenR : Value → Nat
  | .slice _ n _ => n
  | _ => 0

/-- A text, its mark, noughts up to m bytes. -/
def padR (l : List UInt8) (m : Nat) : List UInt8 := l ++ (128 :: List.replicate (m - (l.length + 1)) 0)
theorem padR_zero (l : List UInt8) : padR l (l.length + 1) = l ++ [128] := by simp [padR]
theorem padR_succ (l : List UInt8) (m : Nat) (h : l.length + 1 ≤ m) : padR l (m + 1) = padR l m ++ [0] := by
  unfold padR
  rw [show m + 1 - (l.length + 1) = m - (l.length + 1) + 1 by omega, List.replicate_succ', List.append_assoc, List.cons_append]

set_option maxRecDepth 100000 in
set_option maxHeartbeats 800000 in
theorem blocks_any (l : List UInt8) (n c B : Nat) (A : Option Addr) (w : World) (hB : B ≤ w.heap.size) (hl : l.length = n) (hs : Sl w B A l) (hn : n ≤ 16000000) :
    Calls Tryd.prog 92 #[.slice A n c] w (GaveB w (l ++ endB n)) := by
  obtain ⟨i0, hi0, hz0, hz1, hz2⟩ := info_parts info8
  obtain ⟨z, hz⟩ : ∃ z, z = (119 - n % 64) % 64 := ⟨_, rfl⟩
  have hz63 : z ≤ 63 := by omega
  have HZ := Deep.mk hz
  have HL := Deep.mk hl
  have HS := Lib.hid hs
  clear hz hl hs
  go_enter Tryd.func92, Tryd.ntmps92
  go_upto_region 2 with (first
    | (at_builtin; refine wpList_append_sv _ rfl (.tmp 7) (.tmp 8) _ rfl w.heap.size 5 i0 _ 1 Tryd.underlying23 hi0 hz0 hz1 hz2 rfl (.slice (some ⟨w.heap.size, 0, none⟩) 0 0) 0 [] rfl (World.ownsRow_made w #[] 0 (Nat.le_refl _) (Nat.zero_le _) rfl) B A n c (l.map cell8) rfl (HS.out.keep (Nat.le_refl _) (fun p hp => ((Below.refl w.heap.size w).alloc (Nat.le_refl _) _).cell (Nat.lt_of_lt_of_le hp hB))) (by rw [List.length_map, HL.out]) (cell8_one _) (by unfold maxLen; omega) (by omega) (by simp) ?_; intro v1 w1 hown1 hg1 _; have HO1 := Lib.hid hown1; have HB1 := Lib.hid (((Below.refl w.heap.size w).alloc (Nat.le_refl _) _).grown hg1 (by simp) (fun q hq => by simp [Value.ownBlock] at hq; omega)); clear hown1 hg1)
    | (at_builtin; refine wpList_append_sv _ rfl (.tmp 9) (.tmp 10) _ rfl w.heap.size 5 i0 _ 1 Tryd.underlying23 hi0 hz0 hz1 hz2 rfl v1 _ _ rfl (HO1.out.alloc _) _ _ 1 1 _ rfl (sv_new _ _ _) rfl (fun u hu => by simp at hu; subst hu; rfl) (by unfold maxLen; omega) (by omega) (by have := HB1.out.size; simp; omega) ?_; intro v2 w2 hown2 hg2 _; have HO2 := Lib.hid hown2; have HB2 := Lib.hid ((HB1.out.alloc HB1.out.size _).grown hg2 (by have := HB1.out.size; simp; omega) (fun q hq => (HO1.out.lt q hq).1)); clear hown2 hg2))
  obtain ⟨A2, c2, rfl, h2a, h2b⟩ := own_form HO2.out
  have HO3 : Hid (w2.ownsRow w.heap.size 5 1 (.slice A2 (0 + n + 1) c2) (n + 1) ((padR l (n + 1)).map cell8)) := by
    have h := HO2.out
    rw [Nat.zero_add] at h ⊢
    rw [← HL.out, padR_zero, HL.out, List.map_append]
    exact Lib.hid h
  clear HO2 HO1 HB1
  rw [Nat.zero_add] at HO3 ⊢
  clear h2a h2b
  go_loopw [3] (fun v wr => ∃ (m : Nat) (A' : Option Addr) (c' : Nat), n + 1 ≤ m ∧ m ≤ n + 1 + z ∧ v = .slice A' m c' ∧ Hid (wr.ownsRow w.heap.size 5 1 (.slice A' m c') m ((padR l m).map cell8)) ∧ Hid (Below w.heap.size w wr)) (fun v _ => n + 1 + z - lenR v)
  case atStart => exact ⟨n + 1, A2, c2, by omega, by omega, rfl, HO3, HB2⟩
  case round =>
    obtain ⟨m, A', c', hm1, hm2, rfl, HOm, HBm⟩ := hrel
    clear HO3 HB2
    by_cases hlt : m < n + 1 + z
    · obtain ⟨t1, t2⟩ := zeros_ne n z m HZ.out hm1 hlt
      have hmx : m ≤ 16001000 := by omega
      go_wp2_with (at_builtin; refine wpList_append_sv _ rfl (.tmp 16) (.tmp 17) _ rfl w.heap.size 5 i0 _ 1 Tryd.underlying23 hi0 hz0 hz1 hz2 rfl (.slice A' m c') _ _ rfl (HOm.out.alloc _) _ _ 1 1 _ rfl (sv_new _ _ _) rfl (fun u hu => by simp at hu; subst hu; rfl) (by unfold maxLen; omega) (by omega) (by have := HBm.out.size; simp; omega) ?_; intro v3 w3 hown3 hg3 _; have HB3 := Lib.hid ((HBm.out.alloc HBm.out.size _).grown hg3 (by have := HBm.out.size; simp; omega) (fun q hq => (HOm.out.lt q hq).1)); clear hg3)
      obtain ⟨A4, c4, rfl, _, _⟩ := own_form hown3
      have HO4 : Hid (w3.ownsRow w.heap.size 5 1 (.slice A4 (m + 1) c4) (m + 1) ((padR l (m + 1)).map cell8)) := by
        rw [padR_succ l m (by rw [HL.out]; exact hm1), List.map_append]
        exact Lib.hid hown3
      clear hown3
      exact ⟨⟨m + 1, A4, c4, by omega, by omega, rfl, HO4, HB3⟩, by simp only [lenR]; omega⟩
    · obtain ⟨t1, t2⟩ := zeros_eq n z m HZ.out (by omega)
      have hpad : padR l m ++ be (8 * n) 8 = l ++ endB n := by
        rw [padR, endB, HL.out, show m - (n + 1) = z by omega, ← HZ.out, List.append_assoc]
        rfl
      have HPAD := Deep.mk hpad
      have hmx : m ≤ 16001000 := by omega
      have hw5 : Wh (wr.alloc (.cells (List.replicate 8 (Value.int .u8 0)).toArray 5)) wr.heap.size 5 (List.replicate 8 (Value.int .u8 0)).toArray := Wh.new _ _ _
      have ho5 := own_of_wh hw5 wr.heap.size 8 8 (Nat.le_refl _) (by simp) (Nat.le_refl _) (by unfold maxLen; omega)
      have hb5 : Below wr.heap.size wr (wr.alloc (.cells (List.replicate 8 (Value.int .u8 0)).toArray 5)) := (Below.refl _ _).alloc (Nat.le_refl _) _
      obtain ⟨g, hg⟩ : ∃ g, g = wr.heap.size := ⟨_, rfl⟩
      have hne : ∀ q, (Value.slice A' m c').ownBlock = some q → some g ≠ some q := fun q hq e => by have := (HOm.out.lt q hq).2; have := Option.some.inj e; omega
      have HOn := Lib.hid (own_below HOm.out hb5)
      have HBn := Lib.hid (HBm.out.trans (hb5.mono HBm.out.size))
      have hwg : w.heap.size ≤ g := by rw [hg]; exact HBm.out.size
      have HNE := Deep.mk hne
      clear hpad hne hw5 HOm HBm
      go_upto_region 6 with (at_make; (refine wpList_make_mn _ rfl _ _ _ rfl 5 i0 (.int .u8 0) Tryd.underlying23 hi0 hz0 hz1 rfl _ _ _ _ 8 8 rfl rfl rfl rfl (Nat.le_refl _) (by rw [hz2]; omega) (by omega) ?_))
      clear t1 t2
      change Code.wp _ _ _ _ (wr.alloc (.cells (List.replicate 8 (Value.int .u8 0)).toArray 5))
      rw [← hg] at ho5 ⊢
      generalize wr.alloc (.cells (List.replicate 8 (Value.int .u8 0)).toArray 5) = w5 at *
      have HO5 := Lib.hid ho5
      have hgw5 : g < w5.heap.size := (ho5.lt g rfl).2
      clear ho5 hb5 hg
      go_wp2
      have HB5 := Lib.hid HBn.out
      go_loopw [4, 6] (fun v0 i wr => ∃ (j : Nat) (xs : List Value), j ≤ 8 ∧ i = .int .i64 ((j : Int) - 1) ∧ v0 = .int .u64 (8 * n / 256 ^ (8 - j) : Nat) ∧
          wr.ownsRow g 5 1 (.slice (some ⟨g, 0, none⟩) 8 8) 8 xs ∧ Hid (xs.drop j = (be (8 * n) (8 - j)).map cell8) ∧ Hid (w5.grownBy wr (some g))) (fun _ i _ => (intOf i + 1).toNat)
      case atStart => exact ⟨8, _, Nat.le_refl _, rfl, by simp, HO5.out, by show _ = _; rw [Nat.sub_self]; rfl, Lib.hid (World.grownBy.refl _ _)⟩
      case round =>
        obtain ⟨j, xs, hj, rfl, rfl, hown, hdrop, hbel⟩ := hrel
        have hxl := hown.1
        have HX := Lib.hid hxl
        have HO := Lib.hid hown
        by_cases h0 : 1 ≤ j
        · obtain ⟨q, rfl⟩ : ∃ q, j = q + 1 := ⟨j - 1, by omega⟩
          have hcell := hown.cellAt q (by omega)
          have hfz := hown.frozenAt q
          obtain ⟨u, hu⟩ : ∃ u, xs[q]? = some u := ⟨_, List.getElem?_eq_getElem (by omega)⟩
          rw [hu] at hcell
          clear hu
          generalize hy : 8 * n / 256 ^ (8 - (q + 1)) = y at *
          have HY := Lib.hid hy
          clear hy hown hxl
          go_wp2
          go_roundw
          case rel =>
            have hy64 : y ≤ 4611686018427387903 := by
              have h2 := HY.out
              have h3 := Nat.div_le_self (8 * n) (256 ^ (8 - (q + 1)))
              omega
            have hown := HO.out
            have hst := hown.stored q (.int .u8 ((y : Int) % 256))
            have hx := HX.out
            refine ⟨q, xs.set q (.int .u8 ((y : Int) % 256)), by omega, rfl, ?_, hst.1, ?_, Lib.hid (grown_trans hbel.out (grown_set _ _ _ _))⟩
            · rw [IntWalk.u64_in _ ⟨by omega, by omega⟩, ← HY.out, show 8 - q = 8 - (q + 1) + 1 by omega, Nat.pow_succ, ← Nat.div_div_eq_div_mul]
              rfl
            · show _ = _
              rw [drop_set_cons _ _ _ (by omega), hdrop.out, show 8 - q = 8 - (q + 1) + 1 by omega]
              show _ = cell8 (UInt8.ofNat (8 * n / 256 ^ (8 - (q + 1)) % 256)) :: _
              rw [HY.out]
              show _ = Value.int .u8 ((UInt8.ofNat (y % 256)).toNat : Int) :: _
              rw [UInt8.toNat_ofNat', Nat.mod_mod]
              rfl
          case measure => simp [intOf]
        · obtain rfl : j = 0 := by omega
          have hxs : xs = (be (8 * n) 8).map cell8 := by have := hdrop.out; simpa using this
          have hsv := Sv.of_own HO.out
          rw [hxs] at hsv
          have HOp := Lib.hid (own_grown HOn.out hbel.out HNE.out)
          have HBp := Lib.hid (below_grown HBn.out hbel.out hwg HBn.out.size)
          have HSV := Lib.hid hsv
          have hbl : ((be (8 * n) 8).map cell8).length = 8 := by rw [List.length_map]; exact be_length _ _
          clear hdrop hown hsv hbel
          go_wp2_with (at_builtin; refine wpList_append_sv _ rfl (.tmp 36) (.tmp 37) _ rfl w.heap.size 5 i0 _ 1 Tryd.underlying23 hi0 hz0 hz1 hz2 rfl (.slice A' m c') _ _ rfl HOp.out _ _ 8 8 _ rfl HSV.out hbl (cell8_one _) (by unfold maxLen; omega) (by omega) HBp.out.size ?_; intro v3 w3 hown3 hg3 _; have HB3 := Lib.hid (HBp.out.grown hg3 HBp.out.size (fun q hq => (HOp.out.lt q hq).1)); clear hg3)
          obtain ⟨A4, c4, rfl, h4a, h4b⟩ := own_form hown3
          rw [← List.map_append, HPAD.out] at hown3
          have hlen : (l ++ endB n).length = m + 8 := by rw [← HPAD.out, List.length_append, be_length, padR, List.length_append, List.length_cons, List.length_replicate, HL.out]; omega
          go_ret
          exact ⟨A4, c4, by rw [hlen]; rfl, by omega, h4b, by rw [hlen]; exact hown3, HB3.out⟩
end
end Go.Proofs.YtblclinfcdalaaaDoor
