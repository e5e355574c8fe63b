/-
  sha.schedule: a block's words.
-/
import Derived.IntWalk
import Derived.KernelRfl
import Derived.Deep.QuietTactic
import Derived.BigQuiet
import Derived.Deep.DeepCutAuto
import Derived.Deep.RegionLaw
import Derived.Deep.WholeRow
import Derived.Laws.CopyOwn
import Derived.Test.YtblclinfcdalaaaDoorShRot
import Derived.Test.YtblclinfcdalaaaDoorShSpec
import Derived.Test.YtblclinfcdalaaaDoorWh
namespace Go.Proofs.YtblclinfcdalaaaDoor
open Go.RowKit
set_option linter.unusedVariables false

/-- 64 words in memory. -/
def wRow (l : List W32) : Array Value := (l.map cw).toArray
theorem wRow_set (l : List W32) (j : Nat) (v : W32) : (wRow l).setIfInBounds j (.int .u32 (wi v)) = wRow (l.set j v) := by simp [wRow, cw]
theorem wRow_size (l : List W32) : (wRow l).size = l.length := by simp [wRow]
theorem wRow_one (l : List W32) : (wRow l).all (·.oneCell') = true := by
  rw [Array.all_eq_true_iff_forall_mem]
  intro v hv
  simp only [wRow, List.mem_toArray] at hv
  obtain ⟨x, _, rfl⟩ := List.mem_map.1 hv
  rfl
theorem info_w64 : (Tryd.prog.info? 171).map (·.size) = some 64 := by kernel_rfl
theorem info_wRow {l : List W32} (h : l.length = 64) : (Tryd.prog.info? 171).map (·.size) = some (wRow l).size := by rw [wRow_size, h]; exact info_w64
theorem below_grown {B g : Nat} {a b c : World} (h : Below B a b) (k : b.grownBy c (some g)) (hg : B ≤ g) (hB : B ≤ b.heap.size) : Below B a c :=
  ⟨k.os.trans h.os, k.tape.trans h.tape, k.output.trans h.output, Nat.le_trans h.size k.size, fun i hi => (k.block i (by omega) (fun e => by have := Option.some.inj e; omega)).trans (h.block i hi)⟩
theorem zeros64 : (#[.int .u32 0, .int .u32 0, .int .u32 0, .int .u32 0, .int .u32 0, .int .u32 0, .int .u32 0, .int .u32 0, .int .u32 0, .int .u32 0, .int .u32 0, .int .u32 0, .int .u32 0, .int .u32 0, .int .u32 0, .int .u32 0, .int .u32 0, .int .u32 0, .int .u32 0, .int .u32 0, .int .u32 0, .int .u32 0, .int .u32 0, .int .u32 0, .int .u32 0, .int .u32 0, .int .u32 0, .int .u32 0, .int .u32 0, .int .u32 0, .int .u32 0, .int .u32 0, .int .u32 0, .int .u32 0, .int .u32 0, .int .u32 0, .int .u32 0, .int .u32 0, .int .u32 0, .int .u32 0, .int .u32 0, .int .u32 0, .int .u32 0, .int .u32 0, .int .u32 0, .int .u32 0, .int .u32 0, .int .u32 0, .int .u32 0, .int .u32 0, .int .u32 0, .int .u32 0, .int .u32 0, .int .u32 0, .int .u32 0, .int .u32 0, .int .u32 0, .int .u32 0, .int .u32 0, .int .u32 0, .int .u32 0, .int .u32 0, .int .u32 0, .int .u32 0] : Array Value) = wRow (List.replicate 64 0) := by kernel_rfl

set_option maxRecDepth 100000 in
set_option maxHeartbeats 400000 in
theorem sched_any (b off : Nat) (bs : List UInt8) (w : World) (hb : b < w.heap.size) (hl : bs.length = 64) (hc : ∀ j x, bs[j]? = some x → w.cell? ⟨b, off + j, none⟩ = some (cell8 x)) :
    Calls Tryd.prog 135 #[.pointer (some ⟨b, off, none⟩)] w fun e w' => e = .returned (.agg (wRow (wsW bs))) ∧ Below w.heap.size w w' := by
  have HL := Lib.hid hl
  have hbe : Below w.heap.size w ((w.alloc (.cells (wRow (List.replicate 64 0)) 171)).alloc (.cells (wRow (List.replicate 64 0)) 171)) := ((Below.refl _ _).alloc (Nat.le_refl _) _).alloc (by simp) _
  have h2 : Wh ((w.alloc (.cells (wRow (List.replicate 64 0)) 171)).alloc (.cells (wRow (List.replicate 64 0)) 171)) w.heap.size 171 (wRow (List.replicate 64 0)) := (Wh.new _ _ _).alloc _
  have h3 : Wh ((w.alloc (.cells (wRow (List.replicate 64 0)) 171)).alloc (.cells (wRow (List.replicate 64 0)) 171)) (w.heap.size + 1) 171 (wRow (List.replicate 64 0)) := by
    have := Wh.new (w.alloc (.cells (wRow (List.replicate 64 0)) 171)) 171 (wRow (List.replicate 64 0))
    rwa [show (w.alloc (.cells (wRow (List.replicate 64 0)) 171)).heap.size = w.heap.size + 1 by simp] at this
  have HC := Lib.hid (fun j x h => (hbe.cell (p := ⟨b, off + j, none⟩) hb).trans (hc j x h))
  clear hl hc
  go_enter Tryd.func135, Tryd.ntmps135
  go_upto_region 2 with (fail)
  rw [zeros64]
  generalize (w.alloc (.cells (wRow (List.replicate 64 0)) 171)).alloc (.cells (wRow (List.replicate 64 0)) 171) = W at *
  obtain ⟨r, hr⟩ : ∃ r, r = w.heap.size := ⟨_, rfl⟩
  obtain ⟨g, hg⟩ : ∃ g, g = w.heap.size + 1 := ⟨_, rfl⟩
  rw [← hr] at h2
  rw [← hg] at h3
  rw [← hg, ← hr]
  have HG := Lib.hid hg
  have HR := Lib.hid hr
  have H2 := Lib.hid h2
  have hbg : b < r := by omega
  have hbW : b < W.heap.size := by have := hbe.size; omega
  have hgr : r < g := by omega
  clear hg hr h2
  have HZ := ldW_zero bs
  rw [← HZ] at h3
  have H3 := Lib.hid h3
  clear h3 HZ
  go_wp2
  go_loopw [4, 5, 12] (fun _ _ i wr => ∃ k : Nat, k ≤ 64 ∧ i = .int .i64 (k : Int) ∧ Hid (Wh wr g 171 (wRow (ldW bs k))) ∧ Hid (W.grownBy wr (some g))) (fun _ _ i _ => 64 - (intOf i).toNat)
  case atStart => exact ⟨0, by omega, rfl, H3, Lib.hid (World.grownBy.refl _ _)⟩
  case round =>
    obtain ⟨k, hk, rfl, HW, HGr⟩ := hrel
    by_cases hlt : k < 64
    · have hkb : k < bs.length := by rw [HL.out]; exact hlt
      have hx : wr.cell? ⟨b, off + k, none⟩ = some (.int .u8 ((bs.getD k 0).toNat : Int)) := by
        have h1 : bs[k]? = some (bs.getD k 0) := by simp [List.getD, hkb]
        rw [World.cell?_of_block (HGr.out.block b hbW (fun e => by have := Option.some.inj e; omega)), HC.out k _ h1]
        rfl
      have hlen := ldW_len bs k
      have hv : wr.cell? ⟨g, k / 4, none⟩ = some (.int .u32 (wi ((ldW bs k).getD (k / 4) 0))) := by
        rw [HW.out.cell]
        have : k / 4 < (ldW bs k).length := by omega
        simp [wRow, List.getD, this, cw]
      have hf := HW.out.frozen (k / 4)
      generalize hvv : (ldW bs k).getD (k / 4) 0 = v at *
      generalize hbb : bs.getD k 0 = x at *
      have HV := Lib.hid hvv
      have HX := Lib.hid hbb
      have HLN := Lib.hid hlen
      clear hvv hbb hlen
      have hx8 := x.toNat_lt
      go_wp2
      go_quiet (fail)
      go_wp2
      refine ⟨⟨k + 1, by omega, rfl, ?_, ?_⟩, by simp [intOf]; omega⟩
      · have h := (HW.out.drewN nq).put (k / 4) (.int .u32 (bits BinOp.or IntKind.u32 (wi v * 256 % 4294967296) ↑x.toNat))
        rw [wi_inB] at h ⊢
        rw [ldW, HV.out, HX.out, ← wRow_set]
        exact Lib.hid h
      · exact Lib.hid (grown_trans (grown_drewN HGr.out nq) (grown_set _ _ _ _))
    · rw [show k = 64 by omega, ldW_full] at HW
      have hkd : decide ((k : Int) < 64) = false := by rw [decide_eq_false_iff_not]; omega
      clear hlt hk
      go_wp2
      generalize wr = w1 at *
      go_loopw [6, 7, 8, 9, 10] (fun i _ _ _ _ wr => ∃ t : Nat, 16 ≤ t ∧ t ≤ 64 ∧ i = .int .i64 (t : Int) ∧ Hid (Wh wr g 171 (wRow (schW (mW bs) (t - 16) ++ List.replicate (64 - t) 0))) ∧ Hid (W.grownBy wr (some g))) (fun i _ _ _ _ _ => 64 - (intOf i).toNat)
      case atStart => exact ⟨16, by omega, by omega, rfl, HW, HGr⟩
      case round =>
        obtain ⟨t, ht1, ht2, rfl, HW2, HG2⟩ := hrel
        clear HW HGr
        by_cases htl : t < 64
        · clear hkd
          go_wp2
          obtain ⟨l, hl⟩ : ∃ l, l = schW (mW bs) (t - 16) := ⟨_, rfl⟩
          rw [← hl] at HW2
          have hll : l.length = t := by rw [hl, schW_len, mW_len bs]; omega
          have HLL := Lib.hid hll
          have HLD := Lib.hid hl
          have cell : ∀ j, j < t → wr.cell? ⟨g, j, none⟩ = some (.int .u32 (wi (l.getD j 0))) := by
            intro j hj
            rw [HW2.out.cell]
            simp only [wRow, List.getElem?_toArray, List.getElem?_map]
            rw [sch_get l _ j (by omega)]
            rfl
          have c15 := cell (t - 15) (by omega)
          have c2 := cell (t - 2) (by omega)
          have c16 := cell (t - 16) (by omega)
          have c7 := cell (t - 7) (by omega)
          have ct : ∃ u, wr.cell? ⟨g, t, none⟩ = some (.int .u32 (wi u)) := by
            refine ⟨(0 : W32), ?_⟩
            rw [HW2.out.cell]
            simp only [wRow, List.getElem?_toArray, List.getElem?_map]
            rw [List.getElem?_append_right (by omega), hll, Nat.sub_self, show 64 - t = (63 - t) + 1 by omega, List.replicate_succ]
            rfl
          obtain ⟨u, ct⟩ := ct
          have hf := HW2.out.frozen t
          clear cell hl hll
          generalize h15 : l.getD (t - 15) 0 = x15 at *
          generalize h2 : l.getD (t - 2) 0 = x2 at *
          generalize h16 : l.getD (t - 16) 0 = x16 at *
          generalize h7 : l.getD (t - 7) 0 = x7 at *
          have H15 := Lib.hid h15
          have H2' := Lib.hid h2
          have H16 := Lib.hid h16
          have H7 := Lib.hid h7
          clear h15 h2 h16 h7
          have e1 : IntKind.i64.wrap ((t : Int) - 15) = (t : Int) - 15 := IntWalk.i64_in _ (by omega)
          have e2 : IntKind.i64.wrap ((t : Int) - 2) = (t : Int) - 2 := IntWalk.i64_in _ (by omega)
          have e5 : (0 : Int) ≤ (t : Int) - 15 := by omega
          have e6 : (0 : Int) ≤ (t : Int) - 2 := by omega
          have e3 : ((t : Int) - 15).toNat = t - 15 := by omega
          have e4 : ((t : Int) - 2).toNat = t - 2 := by omega
          go_quiet (fail)
          clear e1 e2 e3 e4 e5 e6 c15 c2
          have c7' : (wr.drewN nq).cell? ⟨g, t - 7, none⟩ = some (.int .u32 (wi x7)) := by simpa using c7
          have c16' : (wr.drewN nq).cell? ⟨g, t - 16, none⟩ = some (.int .u32 (wi x16)) := by simpa using c16
          have ct' : (wr.drewN nq).cell? ⟨g, t, none⟩ = some (.int .u32 (wi u)) := by simpa using ct
          have hf' : (wr.drewN nq).frozen? ⟨g, t, none⟩ = false := by simpa using hf
          clear c7 c16 ct hf
          have HW3 := Lib.hid (HW2.out.drewN nq)
          have HG3 := Lib.hid (grown_drewN HG2.out nq)
          clear HW2 HG2
          generalize wr.drewN nq = w3 at *
          go_wp2_with (go_at_call 141; refine (turned_i _ _ _ (by omega) (by omega)).mono ?_; rintro e w4 ⟨rfl, rfl⟩)
          rw [wi_sig0, wi_sig1]
          have e8 : (16 : Int) ≤ (t : Int) := by omega
          have e9 : (t : Int) - 16 < 64 := by omega
          have e10 : (7 : Int) ≤ (t : Int) := by omega
          have e11 : (t : Int) - 7 < 64 := by omega
          have e12 : (t : Int) < 64 := by omega
          have e1 : IntKind.i64.wrap ((t : Int) - 16) = (t : Int) - 16 := IntWalk.i64_in _ (by omega)
          have e2 : IntKind.i64.wrap ((t : Int) - 7) = (t : Int) - 7 := IntWalk.i64_in _ (by omega)
          have e3 : ((t : Int) - 16).toNat = t - 16 := by omega
          have e4 : ((t : Int) - 7).toNat = t - 7 := by omega
          go_region_law (fail)
          all_goals
            clear e1 e2 e3 e4 e8 e9 e10 e11 e12
            rw [wi_add, wi_add, wi_add]
            have HW4 := Lib.hid ((HW3.out.put t (.int .u32 (wi (x16 + sig0 x15 + x7 + sig1 x2)))).drewN 1)
            have HG4 := Lib.hid (grown_drewN (grown_trans HG3.out (grown_set _ g t (.int .u32 (wi (x16 + sig0 x15 + x7 + sig1 x2))))) 1)
            clear HW3 HG3
            change Exit.inBlock 3 _ _ _ ((w3.setCell ⟨g, t, none⟩ (.int .u32 (wi (x16 + sig0 x15 + x7 + sig1 x2)))).drewN 1)
            generalize (w3.setCell ⟨g, t, none⟩ (.int .u32 (wi (x16 + sig0 x15 + x7 + sig1 x2)))).drewN 1 = w5 at *
            go_wp2
            refine ⟨⟨t + 1, by omega, by omega, rfl, ?_, HG4⟩, by simp [intOf]; omega⟩
            have h := HW4.out
            rw [wRow_set, show 64 - t = (63 - t) + 1 by omega, sch_set l _ t _ HLL.out] at h
            rw [show t + 1 - 16 = (t - 16) + 1 by omega, schW, ← HLD.out, show 64 - (t + 1) = 63 - t by omega, nextW, HLL.out, H16.out, H15.out, H7.out, H2'.out]
            exact Lib.hid h
        · obtain ⟨HB, HS⟩ : Hid (Wh wr g 171 (wRow (wsW bs))) ∧ Hid (Wh wr r 171 (wRow (List.replicate 64 0))) := by
            have h := HW2.out
            rw [show t = 64 by omega, show 64 - 64 = 0 from rfl, List.replicate_zero, List.append_nil] at h
            exact ⟨Lib.hid h, Lib.hid (H2.out.grown HG2.out (by intro e; have := Option.some.inj e; omega))⟩
          have hBe := Lib.hid (below_grown hbe HG2.out (by rw [HG.out]; omega) hbe.size)
          have hwr : w.heap.size ≤ r := by rw [HR.out]; exact Nat.le_refl _
          have htd : decide ((t : Int) < 64) = false := by rw [decide_eq_false_iff_not]; omega
          clear HW2 HG2 htl ht1 ht2 hkd hbe H3 H2 hbW HC
          go_wp2_with (first
            | (refine wpList_load_row rfl 171 (.tmp 3) rfl g rfl _ (wRow (wsW bs)) _ _ HB.out Tryd.underlying171 rfl (info_wRow (wsW_len bs)) ?_)
            | (refine wpList_store_row rfl 171 (.tmp 2) (.tmp 73) rfl r (wRow (wsW bs)) rfl rfl _ _ HS.out (info_wRow (wsW_len bs)) (by rw [wRow_size, wRow_size, wsW_len]; rfl) (wRow_one _) ?_))
          refine bodyPost_ret (v := .agg (wRow (wsW bs))) (results_cell_row Tryd.results135 _ _ r _ _ (0, 0) _ rfl (setRow_heap wr r _ _ _ _ HS.out) Tryd.underlying171 rfl (info_wRow (wsW_len bs))) rfl ?_
          exact ⟨rfl, below_setRow hBe.out hwr _⟩
end Go.Proofs.YtblclinfcdalaaaDoor
