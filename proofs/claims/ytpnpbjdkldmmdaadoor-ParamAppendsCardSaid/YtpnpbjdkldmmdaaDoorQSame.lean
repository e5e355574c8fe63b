/-
  Transport parameters: the document's own Same (hostlerref04), of parameters that are one.
-/
import Derived.Test.YtpnpbjdkldmmdaaDoorQNum
import Derived.Test.YtpnpbjdkldmmdaaDoorQTok
import Derived.Test.YtpnpbjdkldmmdaaDoorLaws
import Derived.Deep.MidRow
import Derived.Deep.RegionHeld3
import Derived.Deep.DeepCutAuto
import Derived.Deep.QuietTactic
import Derived.BigQuiet
import Derived.WalkLawsBesides
namespace Go.Proofs.YtpnpbjdkldmmdaaDoor
open Go.RowKit
set_option linter.unusedVariables false

theorem info_paramsQ : (Tryd.prog.info? 43).map (·.size) = some 28 := by kernel_rfl

theorem row_rangeQ {w : World} {g : Nat} {t : TypeId} {R : Array Value} (h : Wh w g t R) : w.rangeAt g 0 R.toList := fun j v hv => by
  rw [Nat.zero_add, h.cell]
  simpa using hv

theorem act_normQ {P : Program} {md : Region.Mode} {ops : Array Oper} {Q : Exit → Act → World → Prop} {S : World → Prop} {fuel : Nat} {listed : Array Bool} {a b : Act} {w : World} (h : a = b) (k : wpAnyH P md ops Q S fuel listed b w) : wpAnyH P md ops Q S fuel listed a w :=
  h ▸ k

theorem wanted_goQ {o : Oper} {y : Nat → Option Bool} {A B : Prop} (h : Region.wanted o y = true) (k : A) : if Region.wanted o y = true then A else B := by rw [if_pos h]; exact k

/-- What Same holds behind its first lines. -/
structure SQ (w wr : World) (p : PQ) (A0 : Option Addr) (c0 : Nat) (A1 : Option Addr) (c1 : Nat) (B0 : Option Addr) (d0 : Nat) (B1 : Option Addr) (d1 g g' : Nat) : Prop where
  bel : Below w.heap.size w wr
  ba : Wh wr w.heap.size 43 (prC A0 c0 A1 c1 p)
  bb : Wh wr (w.heap.size + 1) 43 (prC B0 d0 B1 d1 p)
  na : Wh wr g 23 (numC p)
  nb : Wh wr g' 23 (numC p)

theorem SQ.drew {w wr : World} {p : PQ} {A0 : Option Addr} {c0 : Nat} {A1 : Option Addr} {c1 : Nat} {B0 : Option Addr} {d0 : Nat} {B1 : Option Addr} {d1 g g' : Nat} (h : SQ w wr p A0 c0 A1 c1 B0 d0 B1 d1 g g') : SQ w wr.drew p A0 c0 A1 c1 B0 d0 B1 d1 g g' :=
  ⟨h.bel.drew, h.ba, h.bb, h.na, h.nb⟩

theorem SQ.below {w wr w' : World} {p : PQ} {A0 : Option Addr} {c0 : Nat} {A1 : Option Addr} {c1 : Nat} {B0 : Option Addr} {d0 : Nat} {B1 : Option Addr} {d1 g g' : Nat} (h : SQ w wr p A0 c0 A1 c1 B0 d0 B1 d1 g g') (hb : Below wr.heap.size wr w') : SQ w w' p A0 c0 A1 c1 B0 d0 B1 d1 g g' :=
  ⟨h.bel.trans (hb.mono h.bel.size), h.ba.below hb h.ba.lt, h.bb.below hb h.bb.lt, h.na.below hb h.na.lt, h.nb.below hb h.nb.lt⟩

set_option maxRecDepth 100000 in
set_option maxHeartbeats 3200000 in
theorem sameq_yes (Ra Rb : Array Value) (A0 : Option Addr) (c0 : Nat) (A1 : Option Addr) (c1 : Nat) (B0 : Option Addr) (d0 : Nat) (B1 : Option Addr) (d1 : Nat) (p : PQ) (ha : Ra = prC A0 c0 A1 c1 p) (hb : Rb = prC B0 d0 B1 d1 p) (w : World) (ht : p.tok.length = 16)
    (h0 : Sl w w.heap.size A0 p.orig) (h1 : Sl w w.heap.size A1 p.cid) (k0 : Sl w w.heap.size B0 p.orig) (k1 : Sl w w.heap.size B1 p.cid) :
    Calls Tryd.prog 20 #[.agg Ra, .agg Rb] w fun e w' => e = .returned (.bool true) ∧ Below w.heap.size w w' := by
  have hsa : Ra.size = 28 := by rw [ha, prC_size, ht]
  have hsb : Rb.size = 28 := by rw [hb, prC_size, ht]
  have hz1 : (w.alloc (.cells Ra 43)).heap.size = w.heap.size + 1 := by simp
  have hwa : Wh ((w.alloc (.cells Ra 43)).alloc (.cells Rb 43)) w.heap.size 43 Ra := (Wh.new _ _ _).alloc _
  have hwb : Wh ((w.alloc (.cells Ra 43)).alloc (.cells Rb 43)) (w.heap.size + 1) 43 Rb := by
    have h := Wh.new (w.alloc (.cells Ra 43)) 43 Rb
    rw [hz1] at h
    exact h
  have hbel : Below w.heap.size w ((w.alloc (.cells Ra 43)).alloc (.cells Rb 43)) := ((Below.refl _ _).alloc (Nat.le_refl _) _).alloc (by simp) _
  have HNA := Lib.hid (fun w => numbers_any Ra A0 c0 A1 c1 p ha w)
  have HNB := Lib.hid (fun w => numbers_any Rb B0 d0 B1 d1 p hb w)
  have HA := Lib.hid ha
  have HB := Lib.hid hb
  have HSA := Lib.hid hsa
  have HSB := Lib.hid hsb
  have HT := Lib.hid ht
  have H0 := Lib.hid h0
  have H1 := Lib.hid h1
  have K0 := Lib.hid k0
  have K1 := Lib.hid k1
  clear ha hb hsa hsb ht h0 h1 k0 k1 hz1
  go_enter Tryd.func20, Tryd.ntmps20
  go_upto_region 1 with fail
  generalize ((w.alloc (.cells Ra 43)).alloc (.cells Rb 43)) = w0 at *
  have HBEL := Lib.hid hbel
  clear hbel
  go_cut [5, 6] (fun v5 v6 wx => ∃ g g', v5 = .slice (some ⟨g, 0, none⟩) 16 16 ∧ v6 = .slice (some ⟨g', 0, none⟩) 16 16 ∧ Hid (SQ w wx p A0 c0 A1 c1 B0 d0 B1 d1 g g'))
  case first =>
    have hS0 : (fun w' : World => Wh w' w.heap.size 43 Ra ∧ Wh w' (w.heap.size + 1) 43 Rb) w0.drew := ⟨hwa, hwb⟩
    refine wp_region_held_drew (S := fun w' : World => Wh w' w.heap.size 43 Ra ∧ Wh w' (w.heap.size + 1) 43 Rb) (by kernel_rfl) hS0 (fun _ => ?_)
    refine wpAnyH_take (i := 0) (v := .agg Ra) (List.getElem?_toArray.trans rfl) (by kernel_rfl) (by kernel_rfl) (by kernel_rfl) (fun _ _ _ h => h) (yieldsIf_load_mid (by rfl) 43 (.tmp 2) rfl w.heap.size 0 rfl Ra.toList _ (fun w' hS => row_rangeQ hS.1) Tryd.underlying43 rfl (by rw [Array.length_toList, HSA.out]; exact info_paramsQ)) hS0 ?_
    refine act_normQ (by simp only [Act.put, List.setIfInBounds_toArray, List.set_cons_zero, List.set_cons_succ]; rfl) ?_
    refine wpAnyH_take (i := 2) (v := .agg Rb) (List.getElem?_toArray.trans rfl) (by kernel_rfl) (by kernel_rfl) (by kernel_rfl) (fun _ _ _ h => h) (yieldsIf_load_mid (by rfl) 43 (.tmp 3) rfl (w.heap.size + 1) 0 rfl Rb.toList _ (fun w' hS => row_rangeQ hS.2) Tryd.underlying43 rfl (by rw [Array.length_toList, HSB.out]; exact info_paramsQ)) hS0 ?_
    refine act_normQ (by simp only [Act.put, List.setIfInBounds_toArray, List.set_cons_zero, List.set_cons_succ]; rfl) ?_
    refine wpAnyH_ready (rs := [1]) (by kernel_rfl) (by simp) (AllReadyH.cons (List.getElem?_toArray.trans rfl) (fun K' hK => ?_) AllReadyH.nil)
    refine wanted_goQ rfl ?_
    go_simp
    refine (HNA.out _).mono ?_
    rintro e w1 ⟨g, rfl, hg, hb1, hn1⟩
    have hS1 : (fun w' : World => Wh w' w.heap.size 43 Ra ∧ Wh w' (w.heap.size + 1) 43 Rb) w1 := ⟨hS0.1.below hb1 hS0.1.lt, hS0.2.below hb1 hS0.2.lt⟩
    refine hK.out _ _ hS1 (fun _ => ?_)
    clear hK K'
    refine wpAnyH_ready (rs := [3]) (by kernel_rfl) (by simp) (AllReadyH.cons (List.getElem?_toArray.trans rfl) (fun K' hK => ?_) AllReadyH.nil)
    refine wanted_goQ rfl ?_
    go_simp
    refine (HNB.out _).mono ?_
    rintro e w2 ⟨g', rfl, hg', hb2, hn2⟩
    have hS2 : (fun w' : World => Wh w' w.heap.size 43 Ra ∧ Wh w' (w.heap.size + 1) 43 Rb) w2 := ⟨hS1.1.below hb2 hS1.1.lt, hS1.2.below hb2 hS1.2.lt⟩
    refine hK.out _ _ hS2 (fun _ => ?_)
    clear hK K'
    refine wpAnyH_ready (rs := [4]) (by kernel_rfl) (by simp) (AllReadyH.cons (List.getElem?_toArray.trans rfl) (fun K' hK => ?_) AllReadyH.nil)
    refine wanted_goQ rfl ?_
    go_simp
    refine hK.out _ _ hS2 (fun _ => ?_)
    clear hK K'
    refine wpAnyH_ready (rs := [5]) (by kernel_rfl) (by simp) (AllReadyH.cons (List.getElem?_toArray.trans rfl) (fun K' hK => ?_) AllReadyH.nil)
    refine wanted_goQ rfl ?_
    go_simp
    refine hK.out _ _ hS2 (fun _ => ?_)
    clear hK K'
    refine wpAnyH_done (by kernel_rfl) ?_ _
    go_wp2_with fail
    go_meet
    have hbd := HBEL.out.drew
    have hb12 := (hbd.trans (hb1.mono hbd.size))
    exact ⟨g, g', rfl, rfl, Lib.hid ⟨hb12.trans (hb2.mono hb12.size), by rw [← HA.out]; exact hS2.1, by rw [← HB.out]; exact hS2.2, hn1.below hb2 hn1.lt, hn2⟩⟩
  case rest =>
    clear hwa hwb
    obtain ⟨g, g', rfl, rfl, HQ⟩ := hcut
    have HTS := Lib.hid (fun w => tok_same p.tok p.tok HT.out HT.out w)
    go_wp2_with fail
    go_loopw [7] (fun i wr => ∃ k : Nat, k ≤ 16 ∧ i = .int .i64 (k : Int) ∧ Hid (SQ w wr p A0 c0 A1 c1 B0 d0 B1 d1 g g')) (fun i _ => 16 - (intOf i).toNat)
    case atStart => exact ⟨0, Nat.zero_le _, rfl, HQ⟩
    case round =>
      clear HQ
      obtain ⟨k, hk, rfl, HQ⟩ := hrel
      by_cases hlt : k < 16
      · have ea : wr.cell? ⟨g, k, none⟩ = some (.int .u64 (p.num k : Int)) := by rw [HQ.out.na.cell, numC_at p k hlt]
        have eb : wr.cell? ⟨g', k, none⟩ = some (.int .u64 (p.num k : Int)) := by rw [HQ.out.nb.cell, numC_at p k hlt]
        generalize p.num k = n at *
        go_upto_region 5 with fail
        go_quiet (fail)
        go_wp2_with fail
        go_roundw
        case rel => exact ⟨k + 1, by omega, by go_num, Lib.hid (HQ.out.below (below_drewN (Below.refl _ _) _))⟩
        case measure => simp [intOf]; omega
      · obtain rfl : k = 16 := by omega
        have r0 := run_string_sl (P := Tryd.prog) wr 22 9 5 Tryd.underlying22 Tryd.underlying5 Tryd.underlying9 _ A0 p.orig.length c0 _ (H0.out.below HQ.out.bel) rfl
        have r1 := run_string_sl (P := Tryd.prog) wr 22 9 5 Tryd.underlying22 Tryd.underlying5 Tryd.underlying9 _ A1 p.cid.length c1 _ (H1.out.below HQ.out.bel) rfl
        have s0 := run_string_sl (P := Tryd.prog) wr 22 9 5 Tryd.underlying22 Tryd.underlying5 Tryd.underlying9 _ B0 p.orig.length d0 _ (K0.out.below HQ.out.bel) rfl
        have s1 := run_string_sl (P := Tryd.prog) wr 22 9 5 Tryd.underlying22 Tryd.underlying5 Tryd.underlying9 _ B1 p.cid.length d1 _ (K1.out.below HQ.out.bel) rfl
        have a0 : wr.cell? ⟨w.heap.size, 0, none⟩ = some (.slice A0 p.orig.length c0) := by rw [HQ.out.ba.cell, prC_0]
        have a1 : wr.cell? ⟨w.heap.size, 1, none⟩ = some (.slice A1 p.cid.length c1) := by rw [HQ.out.ba.cell, prC_1]
        have a2 : wr.cell? ⟨w.heap.size, 11, none⟩ = some (.bool p.has) := by rw [HQ.out.ba.cell, prC_has]
        have b0 : wr.cell? ⟨w.heap.size + 1, 0, none⟩ = some (.slice B0 p.orig.length d0) := by rw [HQ.out.bb.cell, prC_0]
        have b1 : wr.cell? ⟨w.heap.size + 1, 1, none⟩ = some (.slice B1 p.cid.length d1) := by rw [HQ.out.bb.cell, prC_1]
        have b2 : wr.cell? ⟨w.heap.size + 1, 11, none⟩ = some (.bool p.has) := by rw [HQ.out.bb.cell, prC_has]
        have x0 : wr.cell? ⟨w.heap.size, 12, none⟩ = some (.int .u8 (tkI p.tok 0)) := prC_at HQ.out.ba HT.out 0 (by omega)
        have y0 : wr.cell? ⟨w.heap.size + 1, 12, none⟩ = some (.int .u8 (tkI p.tok 0)) := prC_at HQ.out.bb HT.out 0 (by omega)
        have x1 : wr.cell? ⟨w.heap.size, 13, none⟩ = some (.int .u8 (tkI p.tok 1)) := prC_at HQ.out.ba HT.out 1 (by omega)
        have y1 : wr.cell? ⟨w.heap.size + 1, 13, none⟩ = some (.int .u8 (tkI p.tok 1)) := prC_at HQ.out.bb HT.out 1 (by omega)
        have x2 : wr.cell? ⟨w.heap.size, 14, none⟩ = some (.int .u8 (tkI p.tok 2)) := prC_at HQ.out.ba HT.out 2 (by omega)
        have y2 : wr.cell? ⟨w.heap.size + 1, 14, none⟩ = some (.int .u8 (tkI p.tok 2)) := prC_at HQ.out.bb HT.out 2 (by omega)
        have x3 : wr.cell? ⟨w.heap.size, 15, none⟩ = some (.int .u8 (tkI p.tok 3)) := prC_at HQ.out.ba HT.out 3 (by omega)
        have y3 : wr.cell? ⟨w.heap.size + 1, 15, none⟩ = some (.int .u8 (tkI p.tok 3)) := prC_at HQ.out.bb HT.out 3 (by omega)
        have x4 : wr.cell? ⟨w.heap.size, 16, none⟩ = some (.int .u8 (tkI p.tok 4)) := prC_at HQ.out.ba HT.out 4 (by omega)
        have y4 : wr.cell? ⟨w.heap.size + 1, 16, none⟩ = some (.int .u8 (tkI p.tok 4)) := prC_at HQ.out.bb HT.out 4 (by omega)
        have x5 : wr.cell? ⟨w.heap.size, 17, none⟩ = some (.int .u8 (tkI p.tok 5)) := prC_at HQ.out.ba HT.out 5 (by omega)
        have y5 : wr.cell? ⟨w.heap.size + 1, 17, none⟩ = some (.int .u8 (tkI p.tok 5)) := prC_at HQ.out.bb HT.out 5 (by omega)
        have x6 : wr.cell? ⟨w.heap.size, 18, none⟩ = some (.int .u8 (tkI p.tok 6)) := prC_at HQ.out.ba HT.out 6 (by omega)
        have y6 : wr.cell? ⟨w.heap.size + 1, 18, none⟩ = some (.int .u8 (tkI p.tok 6)) := prC_at HQ.out.bb HT.out 6 (by omega)
        have x7 : wr.cell? ⟨w.heap.size, 19, none⟩ = some (.int .u8 (tkI p.tok 7)) := prC_at HQ.out.ba HT.out 7 (by omega)
        have y7 : wr.cell? ⟨w.heap.size + 1, 19, none⟩ = some (.int .u8 (tkI p.tok 7)) := prC_at HQ.out.bb HT.out 7 (by omega)
        have x8 : wr.cell? ⟨w.heap.size, 20, none⟩ = some (.int .u8 (tkI p.tok 8)) := prC_at HQ.out.ba HT.out 8 (by omega)
        have y8 : wr.cell? ⟨w.heap.size + 1, 20, none⟩ = some (.int .u8 (tkI p.tok 8)) := prC_at HQ.out.bb HT.out 8 (by omega)
        have x9 : wr.cell? ⟨w.heap.size, 21, none⟩ = some (.int .u8 (tkI p.tok 9)) := prC_at HQ.out.ba HT.out 9 (by omega)
        have y9 : wr.cell? ⟨w.heap.size + 1, 21, none⟩ = some (.int .u8 (tkI p.tok 9)) := prC_at HQ.out.bb HT.out 9 (by omega)
        have x10 : wr.cell? ⟨w.heap.size, 22, none⟩ = some (.int .u8 (tkI p.tok 10)) := prC_at HQ.out.ba HT.out 10 (by omega)
        have y10 : wr.cell? ⟨w.heap.size + 1, 22, none⟩ = some (.int .u8 (tkI p.tok 10)) := prC_at HQ.out.bb HT.out 10 (by omega)
        have x11 : wr.cell? ⟨w.heap.size, 23, none⟩ = some (.int .u8 (tkI p.tok 11)) := prC_at HQ.out.ba HT.out 11 (by omega)
        have y11 : wr.cell? ⟨w.heap.size + 1, 23, none⟩ = some (.int .u8 (tkI p.tok 11)) := prC_at HQ.out.bb HT.out 11 (by omega)
        have x12 : wr.cell? ⟨w.heap.size, 24, none⟩ = some (.int .u8 (tkI p.tok 12)) := prC_at HQ.out.ba HT.out 12 (by omega)
        have y12 : wr.cell? ⟨w.heap.size + 1, 24, none⟩ = some (.int .u8 (tkI p.tok 12)) := prC_at HQ.out.bb HT.out 12 (by omega)
        have x13 : wr.cell? ⟨w.heap.size, 25, none⟩ = some (.int .u8 (tkI p.tok 13)) := prC_at HQ.out.ba HT.out 13 (by omega)
        have y13 : wr.cell? ⟨w.heap.size + 1, 25, none⟩ = some (.int .u8 (tkI p.tok 13)) := prC_at HQ.out.bb HT.out 13 (by omega)
        have x14 : wr.cell? ⟨w.heap.size, 26, none⟩ = some (.int .u8 (tkI p.tok 14)) := prC_at HQ.out.ba HT.out 14 (by omega)
        have y14 : wr.cell? ⟨w.heap.size + 1, 26, none⟩ = some (.int .u8 (tkI p.tok 14)) := prC_at HQ.out.bb HT.out 14 (by omega)
        have x15 : wr.cell? ⟨w.heap.size, 27, none⟩ = some (.int .u8 (tkI p.tok 15)) := prC_at HQ.out.ba HT.out 15 (by omega)
        have y15 : wr.cell? ⟨w.heap.size + 1, 27, none⟩ = some (.int .u8 (tkI p.tok 15)) := prC_at HQ.out.bb HT.out 15 (by omega)
        have hts := HTS.out
        try rw [decide_eq_true rfl] at hts
        unfold tkC at hts
        go_wp2
        go_ret
        exact ⟨rfl, HQ.out.bel⟩

end Go.Proofs.YtpnpbjdkldmmdaaDoor
