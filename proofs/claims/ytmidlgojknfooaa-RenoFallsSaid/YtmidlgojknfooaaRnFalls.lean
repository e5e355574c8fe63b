/-
  The walk through hostlerlaw14.RenoFalls.
-/
import Derived.Test.YtmidlgojknfooaaRnSms
import Derived.Test.YtmidlgojknfooaaSpDraw
import Derived.Deep.CutRange
import Derived.Deep.DeepCutAuto
import Derived.Deep.CutBlock
namespace Go.Proofs.Ytmidlgojknfooaa
open Go.RowKit
set_option linter.unusedVariables false

theorem info_ns : (Try.prog.info? 32).map (·.size) = some 6 := by kernel_rfl
theorem NAt.range {w : World} {g : Nat} {s : NS} (h : NAt w g s) : w.rangeAt g 0 (nRow s).toList := fun j v hv => by
  have := Wh.cell h (0 + j)
  rw [Nat.zero_add] at this ⊢
  rw [this, ← hv]
  simp
/-- What was, laid apart. -/
def WasAt (w : World) (p : Nat) (s : NS) : Prop := Wh w p 32 (nRow s)

/-- What the law's loop holds behind a call: the window, the call's copy, what was; and it fell by Lost or Worst alone. -/
structure FallAt (w wx : World) (g q p : Nat) (d : DN) (s s' : NS) : Prop where
  hat : NAt wx g s'
  ok : s'.Ok
  bel : Below w.heap.size w wx
  copy : Wh wx q 30 (dnCells d).toArray
  was : WasAt wx p s
  gq : g < q
  qp : q < p
  base : w.heap.size ≤ g
  low : d.kd = 3 ∨ d.kd = 4 ∨ s.wi ≤ s'.wi

theorem FallAt.step {w w5 w6 : World} {g q p : Nat} {d : DN} {s s' : NS} (h : FallAt w w5 g q p d s s) (hg : w5.grownBy w6 (some g)) (hn : NAt w6 g s') (ok : s'.Ok) (low : d.kd = 3 ∨ d.kd = 4 ∨ s.wi ≤ s'.wi) : FallAt w w6 g q p d s s' :=
  ⟨hn, ok, below_grownN h.bel hg h.base h.bel.size, h.copy.grown hg (by have := h.gq; intro e; have := Option.some.inj e; omega), Wh.grown h.was hg (by have := h.gq; have := h.qp; intro e; have := Option.some.inj e; omega), h.gq, h.qp, h.base, low⟩
theorem FallAt.on {w w5 w6 : World} {g q p : Nat} {d : DN} {s s' : NS} (h : FallAt w w5 g q p d s s') (hb : Below w5.heap.size w5 w6) : FallAt w w6 g q p d s s' :=
  ⟨h.hat.below hb, h.ok, h.bel.trans (hb.mono h.bel.size), h.copy.below hb h.copy.lt, Wh.below h.was hb (Wh.lt h.was), h.gq, h.qp, h.base, h.low⟩

theorem copy_tk {w : World} {q : Nat} {d : DN} (h : Wh w q 30 (dnCells d).toArray) : w.cell? ⟨q, 2, none⟩ = some (.int .u64 (d.tk : Int)) := (Wh.cell h 2).trans rfl
theorem copy_range {w : World} {q : Nat} {d : DN} (h : Wh w q 30 (dnCells d).toArray) : w.rangeAt q 0 (dnCells d) := fun j v hv => by
  have := Wh.cell h (0 + j)
  rw [Nat.zero_add] at this ⊢
  rw [this, ← hv]
  simp

set_option maxRecDepth 10000 in
set_option maxHeartbeats 4000000 in
theorem falls_any (A : Option Addr) (N c0 : Nat) (l : List DN) (w : World) (hl : l.length = N) (hr : Dns w w.heap.size A l) (hnc : N ≤ c0) (hcm : c0 ≤ maxLen) :
    Calls Try.prog 3 #[.slice A N c0] w (SaysN w) := by
  have hnm : N ≤ 9223372036854775807 := by unfold maxLen at hcm; omega
  have HL := Lib.hid hl
  have HR := Lib.hid hr
  have HV := Lib.hid (fun w1 (hb : Below w.heap.size w w1) => heavyN_any A N c0 l w1 hl ((hr.below hb).mono hb.size) hnc hcm)
  clear hl hr hnc hcm
  go_enter Try.func3, Try.ntmps3
  go_wp2_with fail
  refine (nworks_any w).mono ?_
  rintro e w1 ⟨rfl, hb1⟩
  have HB1 := Lib.hid hb1
  clear hb1
  go_wp2_with fail
  refine (HV.out w1 HB1.out).mono ?_
  rintro e w2 ⟨b, rfl, hb2⟩
  have HB2 := Lib.hid (HB1.out.trans (hb2.mono HB1.out.size))
  clear hb2 HV HB1
  cases b
  rotate_left
  · go_wp2_with fail
    refine (nworks_any w2).mono ?_
    rintro e w3 ⟨rfl, hb3⟩
    have HB3 := Lib.hid (HB2.out.trans (hb3.mono HB2.out.size))
    clear hb3 HB2
    go_wp2
    go_ret
    exact ⟨rfl, HB3.out⟩
  go_wp2_with fail
  refine (nnew_any w2).mono ?_
  rintro e w3 ⟨g, rfl, hgl, hb3, h3⟩
  have H3 := Lib.hid h3
  have HG : Hid (w.heap.size ≤ g) := Lib.hid (Nat.le_trans HB2.out.size hgl)
  have HB3 := Lib.hid (HB2.out.trans (hb3.mono HB2.out.size))
  clear h3 hgl hb3 HB2
  go_wp2
  go_loopw [15] (fun s15 wr => ∃ (k : Nat) (s : NS), k ≤ N ∧ s15 = .int .i64 k ∧ Hid (NAt wr g s) ∧ Hid s.Ok ∧ Hid (Below w.heap.size w wr)) (fun s15 _ => N - (intOf s15).toNat)
  case atStart => exact ⟨0, _, Nat.zero_le _, rfl, H3, Lib.hid new_okN, HB3⟩
  case round =>
    obtain ⟨k, s, hk, rfl, HA, HO, HB⟩ := hrel
    clear H3 HB3
    by_cases hlt : k < N
    · obtain ⟨d, hd⟩ : ∃ d, l[k]? = some d := ⟨_, List.getElem?_eq_getElem (by rw [HL.out]; exact hlt)⟩
      obtain ⟨b, off, rfl, hbl, hcc⟩ := (HR.out.below HB.out).at_ (by rw [HL.out]; omega)
      have HC := Lib.hid (hcc k d hd)
      have HD := Lib.hid ((HR.out.below HB.out).2 d (List.mem_of_getElem? hd))
      have d0 : decide (k < N) = true := decide_eq_true hlt
      clear hcc hd
      go_upto_region 9 with (first
        | (refine wpList_load_mid rfl 30 (.tmp 17) rfl b (off + k * 4) rfl (dnCells d) _ HC.out Try.underlying30 rfl info_dn ?_)
        | (refine wpList_store_row rfl 30 (.tmp 5) (.tmp 18) rfl wr.heap.size (dnCells d).toArray rfl rfl _ _ (heap_alloc_new wr _) info_dn rfl (dnCells_one d) ?_; rw [World.setRow_alloc_new]))
      have hW := copyN wr d
      have hb4 := (Below.refl wr.heap.size wr).alloc (Nat.le_refl _) (.cells (dnCells d).toArray 30)
      have HA4 := Lib.hid (HA.out.below hb4)
      have HD4 := Lib.hid (HD.out.below (hb4.mono HB.out.size))
      have HB4 := Lib.hid (HB.out.trans (hb4.mono HB.out.size))
      have HGQ : Hid (g < wr.heap.size) := Lib.hid HA.out.lt
      clear hb4 HC HD HA HB
      generalize wr.alloc (.cells (dnCells d).toArray 30) = w4 at *
      generalize wr.heap.size = q at *
      have HW4 := Lib.hid hW
      have HRG := Lib.hid HA4.out.range
      clear hW
      go_upto_region 10 with (first
        | (refine wpList_load_mid rfl 32 (.tmp 21) rfl g 0 rfl (nRow s).toList _ HRG.out Try.underlying32 rfl info_ns ?_)
        | (refine wpList_store_row rfl 32 (.tmp 6) (.tmp 22) rfl w4.heap.size (nRow s) rfl rfl _ _ (heap_alloc_new w4 _) info_ns rfl (nRow_one s) ?_; rw [World.setRow_alloc_new]))
      have hb5 := (Below.refl w4.heap.size w4).alloc (Nat.le_refl _) (.cells (nRow s) 32)
      have HF5 : Hid (FallAt w (w4.alloc (.cells (nRow s) 32)) g q w4.heap.size d s s) :=
        Lib.hid ⟨HA4.out.below hb5, HO.out, HB4.out.trans (hb5.mono HB4.out.size), HW4.out.below hb5 HW4.out.lt, Wh.new w4 _ _, HGQ.out, HW4.out.lt, HG.out, .inr (.inr (Nat.le_refl _))⟩
      have HD5 := Lib.hid (HD4.out.below (hb5.mono HB4.out.size))
      clear hb5 HA4 HD4 HB4 HW4 HRG HGQ HO
      generalize w4.alloc (.cells (nRow s) 32) = w5 at *
      generalize w4.heap.size = p at *
      have hk0 : w5.cell? ⟨q, 0, none⟩ = some (.int .u8 (d.kd : Int)) := (HF5.out.copy.cell 0).trans rfl
      have hk1 : w5.cell? ⟨q, 1, none⟩ = some (.slice d.sa d.sl.length d.sc) := (HF5.out.copy.cell 1).trans rfl
      have hk2 : w5.cell? ⟨q, 2, none⟩ = some (.int .u64 (d.tk : Int)) := (HF5.out.copy.cell 2).trans rfl
      have hk3 : w5.cell? ⟨q, 3, none⟩ = some (.int .u64 (d.mo : Int)) := (HF5.out.copy.cell 3).trans rfl
      go_upto_block 2 with (fail)
      go_cut [3] (fun v wx => ∃ s', v = .pointer (some ⟨g, 0, none⟩) ∧ Hid (FallAt w wx g q p d s s'))
      case first =>
        by_cases h0 : d.kd = 0
        · have e0 : ((d.kd : Int) == 0) = true := by simp [h0]
          clear h0
          have HS := Lib.hid (sent_any w5 g d.sa d.sl.length d.sc d.sl s HF5.out.hat rfl (HD5.out.sizes.keep HF5.out.bel.size fun _ _ => rfl) (Nat.le_trans HD5.out.cap HD5.out.top))
          go_wp2_with fail
          refine HS.out.mono ?_
          rintro e w6 ⟨rfl, hg6, h6⟩
          have HF6 := Lib.hid (HF5.out.step hg6 h6 (HF5.out.ok.sent d.sl) (.inr (.inr (Nat.le_refl _))))
          clear hg6 h6 HS HF5 HD5 hk0 hk1 hk2 hk3
          go_wp2
          go_meet
          case rel => exact ⟨_, rfl, HF6⟩
        have e0 : ((d.kd : Int) == 0) = false := by simp; omega
        by_cases h1 : d.kd = 1
        · have e1 : ((d.kd : Int) == 1) = true := by simp [h1]
          clear h0 h1
          have HS := Lib.hid (gone_any w5 g d.sa d.sl.length d.sc d.sl s HF5.out.hat HF5.out.ok.fl rfl (Sx.of HD5.out.sizes HF5.out.base HF5.out.hat.lt) (Nat.le_trans HD5.out.cap HD5.out.top))
          go_wp2_with fail
          refine HS.out.mono ?_
          rintro e w6 ⟨rfl, hg6, h6⟩
          have HF6 := Lib.hid (HF5.out.step hg6 h6 (HF5.out.ok.gone d.sl) (.inr (.inr (Nat.le_refl _))))
          clear hg6 h6 HS HF5 HD5 hk0 hk1 hk2 hk3
          go_wp2
          go_meet
          case rel => exact ⟨_, rfl, HF6⟩
        have e1 : ((d.kd : Int) == 1) = false := by simp; omega
        by_cases h2 : d.kd = 2
        · have e2 : ((d.kd : Int) == 2) = true := by simp [h2]
          clear h0 h1 h2
          go_upto_region 16 with (fail)
          have HF6 := Lib.hid (HF5.out.on (Below.refl w5.heap.size w5).drew)
          have HD6 := Lib.hid (HD5.out.below ((Below.refl w.heap.size w5).drew))
          refine wp_region_held_drew (S := fun w' => Wh w' q 30 (dnCells d).toArray) (by kernel_rfl) HF6.out.copy (fun hS0 => ?_)
          clear HF5 HD5 hk0 hk1 hk2 hk3
          generalize w5.drew = w6 at *
          obtain ⟨v, hv⟩ : ∃ v, v = d.sl.headD 0 := ⟨_, rfl⟩
          have HSZ := Lib.hid (size_any w6 d w.heap.size HD6.out HF6.out.bel.size)
          have HFI := Lib.hid HD6.out.first
          rw [← hv] at HSZ HFI
          clear hv HD6
          -- region 16: made by tools/gen_rnfalls.py
          refine wpAnyH_take (i := 0) (v := .pointer (some ⟨g, 0, none⟩)) (List.getElem?_toArray.trans rfl) (by kernel_rfl) (by kernel_rfl) (by kernel_rfl) (fun _ _ _ h => h) (.inl ⟨rfl, fun w' hS => rfl⟩) hS0 ?_
          refine act_normS (by simp only [Act.put, List.setIfInBounds_toArray, List.set_cons_zero, List.set_cons_succ]; rfl) ?_
          refine wpAnyH_take (i := 1) (v := .pointer (some ⟨q, 2, none⟩)) (List.getElem?_toArray.trans rfl) (by kernel_rfl) (by kernel_rfl) (by kernel_rfl) (fun _ _ _ h => h) (.inl ⟨rfl, fun w' hS => by simp [go_sem]⟩) hS0 ?_
          refine act_normS (by simp only [Act.put, List.setIfInBounds_toArray, List.set_cons_zero, List.set_cons_succ]; rfl) ?_
          refine wpAnyH_take (i := 2) (v := .int .u64 (d.tk : Int)) (List.getElem?_toArray.trans rfl) (by kernel_rfl) (by kernel_rfl) (by kernel_rfl) (fun _ _ _ h => h) (.inl ⟨rfl, fun w' hS => by have hc := copy_tk hS; simp [go_sem, hc]⟩) hS0 ?_
          refine act_normS (by simp only [Act.put, List.setIfInBounds_toArray, List.set_cons_zero, List.set_cons_succ]; rfl) ?_
          refine wpAnyH_take (i := 3) (v := .agg (dnCells d).toArray) (List.getElem?_toArray.trans rfl) (by kernel_rfl) (by kernel_rfl) (by kernel_rfl) (fun _ _ _ h => h) (yieldsIf_load_mid (by rfl) 30 (.tmp 5) rfl q 0 rfl (dnCells d) _ (fun w' hS => copy_range hS) Try.underlying30 rfl info_dn) hS0 ?_
          refine act_normS (by simp only [Act.put, List.setIfInBounds_toArray, List.set_cons_zero, List.set_cons_succ]; rfl) ?_
          refine wpAnyH_ready (rs := [4]) (by kernel_rfl) (by simp) (AllReadyH.cons (List.getElem?_toArray.trans rfl) (fun K' hK => ?_) AllReadyH.nil)
          refine wanted_goS rfl ?_
          go_simp
          refine HSZ.out.mono ?_
          rintro e w7 ⟨rfl, hb7⟩
          have HF7 := Lib.hid (HF6.out.on hb7)
          have hS7 := HF7.out.copy
          clear hb7
          refine hK.out _ _ (hS7) (fun _ => ?_)
          clear hK K'
          refine wpAnyH_ready (rs := [5]) (by kernel_rfl) (by simp) (AllReadyH.cons (List.getElem?_toArray.trans rfl) (fun K' hK => ?_) AllReadyH.nil)
          refine wanted_goS rfl ?_
          go_simp
          refine (acked_any w7 g d.tk v s HF7.out.hat HF7.out.ok HFI.out).mono ?_
          rintro e w8 ⟨s', hr, rfl, hg8, h8⟩
          have hok := HF7.out.ok.acked hr
          have HF8 := Lib.hid (HF7.out.step hg8 h8 hok.1 (.inr (.inr hok.2)))
          have hS8 := HF8.out.copy
          clear hr hg8 h8 hok
          refine hK.out _ _ (hS8) (fun _ => ?_)
          clear hK K'
          refine wpAnyH_done (by kernel_rfl) ?_ _
          clear HF6 HF7 HFI HSZ hS7 hS8 hS0
          go_wp2
          go_meet
          case rel => exact ⟨s', rfl, HF8⟩
          -- behind region 16
        have e2 : ((d.kd : Int) == 2) = false := by simp; omega
        by_cases h3 : d.kd = 3
        · have e3 : ((d.kd : Int) == 3) = true := by simp [h3]
          have HK := Lib.hid h3
          clear h0 h1 h2 h3
          obtain ⟨nw, hnw⟩ : ∃ nw, nw = (d.tk + d.mo) % 18446744073709551616 := ⟨_, rfl⟩
          have ew : IntKind.u64.wrap ((d.tk : Int) + (d.mo : Int)) = (nw : Int) := by rw [IntKind.wrap_u64]; omega
          have hnU : nw ≤ mU := by unfold mU; omega
          have HS := Lib.hid (lost_any w5 g d.tk nw s HF5.out.hat HF5.out.ok.wi)
          have HOK := Lib.hid (HF5.out.ok.lost d.tk hnU)
          have HTU : Hid (s.wi ≤ mU) := Lib.hid HF5.out.ok.wi
          clear hnw hnU
          go_wp2_with fail
          refine HS.out.mono ?_
          rintro e w6 ⟨rfl, hg6, h6⟩
          have HF6 := Lib.hid (HF5.out.step hg6 h6 HOK.out.1 (.inl HK.out))
          clear hg6 h6 HS HF5 HD5 hk0 hk1 hk2 hk3 ew
          have q2 := copy_tk HF6.out.copy
          have p0 : w6.cell? ⟨p, 0, none⟩ = some (.int .u64 (s.wi : Int)) := (HF6.out.was.cell 0).trans rfl
          have p1 : w6.cell? ⟨p, 1, none⟩ = some (.int .u64 (s.th : Int)) := (HF6.out.was.cell 1).trans rfl
          have p2 : w6.cell? ⟨p, 2, none⟩ = some (.int .u64 (s.fl : Int)) := (HF6.out.was.cell 2).trans rfl
          have p3 : w6.cell? ⟨p, 3, none⟩ = some (.int .u64 (s.si : Int)) := (HF6.out.was.cell 3).trans rfl
          have p4 : w6.cell? ⟨p, 4, none⟩ = some (.bool s.rc) := (HF6.out.was.cell 4).trans rfl
          have p5 : w6.cell? ⟨p, 5, none⟩ = some (.int .u64 (s.ac : Int)) := (HF6.out.was.cell 5).trans rfl
          have g0 := HF6.out.hat.c0
          obtain ⟨hf, hhf⟩ : ∃ hf, hf = s.wi / 2 := ⟨_, rfl⟩
          have eh : IntKind.u64.wrap ((s.wi : Int) / 2) = (hf : Int) := by rw [IntKind.wrap_u64]; have := HTU.out; unfold mU at this; omega
          have dh : decide ((lostS s d.tk nw).wi < hf) = false := decide_eq_false (by have := HOK.out.2; omega)
          clear hhf
          rcases ho : s.own d.tk with _ | _
          · rcases hrc : s.rc with _ | _
            · rw [hrc] at p4
              go_upto_region 19 with (fail)
              go_quiet (fail)
              have HF7 := Lib.hid (HF6.out.on (below_drewN (Below.refl w6.heap.size w6) nq))
              clear HF6 q2 p0 p1 p2 p3 p4 p5 g0 eh dh
              go_wp2
              go_meet
              case rel => exact ⟨_, rfl, HF7⟩
            · rw [hrc] at p4
              have dt : decide (d.tk ≤ s.si) = false := by unfold NS.own at ho; rw [hrc] at ho; simpa using ho
              go_upto_region 19 with (fail)
              go_quiet (fail)
              have HF7 := Lib.hid (HF6.out.on (below_drewN (Below.refl w6.heap.size w6) nq))
              clear HF6 q2 p0 p1 p2 p3 p4 p5 g0 eh dh dt
              go_wp2
              go_meet
              case rel => exact ⟨_, rfl, HF7⟩
          · have hrc : s.rc = true := by unfold NS.own at ho; simp at ho; exact ho.1
            have dt : decide (d.tk ≤ s.si) = true := by unfold NS.own at ho; simp at ho; exact decide_eq_true ho.2
            have hls : lostS s d.tk nw = s := lost_own ho
            have HF6' : Hid (FallAt w w6 g q p d s s) := Lib.hid (by have := HF6.out; rwa [hls] at this)
            rw [hls] at g0 dh
            have g1 := HF6'.out.hat.c1
            have g2 := HF6'.out.hat.c2
            have g3 := HF6'.out.hat.c3
            have g4 := HF6'.out.hat.c4
            have g5 := HF6'.out.hat.c5
            rw [hrc] at p4 g4
            clear HF6 hls ho hrc HOK
            go_upto_region 19 with (fail)
            go_quiet (fail)
            have HF7 := Lib.hid (HF6'.out.on (below_drewN (Below.refl w6.heap.size w6) nq))
            clear HF6' q2 p0 p1 p2 p3 p4 p5 g0 g1 g2 g3 g4 g5 eh dh dt
            go_wp2
            go_meet
            case rel => exact ⟨_, rfl, HF7⟩
        have e3 : ((d.kd : Int) == 3) = false := by simp; omega
        by_cases h4 : d.kd = 4
        · have e4 : ((d.kd : Int) == 4) = true := by simp [h4]
          have HK := Lib.hid h4
          clear h0 h1 h2 h3 h4
          have HS := Lib.hid (worst_any w5 g s HF5.out.hat)
          go_wp2_with fail
          refine HS.out.mono ?_
          rintro e w6 ⟨rfl, hg6, h6⟩
          have HF6 := Lib.hid (HF5.out.step hg6 h6 HF5.out.ok.worst (.inr (.inl HK.out)))
          clear hg6 h6 HS HF5 HD5 hk0 hk1 hk2 hk3
          go_wp2
          go_meet
          case rel => exact ⟨_, rfl, HF6⟩
        have e4 : ((d.kd : Int) == 4) = false := by simp; omega
        clear h0 h1 h2 h3 h4
        go_wp2
        go_meet
        case rel => exact ⟨_, rfl, HF5⟩
      case rest =>
        clear hk0 hk1 hk2 hk3 HF5 HD5
        obtain ⟨s', rfl, HF6⟩ := hcut
        go_upto_region 23 with (fail)
        have c0 := HF6.out.hat.c0
        have q0 : wc.cell? ⟨q, 0, none⟩ = some (.int .u8 (d.kd : Int)) := (HF6.out.copy.cell 0).trans rfl
        have p0 : wc.cell? ⟨p, 0, none⟩ = some (.int .u64 (s.wi : Int)) := (HF6.out.was.cell 0).trans rfl
        have d1 : decide ((s'.wi : Int) < 2400) = false := decide_eq_false (by have := HF6.out.ok.low; omega)
        have HB6 := Lib.hid HF6.out.bel
        by_cases h3 : d.kd = 3
        · have e3 : ((d.kd : Int) != 3) = false := by simp [h3]
          clear h3
          go_quiet (fail)
          have HF7 := Lib.hid (HF6.out.on (below_drewN (Below.refl wc.heap.size wc) nq))
          go_wp2
          go_roundw
          case rel => exact ⟨k + 1, s', by omega, by go_num, Lib.hid HF7.out.hat, Lib.hid HF7.out.ok, Lib.hid HF7.out.bel⟩
          case measure => simp [intOf]; omega
        have e3 : ((d.kd : Int) != 3) = true := by simp; omega
        by_cases h4 : d.kd = 4
        · have e4 : ((d.kd : Int) != 4) = false := by simp [h4]
          clear h3 h4
          go_quiet (fail)
          have HF7 := Lib.hid (HF6.out.on (below_drewN (Below.refl wc.heap.size wc) nq))
          go_wp2
          go_roundw
          case rel => exact ⟨k + 1, s', by omega, by go_num, Lib.hid HF7.out.hat, Lib.hid HF7.out.ok, Lib.hid HF7.out.bel⟩
          case measure => simp [intOf]; omega
        have e4 : ((d.kd : Int) != 4) = true := by simp; omega
        have dl : decide (s'.wi < s.wi) = false := decide_eq_false (by have := HF6.out.low; omega)
        clear h3 h4
        go_quiet (fail)
        have HF7 := Lib.hid (HF6.out.on (below_drewN (Below.refl wc.heap.size wc) nq))
        go_wp2
        go_roundw
        case rel => exact ⟨k + 1, s', by omega, by go_num, Lib.hid HF7.out.hat, Lib.hid HF7.out.ok, Lib.hid HF7.out.bel⟩
        case measure => simp [intOf]; omega
    · obtain rfl : k = N := by omega
      have d0 : decide (k < k) = false := decide_eq_false (by omega)
      go_wp2_with fail
      refine (nworks_any wr).mono ?_
      rintro e w4 ⟨rfl, hb4⟩
      have HB4 := Lib.hid (HB.out.trans (hb4.mono HB.out.size))
      clear hb4 HB
      go_wp2
      go_ret
      exact ⟨rfl, HB4.out⟩

end Go.Proofs.Ytmidlgojknfooaa
