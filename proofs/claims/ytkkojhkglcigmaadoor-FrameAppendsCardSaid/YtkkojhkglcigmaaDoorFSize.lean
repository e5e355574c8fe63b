/-
  The walk through frame.Size.
-/
import Derived.Test.YtkkojhkglcigmaaDoorNums
namespace Go.Proofs.YtkkojhkglcigmaaDoor
open Go.RowKit
set_option linter.unusedVariables false

/-- How many bytes a frame has that may be. -/
def sizeF (f : PF) : Nat := if f.kind = 0 then f.n else f.data.length + f.cid.length + (if bt (partsN f.kind) 2048 = true then 16 else 0) + sumSz (numsN f)

theorem acks_part : ∀ k : Nat, k < 31 → bt (partsN k) 128 = true → k = 2 ∨ k = 3 := by decide +kernel

theorem wire_acks {f : PF} (h : bt (wireP f) 128 = true) : f.kind = 2 ∨ f.kind = 3 := by
  unfold wireP at h
  split at h
  · exact absurd h (by decide)
  · by_cases hk : f.kind < 31
    · exact acks_part f.kind hk h
    · rw [partsN_big (by omega)] at h
      exact absurd h (by decide)

theorem may_acks {f : PF} (hm : MayF f) (hl : f.acks.length ≤ 65536) : bt (wireP f) 128 = true → f.acks ≠ [] ∧ OkR f.acks ∧ f.acks.length ≤ 65536 := fun h => by
  have := hm.2.2.2.2.1 (wire_acks h)
  exact ⟨this.2, this.1, hl⟩

theorem pn_len (f : PF) (k n : Nat) (l : List Nat) (h : l.length ≤ n) : (pn f k l).length ≤ n := by
  unfold pn
  split
  · exact h
  · exact Nat.zero_le _

theorem numsN_len {f : PF} (hl : f.acks.length ≤ 65536) : (numsN f).length ≤ 131100 := by
  have h1 := pn_len f 2 1 [f.id] (by simp)
  have h2 := pn_len f 4 1 [f.off] (by simp)
  have h3 := pn_len f 8 1 [f.code] (by simp)
  have h4 := pn_len f 16 1 [f.max] (by simp)
  have h5 := pn_len f 128 131080 (ackNums f) (by rw [ackNums_len]; omega)
  have h6 := pn_len f 256 3 [f.e0, f.e1, f.e2] (by simp)
  have h7 := pn_len f 512 1 [f.data.length] (by simp)
  have h8 := pn_len f 2048 1 [f.cid.length] (by simp)
  unfold numsN
  simp only [List.length_append, List.length_singleton]
  omega

set_option maxRecDepth 100000 in
set_option maxHeartbeats 4000000 in
theorem fsize_any (R : Array Value) (f : PF) (a : SA) (w : World) (B : Nat) (hR : RowIs R f a) (hf : FrAt w B f a) (hB : B ≤ w.heap.size) (hT : PT w) (hl : f.acks.length ≤ 65536) :
    Calls Tryd.prog 11 #[.agg R] w fun e w' => (MayF f → e = .returned (.int .i64 (sizeF f : Nat))) ∧ (¬ MayF f → e = .returned (.int .i64 0)) ∧ Below w.heap.size w w' := by
  have h0 := hR.kind
  have h5 := hR.n
  have h7 := hR.data
  have h8 := hR.cid
  have hdl := hf.dl
  have hcl := hf.cl
  have hsz := hR.size
  have hw0 : Wh (w.alloc (.cells R 32)) w.heap.size 32 R := Wh.new w _ R
  have hb0 : Below w.heap.size w (w.alloc (.cells R 32)) := (Below.refl _ _).alloc (Nat.le_refl _) _
  have HI : Hid ((Tryd.prog.info? 32).map (·.size) = some R.size) := by rw [hsz]; exact info_frame
  have HP := Lib.hid (fun (wx : World) (h : Below w.heap.size w wx) => partsOf_any f.kind wx (hT.below h hT.lt))
  have HM := Lib.hid (fun (wx : World) (h : Below w.heap.size w wx) => may_any R f a wx B hR (hf.below (h.mono hB)) (Nat.le_trans hB h.size) (hT.below h hT.lt))
  have HN := Lib.hid (fun (wx : World) (h : Below w.heap.size w wx) (hm : MayF f) => numbers_any R f a wx B hR (hf.below (h.mono hB)) (Nat.le_trans hB h.size) (hT.below h hT.lt) (may_acks hm hl))
  have hnl := numsN_len hl
  have HSZ : Hid (sizeF f = if f.kind = 0 then f.n else f.data.length + f.cid.length + (if bt (partsN f.kind) 2048 = true then 16 else 0) + sumSz (numsN f)) := rfl
  have hnn : f.n < 18446744073709551616 := hf.nums.2.2.2.2.2.1
  have HKN : Hid (MayF f → f.kind = 0 → f.n ≤ 65536) := fun hm h => (hm.2.2.2.1 h).2
  have HW := Lib.hid hw0
  have HB := Lib.hid hb0
  have HLT : Hid (w.heap.size < (w.alloc (.cells R 32)).heap.size) := hw0.lt
  clear hsz hR hf hT hw0 hb0 hB hl
  generalize f.data.length = dn at *
  generalize f.cid.length = cn at *
  go_enter Tryd.func11, Tryd.ntmps11
  go_wp2_with (refine wpList_load_any 32 (.tmp 1) rfl rfl w.heap.size rfl _ R _ HW.out Tryd.underlying32 rfl HI.out ?_)
  refine (HM.out _ HB.out).mono ?_
  rintro e w1 ⟨hy, hno, hb1⟩
  have HB1 := Lib.hid (HB.out.trans (hb1.mono (Nat.le_of_lt HLT.out)))
  have HW1 := Lib.hid (HW.out.below hb1 HLT.out)
  clear hb1
  by_cases hm : MayF f
  · obtain rfl := hy hm
    clear hy hno
    have HMF := Lib.hid hm
    clear hm
    have c0 := (HW1.out.cell 0).trans h0
    have c5 := (HW1.out.cell 5).trans h5
    have c7 := (HW1.out.cell 7).trans h7
    have c8 := (HW1.out.cell 8).trans h8
    by_cases hk : f.kind = 0
    · have t1 : ((f.kind : Int) == 0) = true := by simp; omega
      have hn := HKN.out HMF.out hk
      have HS : Hid (sizeF f = f.n) := HSZ.out.trans (if_pos hk)
      have z1 : IntKind.i64.wrap (f.n : Int) = (f.n : Int) := IntWalk.i64_in _ (by omega)
      clear hk h0 h5 h7 h8
      go_wp2
      go_ret
      exact ⟨fun _ => by rw [HS.out]; rfl, fun h => absurd HMF.out h, HB1.out⟩
    · have t1 : ((f.kind : Int) == 0) = false := by rw [beq_eq_false_iff_ne]; omega
      have HS : Hid (sizeF f = dn + cn + (if bt (partsN f.kind) 2048 = true then 16 else 0) + sumSz (numsN f)) := HSZ.out.trans (if_neg hk)
      have z1 : IntKind.i64.wrap ((dn : Int) + (cn : Int)) = (dn : Int) + (cn : Int) := IntWalk.i64_in _ (by omega)
      clear hk h0 h5 h7 h8
      go_wp2_with fail
      refine (HP.out _ HB1.out).mono ?_
      rintro e w' ⟨rfl, rfl⟩
      go_upto_if 26 with fail
      go_cut [3] (fun v wx => v = .int .i64 ((dn + cn + (if bt (partsN f.kind) 2048 = true then 16 else 0) : Nat) : Int) ∧ wx = w1)
      case first =>
        cases hb : bt (partsN f.kind) 2048
        · have hbt : (bits .and .u16 (partsN f.kind : Int) 2048 != 0) = false := hb
          have HQ : Hid ((if bt (partsN f.kind) 2048 = true then 16 else 0 : Nat) = 0) := by show _ = _; rw [hb]; rfl
          clear hb
          go_wp2_with fail
          go_meet
          exact ⟨by rw [HQ.out]; simp, rfl⟩
        · have hbt : (bits .and .u16 (partsN f.kind : Int) 2048 != 0) = true := hb
          have z2 : IntKind.i64.wrap ((dn : Int) + (cn : Int) + 16) = (dn : Int) + (cn : Int) + 16 := IntWalk.i64_in _ (by omega)
          have HQ : Hid ((if bt (partsN f.kind) 2048 = true then 16 else 0 : Nat) = 16) := by show _ = _; rw [hb]; rfl
          clear hb
          go_wp2_with fail
          go_meet
          exact ⟨by rw [HQ.out]; simp, rfl⟩
      case rest =>
      obtain ⟨rfl, rfl⟩ := hcut
      have hq : (if bt (partsN f.kind) 2048 = true then 16 else 0) ≤ 16 := by split <;> omega
      generalize (if bt (partsN f.kind) 2048 = true then 16 else 0) = q at *
      clear c0 c5 c7 c8 z1 t1
      go_wp2_with (refine wpList_load_any 32 (.tmp 1) rfl rfl w.heap.size rfl _ R _ HW1.out Tryd.underlying32 rfl HI.out ?_)
      refine (HN.out _ HB1.out HMF.out).mono ?_
      rintro e w2 ⟨A2, c2, rfl, q1, q2, hown2, hb2⟩
      have HB2 := Lib.hid (HB1.out.trans (hb2.mono HB1.out.size))
      have hsv : Sn w2 w2.heap.size A2 (numsN f) := Sv.of_own hown2
      have HSV := Lib.hid hsv
      clear hown2 hb2 hsv
      generalize hnf : numsN f = ns at *
      clear hnf
      clear HM HN HP
      generalize hln : ns.length = len at *
      have HL := Lib.hid hln
      clear hln
      go_wp2
      go_loop [3, 5, 32] (fun vs vn i => ∃ k : Nat, k ≤ len ∧ i = .int .i64 k ∧ vs = .int .i64 ((dn + cn + q + sumSz (ns.take k) : Nat) : Int)) (fun _ _ i => len - (intOf i).toNat)
      case atStart => exact ⟨0, Nat.zero_le _, rfl, by simp [sumSz]⟩
      case round =>
        obtain ⟨k, hk, rfl, rfl⟩ := hrel
        by_cases hlt : k < len
        · obtain ⟨n, hn⟩ : ∃ n, ns[k]? = some n := ⟨_, List.getElem?_eq_getElem (by rw [HL.out]; exact hlt)⟩
          obtain ⟨b, off, rfl, hb, hc⟩ := HSV.out.at_ (by rw [HL.out]; omega)
          have hcell := hc k n hn
          have hsum := sumSz_le (ns.take k)
          have hl8 : (ns.take k).length ≤ k := List.length_take_le _ _
          have hsz8 := szN_le n
          have HN := Lib.hid (show sumSz (ns.take (k + 1)) = sumSz (ns.take k) + szN n by rw [takeN_next ns k n hn, sumSz_snoc])
          clear hc hn
          generalize sumSz (ns.take k) = m at *
          generalize hz : szN n = z at *
          have HZ := Lib.hid hz
          clear hz
          go_wp2_with (go_at_call 31; refine (size_any n _).mono ?_; rintro e w' ⟨rfl, rfl⟩; rw [HZ.out])
          go_round
          case rel => exact ⟨k + 1, by omega, by go_num, by rw [HN.out]; go_num⟩
          case measure => simp [intOf]; omega
        · obtain rfl : k = len := by omega
          have HSS : Hid (sizeF f = dn + cn + q + sumSz (ns.take k)) := HS.out.trans (by rw [List.take_of_length_le (by rw [HL.out]; exact Nat.le_refl _)])
          go_wp2
          go_ret
          exact ⟨fun _ => by show Ending.returned (.int .i64 ((dn : Int) + (cn : Int) + (q : Int) + (sumSz (ns.take k) : Int))) = _; rw [HSS.out]; simp only [Int.natCast_add], fun h => absurd HMF.out h, HB2.out⟩
  · obtain rfl := hno hm
    have HMF := Lib.hid hm
    clear hy hno hm
    go_wp2
    go_ret
    exact ⟨fun h => absurd h HMF.out, fun _ => rfl, HB1.out⟩

end Go.Proofs.YtkkojhkglcigmaaDoor
