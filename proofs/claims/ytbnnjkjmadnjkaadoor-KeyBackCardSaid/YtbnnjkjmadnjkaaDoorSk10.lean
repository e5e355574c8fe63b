/-
  sha.state's take: a block that is taken in.
  sha.first, sha.ending: the state at first; what stands behind a text.
-/
import Derived.Test.YtbnnjkjmadnjkaaDoorSk9
import Derived.IntWalk
import Derived.WalkSpells
import Derived.WalkLawsBesides
import Derived.Deep.DeepCutAuto
import Derived.Laws.CopyOwn
import Derived.Test.YtbnnjkjmadnjkaaDoorSk3
import Derived.Test.YtbnnjkjmadnjkaaDoorSk1
namespace Go.Proofs.YtbnnjkjmadnjkaaDoor
section
open Go.RowKit
set_option linter.unusedVariables false

theorem own_le {w : World} {base base' n : Nat} {e : TypeId} {v : Value} {xs : List Value} (h : w.ownsRow base e 1 v n xs) (hb : base' ≤ base) : w.ownsRow base' e 1 v n xs :=
  ⟨h.1, h.2.elim .inl (fun ⟨g, cap, cur, hv, hg, r⟩ => .inr ⟨g, cap, cur, hv, Nat.le_trans hb hg, r⟩)⟩

/-- The rounds' words in memory. -/
def KT (w : World) (ks : List W32) : Prop := ∃ t fr, w.heap[0]? = some (.cells (wRow ks) t fr)

theorem KT.below {w w' : World} {B : Nat} {ks : List W32} (h : KT w ks) (hB : 0 < B) (hb : Below B w w') : KT w' ks := by
  obtain ⟨t, fr, h⟩ := h
  exact ⟨t, fr, (hb.block _ hB).trans h⟩

set_option maxRecDepth 100000 in
theorem idx64 (l : List W32) (n : Nat) (w : World) (hl : l.length = 64) (hn : n < 64) : (Instr.index 152 (.agg (wRow l)) (.int .i64 (n : Int))).run Tryd.prog w = .ok (.int .u32 (wi (l.getD n 0))) w := by
  have h1 : n < l.length := by omega
  have h2 : (sizeOf 108).run Tryd.prog w = .ok 1 w := by kernel_rfl
  have h4 : (part 108 (wRow l) n).run Tryd.prog w = .ok (.int .u32 (wi (l.getD n 0))) w := by
    have h5 : (isAgg 108).run Tryd.prog w = .ok false w := by kernel_rfl
    simp [part, h5, wRow, h1, cw, List.getD]
  have h3 : (0 : Int) ≤ (n : Int) ∧ (n : Int) < 64 := by omega
  simp [Instr.index, asIntOf, run_underlying Tryd.underlying152, h2, hn, h4]

set_option maxRecDepth 100000 in
theorem idx8 (l : List W32) (n : Nat) (w : World) (hl : l.length = 8) (hn : n < 8) : (Instr.index 136 (.agg (wRow l)) (.int .i64 (n : Int))).run Tryd.prog w = .ok (.int .u32 (wi (l.getD n 0))) w := by
  have h1 : n < l.length := by omega
  have h2 : (sizeOf 108).run Tryd.prog w = .ok 1 w := by kernel_rfl
  have h4 : (part 108 (wRow l) n).run Tryd.prog w = .ok (.int .u32 (wi (l.getD n 0))) w := by
    have h5 : (isAgg 108).run Tryd.prog w = .ok false w := by kernel_rfl
    simp [part, h5, wRow, h1, cw, List.getD]
  have h3 : (0 : Int) ≤ (n : Int) ∧ (n : Int) < 8 := by omega
  simp [Instr.index, asIntOf, run_underlying Tryd.underlying136, h2, hn, h4]

set_option maxRecDepth 100000 in
set_option maxHeartbeats 400000 in
theorem take_any (b off ob : Nat) (ks : List W32) (s : S8) (post : List Value) (T : TypeId) (bs : List UInt8) (w : World) (hk : ks.length = 64) (hK : KT w ks) (hKb : 0 < w.heap.size) (hb : b < w.heap.size) (hob : ob < w.heap.size) (hl : bs.length = 64)
    (hc : ∀ j x, bs[j]? = some x → w.cell? ⟨b, off + j, none⟩ = some (cell8 x)) (hs : Wh w ob T ((s.l.map cw ++ post).toArray)) :
    Calls Tryd.prog 91 #[.pointer (some ⟨ob, 0, none⟩), .pointer (some ⟨b, off, none⟩)] w fun e w' => e = .returned (.tuple #[]) ∧ w.grownBy w' (some ob) ∧ Wh w' ob T (((takeS ks s bs).l.map cw ++ post).toArray) := by
  have HC := Lib.hid hc
  have HS := Lib.hid hs
  have HK := Lib.hid hK
  have HL := Lib.hid hl
  have HKL := Lib.hid hk
  clear hc hs hK hl hk
  go_enter Tryd.func91, Tryd.ntmps91
  go_wp2_with fail
  refine (sched_any b off bs _ hb HL.out HC.out).mono ?_
  rintro e w1 ⟨rfl, hb1⟩
  have HB1 := Lib.hid hb1
  clear hb1
  have hwl := wsW_len bs
  generalize hws : wsW bs = ws at *
  have HWL := Lib.hid hwl
  have HWS := Deep.mk hws
  clear hwl hws
  go_upto_region 1 with (first
    | (refine wpList_store_row rfl 152 (.tmp 4) (.tmp 20) rfl w1.heap.size (wRow ws) rfl rfl _ _ (heap_alloc_new w1 _) (info_wRow HWL.out) (by rw [wRow_size, HWL.out]; rfl) (wRow_one _) ?_; rw [World.setRow_alloc_new]))
  obtain ⟨g, hg⟩ : ∃ g, g = w1.heap.size := ⟨_, rfl⟩
  have hwg : w.heap.size ≤ g := by rw [hg]; exact HB1.out.size
  have hBW : Below w.heap.size w (w1.alloc (.cells (wRow ws) 152)) := HB1.out.alloc HB1.out.size _
  have hWg : Wh (w1.alloc (.cells (wRow ws) 152)) g 152 (wRow ws) := by rw [hg]; exact Wh.new _ _ _
  rw [← hg]
  have HGG := Lib.hid hg
  clear hg
  generalize w1.alloc (.cells (wRow ws) 152) = W at *
  have HW := Lib.hid hWg
  have HBW := Lib.hid hBW
  have hgW : g < W.heap.size := hWg.lt
  have HKW := Lib.hid (HK.out.below hKb hBW)
  have HSW := Lib.hid (HS.out.below hBW hob)
  have c0 : W.cell? ⟨ob, 0, none⟩ = some (.int .u32 (wi s.a)) := HSW.out.cell 0
  have c1 : W.cell? ⟨ob, 1, none⟩ = some (.int .u32 (wi s.b)) := HSW.out.cell 1
  have c2 : W.cell? ⟨ob, 2, none⟩ = some (.int .u32 (wi s.c)) := HSW.out.cell 2
  have c3 : W.cell? ⟨ob, 3, none⟩ = some (.int .u32 (wi s.d)) := HSW.out.cell 3
  have c4 : W.cell? ⟨ob, 4, none⟩ = some (.int .u32 (wi s.e)) := HSW.out.cell 4
  have c5 : W.cell? ⟨ob, 5, none⟩ = some (.int .u32 (wi s.f)) := HSW.out.cell 5
  have c6 : W.cell? ⟨ob, 6, none⟩ = some (.int .u32 (wi s.g)) := HSW.out.cell 6
  have c7 : W.cell? ⟨ob, 7, none⟩ = some (.int .u32 (wi s.h)) := HSW.out.cell 7
  clear hWg hBW HS HC HK HB1
  go_quiet (fail)
  clear c0 c1 c2 c3 c4 c5 c6 c7
  have HD := Lib.hid (below_drewN (Below.refl W.heap.size W) nq)
  generalize W.drewN nq = W2 at *
  obtain ⟨tK, frK, hKr⟩ := HKW.out.below (by have := HBW.out.size; omega) HD.out
  have HKR := Lib.hid hKr
  clear hKr HKW
  have HW2 := Lib.hid (HW.out.below HD.out hgW)
  have hgW2 : g < W2.heap.size := HW2.out.lt
  go_wp2_with (refine wpList_load_row rfl 152 (.global 0) rfl 0 rfl _ (wRow ks) _ _ HKR.out Tryd.underlying152 rfl (info_wRow HKL.out) ?_)
  go_loopw [5, 6, 7, 8, 9, 10, 11, 12, 13, 14, 15, 16, 54] (fun va vb vc vd ve vf vg vh _ _ _ _ i wr => ∃ (n : Nat) (r : S8), n ≤ 64 ∧ i = .int .i64 (n : Int) ∧ Deep (r = rndN ks ws s n) ∧ va = .int .u32 (wi r.a) ∧ vb = .int .u32 (wi r.b) ∧ vc = .int .u32 (wi r.c) ∧ vd = .int .u32 (wi r.d) ∧ ve = .int .u32 (wi r.e) ∧ vf = .int .u32 (wi r.f) ∧ vg = .int .u32 (wi r.g) ∧ vh = .int .u32 (wi r.h) ∧ Hid (Below W2.heap.size W2 wr)) (fun _ _ _ _ _ _ _ _ _ _ _ _ i _ => 64 - (intOf i).toNat)
  case atStart => exact ⟨0, s, by omega, rfl, ⟨rfl⟩, rfl, rfl, rfl, rfl, rfl, rfl, rfl, rfl, Lib.hid (Below.refl _ _)⟩
  case round =>
    obtain ⟨n, r, hn, rfl, HR, rfl, rfl, rfl, rfl, rfl, rfl, rfl, rfl, HE⟩ := hrel
    by_cases hlt : n < 64
    · have hkn := idx64 ks n wr HKL.out hlt
      have hwn : wr.cell? ⟨g, n, none⟩ = some (.int .u32 (wi (ws.getD n 0))) := by
        have : n < ws.length := by rw [HWL.out]; exact hlt
        rw [(HW2.out.below HE.out hgW2).cell]
        simp [wRow, List.getD, this, cw]
      generalize hk1 : ks.getD n 0 = k at *
      generalize hw1 : ws.getD n 0 = v at *
      have HK1 := Deep.mk hk1
      have HV1 := Deep.mk hw1
      clear hk1 hw1
      go_wp2
      have hnc : (n : Int) < 64 := by omega
      go_quiet ((go_at_call 95; exact Calls.quiet_of_same ((mix_i r.e 6 11 25 _ (by decide) (by decide) (by decide) (by decide) (by decide) (by decide)).mono fun _ _ h => ⟨h.1, h.2.symm⟩)))
      go_wp2_with (go_at_call 95; refine (mix_i r.a 2 13 22 _ (by decide) (by decide) (by decide) (by decide) (by decide) (by decide)).mono ?_; rintro e w4 ⟨rfl, rfl⟩)
      refine ⟨⟨n + 1, rnd r k v, by omega, rfl, ⟨?_⟩, ?_, rfl, rfl, rfl, ?_, rfl, rfl, rfl, ?_⟩, by simp [intOf]; omega⟩
      · rw [rndN, ← HR.out, HK1.out, HV1.out]
      · rw [wi_t1, wi_t2, wi_add']; rfl
      · rw [wi_t1, wi_add']; rfl
      · exact Lib.hid (below_drewN HE.out _)
    · have hnd : decide ((n : Int) < 64) = false := by rw [decide_eq_false_iff_not]; omega
      have HR64 : Deep (r = rndN ks ws s 64) := ⟨by rw [HR.out, show n = 64 by omega]⟩
      clear hlt hn HR
      go_wp2
      rw [show (#[.int .u32 (wi r.a), .int .u32 (wi r.b), .int .u32 (wi r.c), .int .u32 (wi r.d), .int .u32 (wi r.e), .int .u32 (wi r.f), .int .u32 (wi r.g), .int .u32 (wi r.h)] : Array Value) = wRow r.l from rfl]
      have HR8 := Lib.hid ((HSW.out.below HD.out (by have := HBW.out.size; omega)).below HE.out (by have := HBW.out.size; have := HD.out.size; omega))
      have HGR := Lib.hid ((HBW.out.trans (HD.out.mono HBW.out.size)).trans (HE.out.mono (Nat.le_trans HBW.out.size HD.out.size)))
      generalize wr = w3 at *
      clear hnd
      go_loopw [17, 18, 113] (fun _ _ i wr => ∃ k : Nat, k ≤ 8 ∧ i = .int .i64 (k : Int) ∧ Hid (w3.grownBy wr (some ob)) ∧ Hid (Wh wr ob T (((midS s r k).map cw ++ post).toArray))) (fun _ _ i _ => 8 - (intOf i).toNat)
      case atStart => exact ⟨0, by omega, rfl, Lib.hid (World.grownBy.refl _ _), HR8⟩
      case round =>
        obtain ⟨k, hk, rfl, HG5, HR5⟩ := hrel
        by_cases hk8 : k < 8
        · have hix := idx8 r.l k wr rfl hk8
          have hsk : wr.cell? ⟨ob, k, none⟩ = some (.int .u32 (wi (s.l.getD k 0))) := by
            rw [HR5.out.cell]
            have h1 : k < (midS s r k).length := by rw [midS_len s r k hk]; exact hk8
            simp only [List.getElem?_toArray]
            rw [List.getElem?_append_left (by simpa using h1), List.getElem?_map, midS_at s r k hk8]
            rfl
          have hfk := HR5.out.frozen k
          generalize h1 : r.l.getD k 0 = x at *
          generalize h2 : s.l.getD k 0 = y at *
          have HX := Deep.mk h1
          have HY := Deep.mk h2
          clear h1 h2
          go_wp2
          have hkc : (k : Int) < 8 := by omega
          go_region_law (fail)
          all_goals
            clear hkc
            rw [wi_add]
            have HW4 := Lib.hid ((HR5.out.put k (.int .u32 (wi (y + x)))).drewN 1)
            have HG4 := Lib.hid (grown_drewN (grown_trans HG5.out (grown_set _ ob k (.int .u32 (wi (y + x))))) 1)
            clear HR5 HG5
            change Exit.inBlock 3 _ _ _ ((wr.setCell ⟨ob, k, none⟩ (.int .u32 (wi (y + x)))).drewN 1)
            generalize (wr.setCell ⟨ob, k, none⟩ (.int .u32 (wi (y + x)))).drewN 1 = w5 at *
            go_wp2
            refine ⟨⟨k + 1, by omega, rfl, HG4, ?_⟩, by simp [intOf]; omega⟩
            have h := HW4.out
            have hs := midS_step s r k hk8
            rw [HX.out, HY.out] at hs
            rw [← hs]
            have e : ((midS s r k).map cw ++ post).toArray.setIfInBounds k (.int .u32 (wi (y + x))) = (((midS s r k).set k (y + x)).map cw ++ post).toArray := by
              rw [List.setIfInBounds_toArray, List.set_append_left _ _ (by rw [List.length_map, midS_len s r k hk]; exact hk8), List.map_set]
              rfl
            rw [e] at h
            exact Lib.hid h
        · have HF : Hid (Wh wr ob T (((addS s r).l.map cw ++ post).toArray)) := by
            have h := HR5.out
            rw [show k = 8 by omega, midS_full] at h
            exact Lib.hid h
          have hkd : decide ((k : Int) < 8) = false := by rw [decide_eq_false_iff_not]; omega
          have HZ : Deep (addS s r = takeS ks s bs) := ⟨by rw [takeS, HWS.out, ← HR64.out]⟩
          have HGF := Lib.hid (grown_trans (grown_below (row := some ob) HGR.out) HG5.out)
          clear hk hk8 HR5 HG5
          go_wp2
          go_end0
          refine ⟨rfl, HGF.out, ?_⟩
          rw [← HZ.out]
          exact HF.out
end

section
open Go.RowKit
set_option linter.unusedVariables false

theorem info_w8 : (Tryd.prog.info? 137).map (·.size) = some 8 := by kernel_rfl

set_option maxRecDepth 100000 in
set_option maxHeartbeats 400000 in
theorem first_any (w : World) : Calls Tryd.prog 84 #[] w fun e w' => e = .returned (.agg (wRow initS.l)) ∧ Below w.heap.size w w' := by
  go_enter Tryd.func84, Tryd.ntmps84
  go_wp2
  refine bodyPost_ret (v := .agg (wRow initS.l)) (by simp [results, Tryd.results84, go_sem]; rfl) rfl ⟨rfl, (Below.refl _ _).alloc (Nat.le_refl _) _⟩

theorem first_lit (w : World) : Calls Tryd.prog 84 #[] w fun e w' => e = .returned (.agg #[.int .u32 1779033703, .int .u32 3144134277, .int .u32 1013904242, .int .u32 2773480762, .int .u32 1359893119, .int .u32 2600822924, .int .u32 528734635, .int .u32 1541459225]) ∧ Below w.heap.size w w' := first_any w

/-- A byte's row of the table of types. -/
theorem info8 : (Tryd.prog.info? 5).map (fun i => (i.zero, i.size, i.bytes)) = some (some (.int .u8 0), 1, 1) := by kernel_rfl

/-- Bytes in memory of their own. -/
def GaveB (w : World) (l : List UInt8) (e : Ending) (w' : World) : Prop :=
  ∃ A' c', e = .returned (.slice A' l.length c') ∧ l.length ≤ c' ∧ c' ≤ maxLen ∧ w'.ownsRow w.heap.size 5 1 (.slice A' l.length c') l.length (l.map cell8) ∧ Below w.heap.size w w'

/-- The row of an ending while nothing but its first byte is laid. -/
def zRowE (n : Nat) : Array Value := (Array.replicate n (Value.int .u8 0)).setIfInBounds 0 (.int .u8 128)
theorem zrow_set (z n : Nat) (hn : n = z + 1 + 8) : zRowE n = (.int .u8 128 :: List.replicate (z + 8) (Value.int .u8 0)).toArray := by
  subst hn
  rw [zRowE, ← List.toArray_replicate, List.setIfInBounds_toArray, show z + 1 + 8 = (z + 8) + 1 by omega, List.replicate_succ, List.set_cons_zero]

set_option maxRecDepth 100000 in
set_option maxHeartbeats 400000 in
theorem ending_any (n : Nat) (w : World) (hn : n ≤ 16777216) : Calls Tryd.prog 86 #[.int .u64 (n : Int)] w (GaveB w (endB n)) := by
  obtain ⟨i0, hi0, hz0, hz1, hz2⟩ := info_parts info8
  obtain ⟨z, hz⟩ : ∃ z, z = (119 - n % 64) % 64 := ⟨_, rfl⟩
  have hz63 : z ≤ 63 := by omega
  have HZ := Lib.hid hz
  have hM : (1 : Int) + (119 - (n : Int)) % 64 = ((z + 1 : Nat) : Int) := by omega
  have hN : (9 : Int) + (119 - (n : Int)) % 64 = ((z + 1 + 8 : Nat) : Int) := by omega
  have HM := Lib.hid hM
  have HN := Lib.hid hN
  have hwh : Wh (w.alloc (.cells (zRowE (z + 1 + 8)) 5)) w.heap.size 5 (.int .u8 128 :: List.replicate (z + 8) (Value.int .u8 0)).toArray := by
    rw [zrow_set z _ rfl]
    exact Wh.new w 5 _
  have hown := own_of_wh hwh w.heap.size (z + 1) (z + 1 + 8) (Nat.le_refl _) (by simp) (by omega) (by unfold maxLen; omega)
  have hbe : Below w.heap.size w (w.alloc (.cells (zRowE (z + 1 + 8)) 5)) := (Below.refl _ _).alloc (Nat.le_refl _) _
  have hc0 : (w.alloc (.cells (List.replicate (z + 1 + 8) (.int .u8 0)).toArray 5)).cell? ⟨w.heap.size, 0, none⟩ = some (.int .u8 0) := by
    rw [(Wh.new w 5 _).cell]; simp
  have hf0 : (w.alloc (.cells (List.replicate (z + 1 + 8) (.int .u8 0)).toArray 5)).frozen? ⟨w.heap.size, 0, none⟩ = false := (Wh.new w 5 _).frozen 0
  clear hz hM hN hwh
  have htk : ((.int .u8 128 :: List.replicate (z + 8) (Value.int .u8 0)).take (z + 1)) = ((128 : UInt8) :: List.replicate z 0).map cell8 := by
    simp [cell8]
  rw [htk] at hown
  have HO := Lib.hid hown
  have HB := Lib.hid hbe
  clear htk hown hbe
  go_enter Tryd.func86, Tryd.ntmps86
  go_upto_region 4 with (at_make; (refine wpList_make_mn _ rfl _ _ _ rfl 5 i0 (.int .u8 0) Tryd.underlying28 hi0 hz0 hz1 rfl _ _ _ _ (z + 1) (z + 1 + 8) rfl rfl HM.out HN.out (by omega) (by rw [hz2]; omega) (by omega) ?_))
  clear hc0 hf0
  change Code.wp _ _ _ _ (w.alloc (.cells (zRowE (z + 1 + 8)) 5))
  generalize w.alloc (.cells (zRowE (z + 1 + 8)) 5) = w1 at *
  go_wp2
  go_loopw [4, 6] (fun vb va wr => ∃ (k : Nat) (pre : List UInt8), k ≤ 8 ∧ va = .int .i64 (8 * (k : Int) - 8) ∧ Hid (be (8 * n) 8 = pre ++ be (8 * n) k) ∧ pre.length + k = 8 ∧ wr.ownsRow w.heap.size 5 1 vb (z + 1 + pre.length) (((128 : UInt8) :: List.replicate z 0).map cell8 ++ pre.map cell8) ∧ Below w.heap.size w wr)
    (fun _ va _ => (intOf va + 8).toNat)
  case atStart => exact ⟨8, [], Nat.le_refl _, rfl, Lib.hid rfl, by simp, by simpa using HO.out, HB.out⟩
  case round =>
    obtain ⟨k, pre, hk, rfl, hsplit, hpl, hown1, hbel⟩ := hrel
    have HP := Lib.hid hpl
    by_cases h0 : 1 ≤ k
    · obtain ⟨j, rfl⟩ : ∃ j, k = j + 1 := ⟨k - 1, by omega⟩
      have hp7 : pre.length ≤ 7 := by omega
      clear hpl
      go_wp2_with (at_builtin; refine wpList_append_sv _ rfl _ _ _ rfl w.heap.size 5 i0 _ 1 Tryd.underlying28 hi0 hz0 hz1 hz2 rfl _ _ _ rfl (hown1.alloc _) _ _ 1 1 _ rfl (sv_new _ _ _) rfl (fun u hu => by simp at hu; subst hu; rfl) (by unfold maxLen; omega) (by omega) (by have := hbel.size; simp; omega) ?_; intro v1 w1 hown2 hg2 hat2)
      go_roundw
      case rel =>
        have hb2 : Below w.heap.size w w1 := (hbel.alloc (by have := hbel.size; omega) _).grown hg2 (by have := hbel.size; simp; omega) (fun q hq => (hown1.lt q hq).1)
        have hlen' := HP.out
        refine ⟨j, pre ++ [UInt8.ofNat (8 * n / 256 ^ j % 256)], by omega, by go_num, ?_, by simp; omega, ?_, hb2⟩
        · exact hsplit.out.trans (by simp [be])
        · have hb := be_cell (8 * n) j
          rw [show ((8 * n : Nat) : Int) = 8 * (n : Int) by omega] at hb
          rw [show 8 * (j + 1) - 8 = 8 * j by omega, hb] at hown2
          rw [List.length_append, List.length_singleton, List.map_append, ← Nat.add_assoc, ← List.append_assoc]
          exact hown2
      case measure => simp [intOf]; omega
    · obtain rfl : k = 0 := by omega
      go_wp2
      have he : be (8 * n) 8 = pre := by have := hsplit.out; simpa [be] using this
      obtain ⟨A, c, rfl, hc1, hc2⟩ := own_form hown1
      go_ret
      have hE : endB n = ((128 : UInt8) :: List.replicate z 0) ++ pre := by rw [endB, he, ← HZ.out]; rfl
      have hEl : (endB n).length = z + 1 + pre.length := by rw [hE]; simp; omega
      refine ⟨A, c, by rw [hEl]; rfl, by omega, hc2, ?_, hbel⟩
      rw [hEl, hE, List.map_append]
      exact hown1
end
end Go.Proofs.YtbnnjkjmadnjkaaDoor
