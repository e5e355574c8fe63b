/-
  gcm.stream.block: the stream's block of a count.
  gcm.stream.turn: a text turned.
-/
import Derived.Test.YtbnnjkjmadnjkaaDoorSk36
import Derived.Test.YtbnnjkjmadnjkaaDoorSk27
namespace Go.Proofs.YtbnnjkjmadnjkaaDoor
section
open Go.RowKit
set_option linter.unusedVariables false

/-- A stream's cells: its cipher, its nonce. -/
def sL (g : Nat) (nn : List UInt8) : List Value := .pointer (some ⟨g, 0, none⟩) :: nn.map cell8
def sRow (g : Nat) (nn : List UInt8) : Array Value := (sL g nn).toArray
theorem sL_1 (g : Nat) (nn : List UInt8) : ∀ (j : Nat) (v : Value), (nn.map cell8)[j]? = some v → (sL g nn)[1 + j]? = some v := fun j v h => by
  rw [Nat.add_comm]
  exact h
theorem sRow_n {w : World} {h : Nat} {t : TypeId} {g : Nat} {nn : List UInt8} (hw : Wh w h t (sRow g nn)) : w.rangeAt h 1 (nn.map cell8) := Wh.part hw 1 _ (sL_1 g nn)
theorem sRow_0 (g : Nat) (nn : List UInt8) : (sRow g nn)[0]? = some (.pointer (some ⟨g, 0, none⟩)) := by simp [sRow, sL]
theorem sRow_one (g : Nat) (nn : List UInt8) : (sRow g nn).all (·.oneCell') = true := by
  rw [Array.all_eq_true_iff_forall_mem]
  intro v hv
  simp only [sRow, sL, List.mem_toArray, List.mem_cons] at hv
  rcases hv with rfl | hv
  · rfl
  · exact cell8_one nn v hv
theorem info_s13 : (Tryd.prog.info? 85).map (·.size) = some 13 := by kernel_rfl
theorem sRow_size {g : Nat} {nn : List UInt8} (h : nn.length = 12) : (sRow g nn).size = 13 := by simp [sRow, sL, h]
theorem info_sRow {g : Nat} {nn : List UInt8} (h : nn.length = 12) : (Tryd.prog.info? 85).map (·.size) = some (sRow g nn).size := by rw [sRow_size h]; exact info_s13
theorem info_sL {g : Nat} {nn : List UInt8} (h : nn.length = 12) : (Tryd.prog.info? 85).map (·.size) = some (sL g nn).length := by rw [show (sL g nn).length = 13 by simp [sL, h]]; exact info_s13

/-- The count, laid behind the nonce, behind k bytes of it, the last one first. -/
def ctN (l : List UInt8) (n : Nat) : Nat → List UInt8
  | 0 => l
  | k + 1 => (ctN l n k).set (15 - k) (UInt8.ofNat (n / 256 ^ k % 256))
theorem ctN_len (l : List UInt8) (n k : Nat) : (ctN l n k).length = l.length := by
  induction k with
  | zero => rfl
  | succ k ih => simp [ctN, ih]
def be4 (n : Nat) : List UInt8 := [UInt8.ofNat (n / 16777216 % 256), UInt8.ofNat (n / 65536 % 256), UInt8.ofNat (n / 256 % 256), UInt8.ofNat (n % 256)]
theorem ct_all {nn : List UInt8} (h : nn.length = 12) (n : Nat) : ctN (nn ++ List.replicate 4 0) n 4 = nn ++ be4 n := by
  unfold be4
  rw [ctN, ctN, ctN, ctN, ctN, List.set_append_right _ _ (by omega), List.set_append_right _ _ (by omega), List.set_append_right _ _ (by omega), List.set_append_right _ _ (by omega), h]
  simp
/-- The i-th block of a stream. -/
def stG (ks : List (List UInt8)) (nn : List UInt8) (n : Nat) : List UInt8 := seL ks (nn ++ be4 n)
theorem st_len (ks : List (List UInt8)) (nn : List UInt8) (n : Nat) : (stG ks nn n).length = 16 := seL_len _ _
theorem over_four (nn : List UInt8) (h : nn.length = 12) : ((aRow (List.replicate 16 0)).toList.take 0 ++ (nn.map cell8 ++ (aRow (List.replicate 16 0)).toList.drop (0 + (nn.map cell8).length))).toArray = aRow (nn ++ List.replicate 4 0) := by
  rw [aRow_list, aRow]
  congr 1
  rw [List.take_zero, List.nil_append, Nat.zero_add, List.length_map, List.map_append, ← List.map_drop, List.drop_replicate, h]
theorem byte_cnt (n k : Nat) : ((n / 256 ^ k : Nat) : Int) % 256 = ((UInt8.ofNat (n / 256 ^ k % 256)).toNat : Int) := by
  have e : (UInt8.ofNat (n / 256 ^ k % 256)).toNat = n / 256 ^ k % 256 := by simp
  rw [e, Int.natCast_emod]
  rfl

set_option maxRecDepth 100000 in
set_option maxHeartbeats 400000 in
theorem stblock_any (g : Nat) (ks : List (List UInt8)) (nn : List UInt8) (n : Nat) (w : World) (hk : B11 ks) (hg : Wh w g 107 (aRow ks.flatten)) (hn : nn.length = 12) (hc : n < 4294967296) :
    Calls Tryd.prog 58 #[.agg (sRow g nn), .int .u32 (n : Int)] w fun e w' => e = .returned (.agg (aRow (stG ks nn n))) ∧ Below w.heap.size w w' := by
  have HN := Deep.mk hn
  have HK := Deep.mk hk
  have hgl := hg.lt
  have HG0 := Lib.hid hg
  clear hn hk hg
  go_enter Tryd.func58, Tryd.ntmps58
  go_upto_region 2 with (fail)
  rw [zeros16]
  obtain ⟨hbe, h1, h2, h3⟩ := made3 w (sRow g nn) (aRow (List.replicate 16 0)) (aRow (List.replicate 16 0)) 85 23 23
  generalize ((w.alloc (.cells (sRow g nn) 85)).alloc (.cells (aRow (List.replicate 16 0)) 23)).alloc (.cells (aRow (List.replicate 16 0)) 23) = W at *
  obtain ⟨a, ha⟩ : ∃ a, a = w.heap.size := ⟨_, rfl⟩
  rw [← ha] at h1 h2 h3 ⊢
  obtain ⟨r, hr⟩ : ∃ b', b' = a + 1 := ⟨_, rfl⟩
  rw [← hr] at h2 h3 ⊢
  obtain ⟨m, hm⟩ : ∃ b', b' = r + 1 := ⟨_, rfl⟩
  rw [← hm] at h3 ⊢
  have har : a < r := by omega
  have hrm : r < m := by omega
  have hga : g < a := by omega
  have HA := Lib.hid ha
  have HBE := Lib.hid hbe
  have H1 := Lib.hid h1
  have H2 := Lib.hid h2
  have H3 := Lib.hid h3
  have HGW := Lib.hid (HG0.out.below hbe hgl)
  clear ha hr hm hbe h1 h2 h3 hgl HG0
  have hov := over_four nn HN.out
  obtain ⟨L0, hL0⟩ : ∃ L0, L0 = nn ++ List.replicate 4 0 := ⟨_, rfl⟩
  rw [← hL0] at hov
  have hl0 : L0.length = 16 := by rw [hL0, List.length_append, HN.out]; rfl
  have HFIN : Deep (ctN L0 n 4 = nn ++ be4 n) := ⟨by rw [hL0]; exact ct_all HN.out n⟩
  have HL0 := Deep.mk hl0
  clear hL0 hl0
  have hlx : (nn.map cell8).length = Nat.min 12 16 := by rw [List.length_map, HN.out]; rfl
  have hqx : (nn.map cell8).length = 12 := by rw [List.length_map, HN.out]
  have hsrc : ∀ j v, (nn.map cell8)[j]? = some v → W.drew.cell? ((⟨a, 1, none⟩ : Addr).add j) = some v := fun j v hv => by
    rw [Addr.add_lit]
    exact sRow_n (H1.out.below (Below.refl _ _).drew H1.out.lt) j v hv
  have hm3 : Wh W.drew m 23 (aRow (List.replicate 16 0)) := H3.out.below (Below.refl _ _).drew H3.out.lt
  have HOV := Deep.mk hov
  have HLX := Deep.mk hlx
  have HQX := Deep.mk hqx
  have HSRC := Deep.mk hsrc
  have HM3 := Lib.hid hm3
  clear hov hlx hqx hsrc hm3
  go_region_law (refine step_copy_rowM rfl (.tmp 7) (.tmp 9) 28 28 rfl 5 Tryd.underlying28 (by kernel_rfl) m 0 16 16 ⟨a, 1, none⟩ 12 12 rfl rfl (aRow (List.replicate 16 0)) _ HM3.out (nn.map cell8) HLX.out HSRC.out (by rw [HQX.out, aRow_size]; decide) (cell8_one nn) 12 HQX.out _ HOV.out ?_)
  have hw4 : Wh (W.drew.setRow m (aRow L0)) m 23 (aRow (ctN L0 n 0)) := setRow_heap W.drew m _ _ _ _ HM3.out
  have hg4 : W.grownBy (W.drew.setRow m (aRow L0)) (some m) := grown_trans (grown_below ((Below.refl _ _).drew)) (grown_setRow W.drew m _)
  have HW4 := Lib.hid hw4
  have HG4 := Lib.hid hg4
  clear hw4 hg4 HM3 HSRC HOV H3
  generalize W.drew.setRow m (aRow L0) = W4 at *
  go_wp2
  go_loopw [1, 6] (fun c i wr => ∃ k j : Nat, k + j = 15 ∧ k ≤ 4 ∧ i = .int .i64 (j : Int) ∧ c = .int .u32 ((n / 256 ^ k : Nat) : Int) ∧ Hid (Wh wr m 23 (aRow (ctN L0 n k))) ∧ Hid (W.grownBy wr (some m))) (fun _ i _ => (intOf i).toNat)
  case atStart => exact ⟨0, 15, rfl, by omega, rfl, by rw [Nat.pow_zero, Nat.div_one], HW4, HG4⟩
  case round =>
    obtain ⟨k, j, hkj, hk, rfl, rfl, HW, HG⟩ := hrel
    clear HW4 HG4
    obtain ⟨c, hc2⟩ : ∃ c, c = n / 256 ^ k := ⟨_, rfl⟩
    have hcl : c < 4294967296 := by rw [hc2]; exact Nat.lt_of_le_of_lt (Nat.div_le_self _ _) hc
    have hbc := byte_cnt n k
    have hnx : c / 256 = n / 256 ^ (k + 1) := by rw [hc2, Nat.div_div_eq_div_mul, Nat.pow_succ]
    rw [← hc2] at hbc ⊢
    obtain ⟨y, hy⟩ : ∃ y, y = UInt8.ofNat (c % 256) := ⟨_, rfl⟩
    rw [← hy] at hbc
    have HC2 := Deep.mk hc2
    have HY := Deep.mk hy
    have HNX := Deep.mk hnx
    have HBC := Deep.mk hbc
    clear hc2 hy hnx hbc
    by_cases hlt : k < 4
    · have hj : 12 ≤ j := by omega
      have hj15 : j ≤ 15 := by omega
      have hd : decide ((j : Int) ≥ 12) = true := by rw [decide_eq_true_iff]; omega
      obtain ⟨u, hu⟩ : ∃ u, wr.cell? ⟨m, j, none⟩ = some (.int .u8 ((u : UInt8).toNat : Int)) := ⟨_, (HW.out.cell j).trans (aRow_at (by rw [ctN_len, HL0.out]; omega))⟩
      have hf := HW.out.frozen j
      have HKJ : Deep (15 - k = j) := ⟨by omega⟩
      have HK4 := Lib.hid hlt
      clear hkj hlt
      go_wp2
      have h1 := HW.out.put j (.int .u8 ((c : Int) % 256))
      have g1 := grown_set wr m j (.int .u8 ((c : Int) % 256))
      rw [HBC.out, aRow_set] at h1
      refine ⟨⟨k + 1, j - 1, by have := HKJ.out; have := HK4.out; omega, by have := HK4.out; omega, by congr 1; omega, by rw [← HNX.out]; rfl, ?_, Lib.hid (grown_trans HG.out g1)⟩, by simp [intOf]; omega⟩
      rw [ctN, HKJ.out, ← HC2.out, ← HY.out]
      rw [HBC.out]
      exact Lib.hid h1
    · have hj : j = 11 := by omega
      have hk4 : k = 4 := by omega
      have hd : decide ((j : Int) ≥ 12) = false := by rw [decide_eq_false_iff_not]; omega
      obtain ⟨z, hz⟩ : ∃ z, z = nn ++ be4 n := ⟨_, rfl⟩
      have HZL : Deep (z.length = 16) := ⟨by rw [hz, List.length_append, HN.out]; rfl⟩
      have HWN : Hid (Wh wr m 23 (aRow z)) := by
        have h := HW.out
        rw [hk4, HFIN.out, ← hz] at h
        exact Lib.hid h
      have HRR : Hid (Wh wr r 23 (aRow (List.replicate 16 0))) := Lib.hid (H2.out.grown HG.out (by intro e; have := Option.some.inj e; omega))
      have hAW : Wh wr a 85 (sRow g nn) := H1.out.grown HG.out (by intro e; have := Option.some.inj e; omega)
      have hGW : Wh wr g 107 (aRow ks.flatten) := HGW.out.grown HG.out (by intro e; have := Option.some.inj e; omega)
      have hc0 := (hAW.cell 0).trans (sRow_0 g nn)
      have HBW := Lib.hid (below_grownA HBE.out HG.out (by rw [← HA.out]; omega) HBE.out.size)
      have hwr : w.heap.size ≤ r := by rw [← HA.out]; omega
      have HGW2 := Lib.hid hGW
      have HZ : Deep (seL ks z = stG ks nn n) := ⟨by rw [hz]; rfl⟩
      clear HW HG hlt hkj hk hk4 hz hAW hGW
      go_wp2_with (first
        | (refine wpList_load_blk rfl (.tmp 5) rfl m 0 rfl z HZL.out (Wh.range HWN.out) ?_))
      refine (seal_any g ks z _ HK.out HGW2.out HZL.out).mono ?_
      rintro e w5 ⟨rfl, hb5⟩
      have HR5 := Lib.hid (HRR.out.below hb5 HRR.out.lt)
      have HB5 := Lib.hid (HBW.out.trans (hb5.mono HBW.out.size))
      obtain ⟨q, hq⟩ : ∃ q, q = seL ks z := ⟨_, rfl⟩
      have HQL : Deep (q.length = 16) := ⟨by rw [hq]; exact seL_len _ _⟩
      rw [HZ.out] at hq
      have HQ := Deep.mk hq
      rw [HZ.out, ← hq]
      clear hb5 hq hc0
      go_wp2_with (first
        | (refine wpList_store_row rfl 23 (.tmp 4) (.tmp 24) rfl r (aRow q) rfl rfl _ _ HR5.out (info_aRow HQL.out) (by rw [aRow_size, aRow_size, HQL.out]; rfl) (aRow_one _) ?_))
      refine bodyPost_ret (v := .agg (aRow q)) (results_cell_row Tryd.results58 _ _ r _ _ (0, 0) _ rfl (setRow_heap w5 r _ _ _ _ HR5.out) Tryd.underlying23 rfl (info_aRow HQL.out)) rfl ?_
      exact ⟨by rw [HQ.out], below_setRow HB5.out hwr _⟩
end

section
open Go.RowKit
set_option linter.unusedVariables false

/-- A text turned. -/
def tuL (ks : List (List UInt8)) (nn l : List UInt8) : List UInt8 := (List.range l.length).map fun i => l.getD i 0 ^^^ (stG ks nn (2 + i / 16)).getD (i % 16) 0
theorem tu_len (ks : List (List UInt8)) (nn l : List UInt8) : (tuL ks nn l).length = l.length := by simp [tuL]
theorem tu_at (ks : List (List UInt8)) (nn l : List UInt8) (j k : Nat) (hk : k < 16) (hl : 16 * j + k < l.length) : (tuL ks nn l)[16 * j + k]? = some ((l.drop (16 * j)).getD k 0 ^^^ (stG ks nn (2 + j)).getD k 0) := by
  rw [tuL, List.getElem?_map, List.getElem?_range hl, Option.map_some, show (16 * j + k) / 16 = j by omega, show (16 * j + k) % 16 = k by omega]
  congr 2
  rw [List.getD_eq_getElem?_getD, List.getD_eq_getElem?_getD, List.getElem?_drop]

set_option maxRecDepth 100000 in
theorem run_min16 (ts : Array TypeId) (t : TypeId) (n q : Nat) (w : World) (h : min n 16 = q) : (Builtin.min_ ts t #[.int .i64 (n : Int), .int .i64 16]).run Tryd.prog w = .ok (.int .i64 (q : Int)) w := by
  subst h
  by_cases h : 16 < n
  · have h2 : (16 : Int) < (n : Int) := by omega
    have h3 : ((min n 16 : Nat) : Int) = 16 := by omega
    rw [h3]
    simp [Builtin.min_, Builtin.min2, h2]
  · have h2 : ¬ (16 : Int) < (n : Int) := by omega
    have h3 : ((min n 16 : Nat) : Int) = (n : Int) := by omega
    rw [h3]
    simp [Builtin.min_, Builtin.min2, h2]

set_option maxRecDepth 100000 in
set_option maxHeartbeats 1000000 in
theorem gturn_any (g : Nat) (ks : List (List UInt8)) (nn l : List UInt8) (A : Option Addr) (c base : Nat) (v : Value) (w : World) (hk : B11 ks) (hg : Wh w g 107 (aRow ks.flatten)) (hgb : g < base) (hn : nn.length = 12)
    (hs : Sl w base A l) (hlc : l.length ≤ c) (hcm : c ≤ maxLen) (hl : l.length ≤ 1048576) (hb : base ≤ w.heap.size) (hv : w.ownsRow base 5 1 v 0 []) :
    Calls Tryd.prog 40 #[.agg (sRow g nn), v, .slice A l.length c] w fun e w' => ∃ A' c', e = .returned (.slice A' l.length c') ∧ l.length ≤ c' ∧ c' ≤ maxLen ∧ w'.ownsRow base 5 1 (.slice A' l.length c') l.length ((tuL ks nn l).map cell8) ∧ Below base w w' := by
  obtain ⟨i0, hi0, hz0, hz1, hz2⟩ := info_parts info8A
  obtain ⟨T, hT⟩ : ∃ T, T = tuL ks nn l := ⟨_, rfl⟩
  have HTL : Deep (T.length = l.length) := ⟨by rw [hT]; exact tu_len ks nn l⟩
  have HT := Deep.mk hT
  have HN := Deep.mk hn
  have HK := Deep.mk hk
  have HG := Lib.hid hg
  have hbe : Below w.heap.size w (w.alloc (.cells (sRow g nn) 85)) := (Below.refl _ _).alloc (Nat.le_refl _) _
  have HS := Lib.hid hs
  have HV0 := Lib.hid hv
  have HV := Lib.hid (hv.alloc (.cells (sRow g nn) 85))
  have HA := Lib.hid (Wh.new w 85 (sRow g nn))
  have HBE := Lib.hid (Below.refl base w)
  unfold maxLen at hcm
  clear hk hg hn hs hv hbe hT
  go_enter Tryd.func40, Tryd.ntmps40
  go_upto_region 1 with (fail)
  obtain ⟨a, ha⟩ : ∃ a, a = w.heap.size := ⟨_, rfl⟩
  rw [← ha] at HA ⊢
  have hba : base ≤ a := by omega
  have HOW : Hid (OwB base 5 w (w.alloc (.cells (sRow g nn) 85)) v []) := Lib.hid ⟨HV.out, HBE.out.alloc hb _, by simp; omega⟩
  have HKA : Hid (Kp (w.alloc (.cells (sRow g nn) 85)) v a 85 (sRow g nn)) := Lib.hid ⟨HA.out, fun e => by have := (HV0.out.lt a e).2; omega⟩
  clear HA HV HV0 HBE ha
  generalize w.alloc (.cells (sRow g nn) 85) = W at *
  go_wp2_with fail
  go_loopw [1, 2, 7, 8, 9, 10, 11, 25] (fun v s n _ _ _ _ _ wr => ∃ (j m : Nat) (r : List UInt8) (A' : Option Addr) (c' : Nat), Deep (r = l.drop (16 * j)) ∧ 16 * j < l.length + 16 ∧ s = .slice A' r.length c' ∧ r.length ≤ c' ∧ c' ≤ 9223372036854775807 ∧ n = .int .u32 (m : Int) ∧ m = 2 + j ∧ Hid (Sl w base A' r) ∧ Hid (OwB base 5 w wr v (T.take (16 * j))) ∧ Hid (Kp wr v a 85 (sRow g nn))) (fun _ s _ _ _ _ _ _ _ => lenV s)
  case atStart => exact ⟨0, 2, l, A, c, ⟨rfl⟩, by omega, rfl, hlc, hcm, rfl, rfl, HS, by rw [Nat.mul_zero, List.take_zero]; exact HOW, HKA⟩
  case round =>
    obtain ⟨j, m, r, A', c', HR, hj, rfl, hrc, hcm', rfl, hm, HSL, HO, HP⟩ := hrel
    clear HOW HKA HS
    by_cases hr0 : 0 < r.length
    · have hrl : r.length = l.length - 16 * j := by have e := congrArg List.length HR.out; rwa [List.length_drop] at e
      have hm32 : m < 65600 := by omega
      obtain ⟨x, hx⟩ : ∃ x, x = r.take 16 := ⟨_, rfl⟩
      obtain ⟨q, hq⟩ : ∃ q, q = x.length := ⟨_, rfl⟩
      have hq2 : q ≤ r.length ∧ q ≤ 16 ∧ 1 ≤ q ∧ (q = r.length ∨ q = 16) := by rw [hq, hx, List.length_take]; omega
      obtain ⟨hq3, hq4, hq5, hq6⟩ := hq2
      obtain ⟨b2, off2, rfl, hb2, hcell2⟩ := Sl.at_ HSL.out hr0
      obtain ⟨Q, hQ⟩ : ∃ Q, Q = stG ks nn m := ⟨_, rfl⟩
      have hQl : Q.length = 16 := by rw [hQ]; exact st_len _ _ _
      have HQ := Deep.mk hQ
      have HQL := Deep.mk hQl
      have HM := Deep.mk hm
      have HX := Deep.mk hx
      have HQQ := Deep.mk hq
      have HQ6 := Deep.mk hq6
      have HRL := Deep.mk hrl
      have HC2 := Deep.mk hcell2
      have hgw : Wh wr g 107 (aRow ks.flatten) := HG.out.below HO.out.2.1 hgb
      have hst := fun w' hg' => stblock_any g ks nn m w' HK.out hg' HN.out (by omega)
      rw [← hQ] at hst
      have HST := Lib.hid hst
      have HGW := Lib.hid hgw
      clear hQ hQl hm hx hq hq6 hrl hcell2 hst hgw
      go_wp2_with (first
        | (refine wpList_load_row rfl 85 (.tmp 3) rfl a rfl _ (sRow g nn) _ _ HP.out.1 Tryd.underlying85 rfl (info_sRow HN.out) ?_))
      refine (HST.out _ HGW.out).mono ?_
      rintro e w3 ⟨rfl, hb3⟩
      have HO3 := Lib.hid (HO.out.below hb3)
      have HP3 := Lib.hid (HP.out.below hb3)
      clear hb3 HO HP
      go_upto_region 4 with (first
        | (refine wpList_store_row rfl 23 (.tmp 8) (.tmp 17) rfl w3.heap.size (aRow Q) rfl rfl _ _ (heap_alloc_new w3 _) (info_aRow HQL.out) (by rw [aRow_size, HQL.out]; rfl) (aRow_one _) ?_; rw [World.setRow_alloc_new]))
      obtain ⟨b, hb⟩ : ∃ b, b = w3.heap.size := ⟨_, rfl⟩
      have h4 := Wh.new w3 23 (aRow Q)
      have hk4 : Kp (w3.alloc (.cells (aRow Q) 23)) u1 b 23 (aRow Q) := ⟨by rw [hb]; exact h4, HO3.out.new (by omega)⟩
      have hbl : Below w3.heap.size w3 (w3.alloc (.cells (aRow Q) 23)) := (Below.refl _ _).alloc (Nat.le_refl _) _
      have HO4 := Lib.hid (HO3.out.below hbl)
      have HP4 := Lib.hid (HP3.out.below hbl)
      have HB4 := Lib.hid hk4
      rw [← hb]
      clear hb h4 hk4 hbl HO3 HP3
      generalize w3.alloc (.cells (aRow Q) 23) = w4 at *
      have hmin := fun w' => run_min16 #[3, 3] 3 r.length q w' (by have := HQ6.out; omega)
      go_wp2_with fail
      clear hmin
      have HJ16 := Lib.hid hj
      go_loopw [1, 10, 11, 25] (fun v _ _ i wr => ∃ k : Nat, k ≤ q ∧ i = .int .i64 (k : Int) ∧ Hid (OwB base 5 w wr v (T.take (16 * j + k))) ∧ Hid (Kp wr v a 85 (sRow g nn)) ∧ Hid (Kp wr v b 23 (aRow Q))) (fun _ _ _ i _ => q - (intOf i).toNat)
      case atStart => exact ⟨0, by omega, rfl, HO4, HP4, HB4⟩
      case round =>
        obtain ⟨k, hkq, rfl, HO, HP, HB⟩ := hrel
        clear HO4 HP4 HB4
        by_cases hlt : k < q
        · have hkr : k < r.length := by omega
          have hx0 : r[k]? = some (r.getD k 0) := by simp [List.getD, hkr]
          have hc1 := (HO.out.2.1.cell (p := ⟨b2, off2 + k, none⟩) hb2).trans (HC2.out k _ hx0)
          have hc2 := (HB.out.1.cell k).trans (aRow_at (by rw [HQL.out]; omega))
          have ht := tu_at ks nn l j k (by omega) (by have := HRL.out; omega)
          rw [← HT.out, ← HR.out, ← HM.out, ← HQ.out] at ht
          generalize r.getD k 0 = x0 at *
          generalize Q.getD k 0 = y0 at *
          obtain ⟨d, hd⟩ : ∃ d, d = T.take (16 * j + k) := ⟨_, rfl⟩
          have hdl : d.length ≤ 1048576 := by rw [hd, List.length_take, HTL.out]; omega
          have hnx : Deep (T.take (16 * j + (k + 1)) = d ++ [x0 ^^^ y0]) := ⟨by rw [hd, ← Nat.add_assoc, List.take_add_one, ht]; rfl⟩
          rw [← hd] at HO
          have hx8 := x0.toNat_lt
          have hy8 := y0.toNat_lt
          have hown := HO.out.1
          have hbz := HO.out.2.2
          have k16 : (k : Int) < 16 := by omega
          have hrc2 : q ≤ c' := by omega
          clear hx0 ht hd hkr
          go_wp2_with (first
            | (at_builtin; refine wpList_append_sv _ rfl (.tmp 30) (.tmp 36) _ rfl base 5 i0 _ 1 Tryd.underlying28 hi0 hz0 hz1 hz2 rfl u1 _ _ rfl (hown.alloc _) _ _ 1 1 _ rfl (sv_new _ _ _) rfl (fun u hu => by simp at hu; subst hu; rfl) (by unfold maxLen; omega) (by omega) (by simp; omega) ?_; intro v2 w2 hown2 hg2 hat2; rw [b_xor] at hown2 hg2 hat2; have HO2 := Lib.hid (HO.out.more (x0 ^^^ y0) _ hown2 hg2); have HP2 := Lib.hid (HP.out.more _ hg2 hat2); have HB2 := Lib.hid (HB.out.more _ hg2 hat2); clear hg2 hat2 hown2))
          exact ⟨⟨k + 1, by omega, by go_num, by rw [hnx.out]; exact HO2, HP2, HB2⟩, by simp [intOf]; omega⟩
        · have hkd : decide (k < q) = false := by rw [decide_eq_false_iff_not]; omega
          have hkq2 : k = q := by omega
          have HR' : Deep (r.drop q = l.drop (16 * (j + 1))) := ⟨by
            have e : r.drop q = r.drop 16 := by
              rcases HQ6.out with e | e
              · rw [List.drop_eq_nil_of_le (by omega), List.drop_eq_nil_of_le (by omega)]
              · rw [e]
            rw [e, HR.out, List.drop_drop]
            congr 1⟩
          have hj' : 16 * (j + 1) < l.length + 16 := by have := HRL.out; omega
          have hm' : m + 1 = 2 + (j + 1) := by have := HM.out; omega
          have HTE : Deep (T.take (16 * j + k) = T.take (16 * (j + 1))) := ⟨by
            rcases HQ6.out with e | e
            · have := HRL.out
              rw [List.take_of_length_le (by rw [HTL.out]; omega), List.take_of_length_le (by rw [HTL.out]; omega)]
            · rw [hkq2, e]
              congr 1⟩
          have HO2 : Hid (OwB base 5 w wr u1 (T.take (16 * (j + 1)))) := by rw [← HTE.out]; exact HO
          have HSC : Hid (Sl w base (some ⟨b2, off2 + q, none⟩) (r.drop q)) := by
            have h := Sv.drop HSL.out q
            rw [← List.map_drop] at h
            exact Lib.hid h
          have HDL : Hid ((r.drop q).length = r.length - q) := Lib.hid List.length_drop
          have HM' := Lib.hid hm'
          have HJ' := Lib.hid hj'
          clear HO hkq hkq2 hlt hm' hj' hb2 hj HB
          by_cases hcq : c' = q
          all_goals
            go_wp2
            first
              | (refine ⟨⟨j + 1, m + 1, r.drop q, some ⟨b2, off2 + q, none⟩, c' - q, HR', HJ'.out, ?_, ?_, ?_, rfl, HM'.out, HSC, HO2, HP⟩, ?_⟩; (rw [HDL.out]); (rw [HDL.out]; omega); omega; (simp only [lenV]; omega))
              | (refine ⟨⟨j + 1, m + 1, r.drop q, some ⟨b2, off2, none⟩, 0, HR', HJ'.out, ?_, ?_, ?_, rfl, HM'.out, ?_, HO2, HP⟩, ?_⟩; (rw [HDL.out]); (rw [HDL.out]; omega); omega; (rw [List.drop_eq_nil_of_le (by omega)]; exact Sv.nil _ _ _); (simp only [lenV]; omega))
    · obtain rfl : r = [] := List.eq_nil_of_length_eq_zero (by omega)
      have hl0 : l.length ≤ 16 * j := by
        have e := congrArg List.length HR.out
        rw [List.length_drop, List.length_nil] at e
        omega
      have HOT : Hid (OwB base 5 w wr u1 T) := by
        have h := HO.out
        rw [List.take_of_length_le (by rw [HTL.out]; exact hl0)] at h
        exact Lib.hid h
      obtain ⟨B, cB, hB, hB1, hB2⟩ := own_form HOT.out.1
      rw [hB] at HOT ⊢
      have HB1 := Lib.hid hB1
      have HB2 := Lib.hid hB2
      clear HO HR hr0 hl0 hB hB1 hB2 HP
      go_wp2
      go_ret
      have ho := HOT.out.1
      rw [HTL.out] at ho
      rw [HT.out] at ho
      exact ⟨B, cB, by rw [HTL.out]; rfl, by rw [← HTL.out]; exact HB1.out, HB2.out, ho, HOT.out.2.1⟩
end
end Go.Proofs.YtbnnjkjmadnjkaaDoor
