/-
  The walk through frame.Append.
-/
import Derived.Test.YtkkojhkglcigmaaDoorFPut
import Derived.Test.YtkkojhkglcigmaaDoorRowSet
import Derived.Deep.MidRow
namespace Go.Proofs.YtkkojhkglcigmaaDoor
open Go.RowKit
set_option linter.unusedVariables false

/-- Frames in memory, one behind the other. -/
def Sf (w : World) (B : Nat) (A : Option Addr) (l : List (PF × SA)) : Prop :=
  l ≠ [] → ∃ b off, A = some ⟨b, off, none⟩ ∧ b < B ∧ ∀ i x, l[i]? = some x → w.rangeAt b (off + i * 30) (rowF x.1 x.2) ∧ FrAt w B x.1 x.2

def sumF (l : List (PF × SA)) : Nat := (l.map fun x => sizeF x.1).sum
def bytesL (l : List (PF × SA)) : List UInt8 := l.flatMap fun x => bytesF x.1

theorem sizeF_pos {f : PF} (h : MayF f) : 0 < sizeF f := by
  unfold sizeF
  split
  · next hk => exact (h.2.2.2.1 hk).1
  · have hw : 1 ≤ szN (wireN f) := by
      have hk : f.kind < 31 := by
        have := h.1
        by_cases hk : f.kind < 31
        · exact hk
        · rw [partsN_big (by omega)] at this
          exact absurd this (by decide)
      refine szN_pos ?_
      unfold wireN
      split
      · split <;> split <;> omega
      · omega
    have : szN (wireN f) ≤ sumSz (numsN f) := by
      unfold numsN sumSz
      simp only [List.map_append, List.sum_append, List.map_cons, List.map_nil, List.sum_cons, List.sum_nil]
      omega
    omega

theorem bytesF_length {f : PF} (ht : f.token.length = 16) : (bytesF f).length = sizeF f := by
  unfold bytesF sizeF
  split
  · simp
  · rw [List.length_append, List.length_append, List.length_append, encs_length]
    split <;> simp [ht] <;> omega

theorem takeA_next {α : Type} (l : List α) (k : Nat) (x : α) (h : l[k]? = some x) : l.take (k + 1) = l.take k ++ [x] := by rw [List.take_add_one, h]; rfl

theorem sumF_next (l : List (PF × SA)) (k : Nat) (x : PF × SA) (h : l[k]? = some x) : sumF (l.take (k + 1)) = sumF (l.take k) + sizeF x.1 := by
  rw [takeA_next l k x h]
  simp [sumF]

theorem bytesL_next (l : List (PF × SA)) (k : Nat) (x : PF × SA) (h : l[k]? = some x) : bytesL (l.take (k + 1)) = bytesL (l.take k) ++ bytesF x.1 := by
  rw [takeA_next l k x h]
  simp [bytesL]

theorem bytesL_len (l : List (PF × SA)) (h : ∀ x ∈ l, x.1.token.length = 16) : (bytesL l).length = sumF l := by
  induction l with
  | nil => rfl
  | cons x t ih =>
    have h1 := ih (fun y hy => h y (List.mem_cons_of_mem _ hy))
    have h2 := bytesF_length (h x (List.mem_cons_self ..))
    show (bytesF x.1 ++ bytesL t).length = _
    rw [List.length_append, h1, h2]
    rfl

theorem Sf.toks {w : World} {B : Nat} {A : Option Addr} {l : List (PF × SA)} (h : Sf w B A l) : ∀ x ∈ l, x.1.token.length = 16 := fun x hx => by
  obtain ⟨b, off, _, _, hc⟩ := h (List.ne_nil_of_mem hx)
  obtain ⟨i, hi⟩ := List.getElem?_of_mem hx
  exact (hc i x hi).2.tok

/-- What Append leaves: all bytes, in a row of its own, or nothing. -/
def AppGave (w : World) (b : List UInt8) (l : List (PF × SA)) (e : Ending) (w' : World) : Prop :=
  ((∀ x ∈ l, MayF x.1) → ∃ A c, e = .returned (.tuple #[.slice A (b ++ bytesL l).length c, .int .i64 0]) ∧ (b ++ bytesL l).length ≤ c ∧ c ≤ maxLen ∧ w'.ownsRow w.heap.size 5 1 (.slice A (b ++ bytesL l).length c) (b ++ bytesL l).length ((b ++ bytesL l).map cell8)) ∧
  (¬ (∀ x ∈ l, MayF x.1) → e = .returned (.tuple #[.slice none 0 0, .int .i64 2])) ∧ Below w.heap.size w w'

set_option maxRecDepth 100000 in
set_option maxHeartbeats 4000000 in
theorem fappend_any (A : Option Addr) (c : Nat) (A2 : Option Addr) (len c2 : Nat) (b : List UInt8) (l : List (PF × SA)) (w : World) (B : Nat) (hb : Sl w B A b) (hl : l.length = len) (hf : Sf w B A2 l) (hB : B ≤ w.heap.size) (hT : PT w) (hTab : Tab w)
    (hlen : len ≤ 1048576) (hbl : b.length ≤ 1048576) (hacks : ∀ x ∈ l, x.1.acks.length ≤ 4000) (hdata : ∀ x ∈ l, x.1.data.length + x.1.cid.length ≤ 1099511627776) (hsum : ∀ k, (∀ x ∈ l.take k, MayF x.1) → sumF (l.take k) ≤ 549755813888) :
    Calls Tryd.prog 15 #[.slice A b.length c, .slice A2 len c2] w (AppGave w b l) := by
  obtain ⟨i0, hi0, hz0, hz1, hz2⟩ := info_parts info8
  have HL := Lib.hid hl
  have HF := Lib.hid hf
  have HTK := Lib.hid hf.toks
  have HTBL : Hid (0 < w.heap.size) := hT.lt
  have HBS := Lib.hid hb
  have HT := Lib.hid hT
  have HTAB := Lib.hid hTab
  have HAC := Lib.hid hacks
  have HD := Lib.hid hdata
  have HSUM := Lib.hid hsum
  have hz : (#[.int .u64 0, .int .u64 0, .int .u64 0, .int .u64 0, .int .u64 0, .int .u64 0, .bool false, .slice none 0 0, .slice none 0 0, .int .u8 0, .int .u8 0, .int .u8 0, .int .u8 0, .int .u8 0, .int .u8 0, .int .u8 0, .int .u8 0, .int .u8 0, .int .u8 0, .int .u8 0, .int .u8 0, .int .u8 0, .int .u8 0, .int .u8 0, .int .u8 0, .slice none 0 0, .int .u64 0, .int .u64 0, .int .u64 0, .int .u64 0] : Array Value) = zRow 0 := rfl
  have hblen : b.length < 2000000 := by omega
  generalize hbn : b.length = bn at *
  have HBN := Lib.hid hbn
  clear hl hf hb hT hTab hacks hdata hsum hbn
  go_enter Tryd.func15, Tryd.ntmps15
  go_wp2
  go_loopw [6, 8, 9, 17] (fun vs vp vn i wr => ∃ k : Nat, k ≤ len ∧ i = .int .i64 k ∧ vs = .int .i64 ((bn + sumF (l.take k) : Nat) : Int) ∧ Hid (Below w.heap.size w wr) ∧ Hid (∀ x ∈ l.take k, MayF x.1)) (fun _ _ _ i _ => len - (intOf i).toNat)
  case atStart => exact ⟨0, Nat.zero_le _, rfl, by simp [sumF], Lib.hid (Below.refl _ _), Lib.hid (fun x hx => by simp at hx)⟩
  case round =>
    obtain ⟨k, hk, rfl, rfl, hbel, hmay⟩ := hrel
    have hs1 := HSUM.out k hmay.out
    by_cases hlt : k < len
    · obtain ⟨x, hx⟩ : ∃ x, l[k]? = some x := ⟨_, List.getElem?_eq_getElem (by rw [HL.out]; exact hlt)⟩
      obtain ⟨bk, off, rfl, hbk, hc⟩ := HF.out (by rintro rfl; simp at hx)
      have HRG : Hid (wr.rangeAt bk (off + k * 30) (rowF x.1 x.2)) := fun j v hv => (hbel.out.cell (p := ⟨bk, off + k * 30 + j, none⟩) (by show bk < _; omega)).trans ((hc k x hx).1 j v hv)
      have HFR := Lib.hid ((hc k x hx).2.below (hbel.out.mono hB))
      have HRI := Lib.hid (rowF_is (f := x.1) x.2 HFR.out.tok)
      have HSZ : Hid ((Tryd.prog.info? 32).map (·.size) = some (rowF x.1 x.2).length) := by rw [info_frame, rowF_length x.2 HFR.out.tok]; rfl
      have HX := Lib.hid hx
      have HNX := Lib.hid (sumF_next l k x hx)
      have HMX : Hid (MayF x.1 → ∀ y ∈ l.take (k + 1), MayF y.1) := fun h y hy => by
        rw [takeA_next l k x hx] at hy
        rcases List.mem_append.1 hy with hy | hy
        · exact hmay.out y hy
        · rw [List.mem_singleton.1 hy]
          exact h
      clear hc hx
      generalize sumF (l.take k) = sm at *
      obtain ⟨R, hR⟩ : ∃ R : Array Value, R = (rowF x.1 x.2).toArray := ⟨_, rfl⟩
      have HRE := Lib.hid hR
      have hR30 : R.size = 30 := by rw [hR, List.size_toArray, rowF_length x.2 HFR.out.tok]
      have HR30 := Lib.hid hR30
      have HR1 : Hid (R.all (·.oneCell') = true) := by show _ = _; rw [hR]; exact rowF_one x.1 x.2
      have HI : Hid ((Tryd.prog.info? 32).map (·.size) = some R.size) := by rw [hR30]; exact info_frame
      have HRR : Hid (RowIs R x.1 x.2) := by rw [hR]; exact HRI
      have HWN := Lib.hid (Wh.new wr 32 R)
      have HBN1 : Hid (Below wr.heap.size wr (wr.alloc (.cells R 32))) := (Below.refl _ _).alloc (Nat.le_refl _) _
      have hws := hbel.out.size
      have HS5 := Lib.hid (fsize_any R x.1 x.2 (wr.alloc (.cells R 32)) B HRR.out (HFR.out.below (HBN1.out.mono (Nat.le_trans hB hws))) (Nat.le_trans (Nat.le_trans hB hws) HBN1.out.size) ((HT.out.below hbel.out HT.out.lt).below (HBN1.out.mono hws) HT.out.lt) (by have := HAC.out x (List.mem_of_getElem? HX.out); omega))
      clear hR hR30
      go_wp2_with (first
        | (refine wpList_load_mid rfl 32 (.tmp 19) rfl bk (off + k * 30) rfl (rowF x.1 x.2) _ HRG.out Tryd.underlying32 rfl HSZ.out ?_; rw [← HRE.out])
        | (refine wpList_store_row rfl 32 (.tmp 8) (.tmp 20) rfl wr.heap.size R rfl rfl _ _ (heap_alloc_new wr (.cells (zRow 0) 32)) HI.out (by rw [HR30.out]; rfl) HR1.out ?_; rw [World.setRow_alloc_new])
        | (refine wpList_load_any 32 (.tmp 8) rfl rfl wr.heap.size rfl _ R _ HWN.out Tryd.underlying32 rfl HI.out ?_))
      refine HS5.out.mono ?_
      rintro e w5 ⟨hy, hno, hb5⟩
      have HB5 := Lib.hid (hbel.out.trans ((HBN1.out.trans (hb5.mono HBN1.out.size)).mono hws))
      clear hb5
      by_cases hm : MayF x.1
      · obtain rfl := hy hm
        have hs2 := HSUM.out (k + 1) (HMX.out hm)
        rw [HNX.out] at hs2
        have hp := sizeF_pos hm
        have t1 : ((sizeF x.1 : Int) == 0) = false := by rw [beq_eq_false_iff_ne]; omega
        have HM2 := Lib.hid (HMX.out hm)
        clear hy hno hm
        generalize sizeF x.1 = z at *
        have z1 : IntKind.i64.wrap ((bn : Int) + (sm : Int) + (z : Int)) = (bn : Int) + (sm : Int) + (z : Int) := IntWalk.i64_in _ (by omega)
        go_wp2
        go_roundw
        case rel => exact ⟨k + 1, by omega, by go_num, by rw [HNX.out]; go_num, HB5, HM2⟩
        case measure => simp [intOf]; omega
      · obtain rfl := hno hm
        have HM := Lib.hid hm
        clear hy hno hm
        go_wp2
        go_ret2
        exact ⟨fun h => absurd (h x (List.mem_of_getElem? HX.out)) HM.out, fun _ => rfl, HB5.out⟩
    · obtain rfl : k = len := by omega
      have HTA : Hid (l.take k = l) := List.take_of_length_le (by rw [HL.out]; exact Nat.le_refl _)
      have HMA : Hid (∀ x ∈ l, MayF x.1) := fun x hx => hmay.out x (by rw [HTA.out]; exact hx)
      clear hmay
      have hws := hbel.out.size
      have HSB := Lib.hid (HBS.out.below (hbel.out.mono hB))
      generalize sumF (l.take k) = sm at *
      go_wp2_with (first
        | (at_make; (refine wpList_make_own _ rfl _ _ _ rfl wr.heap.size 5 i0 _ 1 Tryd.underlying22 hi0 hz0 hz1 _ _ _ (bn + sm) rfl rfl (by omega) (by rw [hz2]; omega) (by unfold maxLen; omega) (Nat.le_refl _) ?_); intro w1 hown1 hg1; have hb1 : Below wr.heap.size wr w1 := (Below.refl _ _).grown hg1 (Nat.le_refl _) (by simp))
        | (at_builtin; (refine wpList_append_sv _ rfl _ _ _ rfl wr.heap.size 5 i0 _ 1 Tryd.underlying22 hi0 hz0 hz1 hz2 rfl (.slice (some ⟨wr.heap.size, 0, none⟩) 0 (bn + sm)) 0 [] rfl hown1 B _ _ _ (b.map cell8) rfl (HSB.out.below (hb1.mono (Nat.le_trans hB hws))) ((List.length_map _).trans HBN.out) (cell8_one _) (by unfold maxLen; omega) (by omega) hb1.size ?_); intro v2 w2 hown2 hg2 hat2))
      have hb2 : Below wr.heap.size wr w2 := hb1.grown hg2 hb1.size (fun g hg => by simp [Value.ownBlock] at hg; omega)
      rw [Nat.zero_add, List.nil_append] at hown2
      have HB2 := Lib.hid hb2
      have HO2 := Lib.hid hown2
      clear hb1 hown1 hg1 hown2 hg2 hat2 hb2
      generalize wr = wp at *
      go_loopw [10, 12, 35] (fun v vp i wr => ∃ j : Nat, j ≤ k ∧ i = .int .i64 j ∧ Hid (wr.ownsRow wp.heap.size 5 1 v (b ++ bytesL (l.take j)).length ((b ++ bytesL (l.take j)).map cell8)) ∧ Hid (Below wp.heap.size wp wr)) (fun _ _ i _ => k - (intOf i).toNat)
      case atStart => exact ⟨0, Nat.zero_le _, rfl, Lib.hid (by simpa [bytesL, HBN.out] using HO2.out), HB2⟩
      case round =>
        obtain ⟨j, hj, rfl, hown, hbq⟩ := hrel
        by_cases hlt2 : j < k
        · obtain ⟨x, hx⟩ : ∃ x, l[j]? = some x := ⟨_, List.getElem?_eq_getElem (by rw [HL.out]; exact hlt2)⟩
          obtain ⟨bk, off, rfl, hbk, hc⟩ := HF.out (by rintro rfl; simp at hx)
          have HBW := Lib.hid (hbel.out.trans (hbq.out.mono hws))
          have HRG : Hid (wr.rangeAt bk (off + j * 30) (rowF x.1 x.2)) := fun i v hv => (HBW.out.cell (p := ⟨bk, off + j * 30 + i, none⟩) (by show bk < _; omega)).trans ((hc j x hx).1 i v hv)
          have HFR := Lib.hid ((hc j x hx).2.below (HBW.out.mono hB))
          have HRI := Lib.hid (rowF_is (f := x.1) x.2 HFR.out.tok)
          have HSZ : Hid ((Tryd.prog.info? 32).map (·.size) = some (rowF x.1 x.2).length) := by rw [info_frame, rowF_length x.2 HFR.out.tok]; rfl
          have HNB := Lib.hid (bytesL_next l j x hx)
          have HMX := Lib.hid (HMA.out x (List.mem_of_getElem? hx))
          have hacl := HAC.out x (List.mem_of_getElem? hx)
          have hdl := HD.out x (List.mem_of_getElem? hx)
          have hbn2 : (b ++ bytesL (l.take j)).length ≤ 1099511627776 := by
            rw [List.length_append, bytesL_len _ (fun y hy => HTK.out y (List.mem_of_mem_take hy)), HBN.out]
            have := HSUM.out j (fun y hy => HMA.out y (List.mem_of_mem_take hy))
            omega
          obtain ⟨R, hR⟩ : ∃ R : Array Value, R = (rowF x.1 x.2).toArray := ⟨_, rfl⟩
          have HRE := Lib.hid hR
          have hR30 : R.size = 30 := by rw [hR, List.size_toArray, rowF_length x.2 HFR.out.tok]
          have HR30 := Lib.hid hR30
          have HR1 : Hid (R.all (·.oneCell') = true) := by show _ = _; rw [hR]; exact rowF_one x.1 x.2
          have HI : Hid ((Tryd.prog.info? 32).map (·.size) = some R.size) := by rw [hR30]; exact info_frame
          have HRR : Hid (RowIs R x.1 x.2) := by rw [hR]; exact HRI
          have HWN := Lib.hid (Wh.new wr 32 R)
          have hwq := hbq.out.size
          have hbn1 : Below wr.heap.size wr (wr.alloc (.cells R 32)) := (Below.refl _ _).alloc (Nat.le_refl _) _
          have HBN1 := Lib.hid hbn1
          have HBB := Lib.hid (HBW.out.trans (hbn1.mono (Nat.le_trans hws hwq)))
          have HBR := Lib.hid (hbq.out.trans (hbn1.mono hwq))
          have HS5 := Lib.hid (fun v (hv : wr.ownsRow wp.heap.size 5 1 v (b ++ bytesL (l.take j)).length ((b ++ bytesL (l.take j)).map cell8)) => fput_any R x.1 x.2 (wr.alloc (.cells R 32)) B wp.heap.size v (b ++ bytesL (l.take j)) HRR.out (HFR.out.below (hbn1.mono (Nat.le_trans (Nat.le_trans hB hws) hwq))) (Nat.le_trans hB hws) (Nat.le_trans hwq hbn1.size) (hv.alloc _) (HT.out.below HBB.out HT.out.lt) (Nat.lt_of_lt_of_le HTBL.out hws) (HTAB.out.below HBB.out HTAB.out.lt) HMX.out hacl hbn2 hdl)
          clear hR hR30 hc hx hbn1 hbn2
          go_wp2_with (first
            | (refine wpList_load_mid rfl 32 (.tmp 37) rfl bk (off + j * 30) rfl (rowF x.1 x.2) _ HRG.out Tryd.underlying32 rfl HSZ.out ?_; rw [← HRE.out])
            | (refine wpList_store_row rfl 32 (.tmp 12) (.tmp 38) rfl wr.heap.size R rfl rfl _ _ (heap_alloc_new wr (.cells (zRow 0) 32)) HI.out (by rw [HR30.out]; rfl) HR1.out ?_; rw [World.setRow_alloc_new])
            | (refine wpList_load_any 32 (.tmp 12) rfl rfl wr.heap.size rfl _ R _ HWN.out Tryd.underlying32 rfl HI.out ?_))
          refine (HS5.out _ hown.out).mono ?_
          rintro e w5 ⟨v5, rfl, hown5, hb5⟩
          have HO5 : Hid (w5.ownsRow wp.heap.size 5 1 v5 (b ++ bytesL (l.take (j + 1))).length ((b ++ bytesL (l.take (j + 1))).map cell8)) := by
            show w5.ownsRow _ _ _ _ _ _
            rw [HNB.out, ← List.append_assoc]
            exact hown5
          have HB5 := Lib.hid (HBR.out.trans hb5)
          clear hown5 hb5
          go_wp2
          go_roundw
          case rel => exact ⟨j + 1, by omega, by go_num, HO5, HB5⟩
          case measure => simp [intOf]; omega
        · obtain rfl : j = k := by omega
          have hoe := hown.out
          rw [HTA.out] at hoe
          have HOE := Lib.hid hoe
          clear hoe
          obtain ⟨A9, c9, rfl, q1, q2⟩ := own_form HOE.out
          go_wp2
          go_ret2
          exact ⟨fun _ => ⟨A9, c9, rfl, q1, q2, own_mono HOE.out hws⟩, fun h => absurd HMA.out h, hbel.out.trans (hbq.out.mono hws)⟩

end Go.Proofs.YtkkojhkglcigmaaDoor
