/-
  Transport parameters: the chapter's rows (hostlerlaw04.known).
-/
import Derived.Test.YtpnpbjdkldmmdaaDoorQIs
namespace Go.Proofs.YtpnpbjdkldmmdaaDoor
open Go.RowKit
set_option linter.unusedVariables false

def pK : PQ := { zQ with idle := 30000, bidi := 3, cid := [10, 11] }
def pD : PQ := { zQ with data := 5 }

theorem bytes_pK : bytesQ pK = [1, 4, 128, 0, 117, 48, 8, 1, 3, 15, 2, 10, 11] := by decide +kernel
theorem take_pD : takeQ [15, 0, 33, 2, 0, 0, 4, 1, 5] = some pD := by kernel_rfl
theorem take_1 : takeQ [4, 1, 5, 4, 1, 5] = none := by kernel_rfl
theorem take_2 : takeQ [4, 2, 5, 5] = none := by kernel_rfl
theorem take_3 : takeQ [14, 1, 1] = none := by kernel_rfl
theorem take_4 : takeQ [2, 1, 0] = none := by kernel_rfl
theorem take_5 : takeQ [11, 4, 128, 0, 64, 0] = none := by kernel_rfl
theorem may_pK : mayQ pK = true := by decide +kernel

def lit9 : Array Value := #[.int .u8 15, .int .u8 0, .int .u8 33, .int .u8 2, .int .u8 0, .int .u8 0, .int .u8 4, .int .u8 1, .int .u8 5]
/-- The cells of parameters with Data alone. -/
def rowD : Array Value :=
  #[.slice none 0 0, .slice none 0 0, .int .u64 0, .int .u64 5, .int .u64 0, .int .u64 0, .int .u64 0, .int .u64 0, .int .u64 0, .int .u64 0, .int .u64 0, .bool false,
    .int .u8 0, .int .u8 0, .int .u8 0, .int .u8 0, .int .u8 0, .int .u8 0, .int .u8 0, .int .u8 0, .int .u8 0, .int .u8 0, .int .u8 0, .int .u8 0, .int .u8 0, .int .u8 0, .int .u8 0, .int .u8 0]

theorem is_rowD (w : World) : IsQ w rowD pD := ⟨rfl, none, 0, none, 0, rfl, Sv.nil _ _ _, Sv.nil _ _ _⟩

/-- The five that tell none, in memory. -/
def fiveW (w : World) : World := ((((((w.alloc (.cells #[.int .u8 4, .int .u8 1, .int .u8 5, .int .u8 4, .int .u8 1, .int .u8 5] 5)).alloc (.cells #[.int .u8 4, .int .u8 2, .int .u8 5, .int .u8 5] 5)).alloc (.cells #[.int .u8 14, .int .u8 1, .int .u8 1] 5)).alloc (.cells #[.int .u8 2, .int .u8 1, .int .u8 0] 5)).alloc (.cells #[.int .u8 11, .int .u8 4, .int .u8 128, .int .u8 0, .int .u8 64, .int .u8 0] 5)).alloc (.cells #[.slice (some ⟨w.heap.size, 0, none⟩) 6 6, .slice (some ⟨w.heap.size + 1, 0, none⟩) 4 4, .slice (some ⟨w.heap.size + 2, 0, none⟩) 3 3, .slice (some ⟨w.heap.size + 3, 0, none⟩) 3 3, .slice (some ⟨w.heap.size + 4, 0, none⟩) 6 6] 22))

/-- The k-th of five, in a world. -/
def FiveAt (w : World) (g k : Nat) : Prop := ∃ (b n : Nat) (l : List UInt8), w.cell? ⟨g, k, none⟩ = some (.slice (some ⟨b, 0, none⟩) n n) ∧ l.length = n ∧ n ≤ 6 ∧ takeQ l = none ∧ Sl w w.heap.size (some ⟨b, 0, none⟩) l

theorem fiveW_is (w : World) : Below w.heap.size w (fiveW w) ∧ ∀ k, k < 5 → FiveAt (fiveW w) (w.heap.size + 5) k := by
  refine ⟨(((((((Below.refl _ _).alloc (Nat.le_refl _) _).alloc (by simp) _).alloc (by simp; omega) _).alloc (by simp; omega) _).alloc (by simp; omega) _).alloc (by simp; omega) _), ?_⟩
  unfold fiveW
  have s1 : ∀ o, (w.alloc o).heap.size = w.heap.size + 1 := fun o => by simp
  have s2 : ∀ o p, ((w.alloc o).alloc p).heap.size = w.heap.size + 2 := fun o p => by simp
  have s3 : ∀ o p q, (((w.alloc o).alloc p).alloc q).heap.size = w.heap.size + 3 := fun o p q => by simp
  have s4 : ∀ o p q r, ((((w.alloc o).alloc p).alloc q).alloc r).heap.size = w.heap.size + 4 := fun o p q r => by simp
  have s5 : ∀ o p q r s, (((((w.alloc o).alloc p).alloc q).alloc r).alloc s).heap.size = w.heap.size + 5 := fun o p q r s => by simp
  have b0 : ∀ (o p q r s x : Obj) (c : Array Value) (t : TypeId), o = .cells c t → Wh ((((((w.alloc o).alloc p).alloc q).alloc r).alloc s).alloc x) w.heap.size t c := fun o p q r s x c t e => by subst e; exact (((((Wh.new w t c).alloc p).alloc q).alloc r).alloc s).alloc x
  have b1 : ∀ (o p q r s x : Obj) (c : Array Value) (t : TypeId), p = .cells c t → Wh ((((((w.alloc o).alloc p).alloc q).alloc r).alloc s).alloc x) (w.heap.size + 1) t c := fun o p q r s x c t e => by subst e; have h := ((((Wh.new (w.alloc o) t c).alloc q).alloc r).alloc s).alloc x; rwa [s1] at h
  have b2 : ∀ (o p q r s x : Obj) (c : Array Value) (t : TypeId), q = .cells c t → Wh ((((((w.alloc o).alloc p).alloc q).alloc r).alloc s).alloc x) (w.heap.size + 2) t c := fun o p q r s x c t e => by subst e; have h := (((Wh.new ((w.alloc o).alloc p) t c).alloc r).alloc s).alloc x; rwa [s2] at h
  have b3 : ∀ (o p q r s x : Obj) (c : Array Value) (t : TypeId), r = .cells c t → Wh ((((((w.alloc o).alloc p).alloc q).alloc r).alloc s).alloc x) (w.heap.size + 3) t c := fun o p q r s x c t e => by subst e; have h := ((Wh.new (((w.alloc o).alloc p).alloc q) t c).alloc s).alloc x; rwa [s3] at h
  have b4 : ∀ (o p q r s x : Obj) (c : Array Value) (t : TypeId), s = .cells c t → Wh ((((((w.alloc o).alloc p).alloc q).alloc r).alloc s).alloc x) (w.heap.size + 4) t c := fun o p q r s x c t e => by subst e; have h := (Wh.new ((((w.alloc o).alloc p).alloc q).alloc r) t c).alloc x; rwa [s4] at h
  have b5 : ∀ (o p q r s x : Obj) (c : Array Value) (t : TypeId), x = .cells c t → Wh ((((((w.alloc o).alloc p).alloc q).alloc r).alloc s).alloc x) (w.heap.size + 5) t c := fun o p q r s x c t e => by subst e; have h := Wh.new (((((w.alloc o).alloc p).alloc q).alloc r).alloc s) t c; rwa [s5] at h
  intro k hk
  have ck : k = 0 ∨ k = 1 ∨ k = 2 ∨ k = 3 ∨ k = 4 := by omega
  rcases ck with rfl | rfl | rfl | rfl | rfl
  · exact ⟨_, _, [4, 1, 5, 4, 1, 5], (b5 _ _ _ _ _ _ _ _ rfl).cell 0, rfl, by decide, take_1, sl_blk (b0 _ _ _ _ _ _ _ _ rfl) rfl⟩
  · exact ⟨_, _, [4, 2, 5, 5], (b5 _ _ _ _ _ _ _ _ rfl).cell 1, rfl, by decide, take_2, sl_blk (b1 _ _ _ _ _ _ _ _ rfl) rfl⟩
  · exact ⟨_, _, [14, 1, 1], (b5 _ _ _ _ _ _ _ _ rfl).cell 2, rfl, by decide, take_3, sl_blk (b2 _ _ _ _ _ _ _ _ rfl) rfl⟩
  · exact ⟨_, _, [2, 1, 0], (b5 _ _ _ _ _ _ _ _ rfl).cell 3, rfl, by decide, take_4, sl_blk (b3 _ _ _ _ _ _ _ _ rfl) rfl⟩
  · exact ⟨_, _, [11, 4, 128, 0, 64, 0], (b5 _ _ _ _ _ _ _ _ rfl).cell 4, rfl, by decide, take_5, sl_blk (b4 _ _ _ _ _ _ _ _ rfl) rfl⟩

theorem FiveAt.below {w w' : World} {g k : Nat} (h : FiveAt w g k) (hg : g < w.heap.size) (hb : Below w.heap.size w w') : FiveAt w' g k := by
  obtain ⟨b, n, l, h1, h2, h3, h4, h5⟩ := h
  exact ⟨b, n, l, (hb.cell (p := ⟨g, k, none⟩) hg).trans h1, h2, h3, h4, (h5.below hb).keep hb.size (fun _ _ => rfl)⟩

set_option maxRecDepth 100000 in
set_option maxHeartbeats 3200000 in
theorem qknown_any (w : World) (hT : Tab w) : Calls Tryd.prog 14 #[] w fun e w' => e = .returned (.bool true) ∧ Below w.heap.size w w' := by
  have hb0 : Below w.heap.size w (w.alloc (.cells #[.int .u8 10, .int .u8 11] 5)) := (Below.refl _ _).alloc (Nat.le_refl _) _
  have hsl : Sl (w.alloc (.cells #[.int .u8 10, .int .u8 11] 5)) (w.alloc (.cells #[.int .u8 10, .int .u8 11] 5)).heap.size (some ⟨w.heap.size, 0, none⟩) [10, 11] := sl_blk (Wh.new _ _ _) rfl
  have happ := qapp_ok none 0 0 [] (prC none 0 (some ⟨w.heap.size, 0, none⟩) 2 pK) none 0 (some ⟨w.heap.size, 0, none⟩) 2 pK rfl (w.alloc (.cells #[.int .u8 10, .int .u8 11] 5)) (hT.below hb0 hT.lt) rfl may_pK rfl (Sv.nil _ _ _) (by omega) (Sv.nil _ _ _) hsl
  rw [List.nil_append, bytes_pK] at happ
  have hr : prC none 0 (some ⟨w.heap.size, 0, none⟩) 2 pK = #[.slice none 0 0, .slice (some ⟨w.heap.size, 0, none⟩) 2 2, .int .u64 30000, .int .u64 0, .int .u64 0, .int .u64 0, .int .u64 0, .int .u64 3, .int .u64 0, .int .u64 0, .int .u64 0, .bool false,
    .int .u8 0, .int .u8 0, .int .u8 0, .int .u8 0, .int .u8 0, .int .u8 0, .int .u8 0, .int .u8 0, .int .u8 0, .int .u8 0, .int .u8 0, .int .u8 0, .int .u8 0, .int .u8 0, .int .u8 0, .int .u8 0] := rfl
  rw [hr] at happ
  have HAPP := Lib.hid happ
  have HB0 := Lib.hid hb0
  clear happ hb0 hsl hr hT
  go_enter Tryd.func14, Tryd.ntmps14
  go_upto_region 2 with (go_at_call 15; refine HAPP.out.mono ?_; rintro e w1 ⟨A1, c1, rfl, hc1, hm1, hown1, hb1⟩)
  have HS1 := Lib.hid (Sv.of_own hown1)
  have HB1 := Lib.hid (HB0.out.trans (hb1.mono HB0.out.size))
  clear hown1 hb1 HAPP HB0
  have hb2 : Below w1.heap.size w1 (w1.alloc (.cells lit9 5)) := (Below.refl _ _).alloc (Nat.le_refl _) _
  have htk := qtake_ok take_pD (some ⟨w1.heap.size, 0, none⟩) 9 9 (w1.alloc (.cells lit9 5)) rfl (sl_blk (Wh.new _ _ _) rfl) (by decide) (by unfold maxLen; omega) (by decide)
  have HS2 := Lib.hid (HS1.out.below hb2)
  have HB2 := Lib.hid (HB1.out.trans (hb2.mono HB1.out.size))
  unfold lit9 at htk HS2 HB2
  have HTK := Lib.hid htk
  clear htk hb2 HS1 HB1
  go_upto_region 3 with (first
    | (go_at_call 19; refine HTK.out.mono ?_; rintro e w2 ⟨R, rfl, hr2, hb2⟩
       have HR2 := Lib.hid hr2.is; have HB3 := Lib.hid hb2; clear hr2 hb2)
    | (refine wpList_store_row rfl 43 (.tmp 3) (.tmp 18) rfl w2.heap.size R rfl rfl _ _ (Wh.new _ _ _) HR2.out.info (by rw [HR2.out.size]; rfl) HR2.out.one ?_))
  obtain ⟨hw3, hb3⟩ := box_put HR2.out zRowQ
  unfold zRowQ at hw3 hb3
  have hr3 := HR2.out.below hb3
  have HW3 := Lib.hid hw3
  have HB4 := Lib.hid ((HB2.out.trans (HB3.out.mono HB2.out.size)).trans (hb3.mono (HB2.out.trans (HB3.out.mono HB2.out.size)).size))
  have hs3 : Sl _ w1.heap.size A1 _ := (HS2.out.below (HB3.out.mono (by simp))).below (hb3.mono (Nat.le_trans (by simp) HB3.out.size))
  clear HS2 HB2 HB3 HTK hw3 hb3 HR2
  generalize World.setRow (w2.alloc (.cells #[.slice none 0 0, .slice none 0 0, .int .u64 0, .int .u64 0, .int .u64 0, .int .u64 0, .int .u64 0, .int .u64 0, .int .u64 0, .int .u64 0, .int .u64 0, .bool false, .int .u8 0, .int .u8 0, .int .u8 0, .int .u8 0, .int .u8 0, .int .u8 0, .int .u8 0, .int .u8 0, .int .u8 0, .int .u8 0, .int .u8 0, .int .u8 0, .int .u8 0, .int .u8 0, .int .u8 0, .int .u8 0] 43)) w2.heap.size R = w3 at *
  have hstr := run_string_sl (P := Tryd.prog) w3 22 9 5 Tryd.underlying22 Tryd.underlying5 Tryd.underlying9 _ A1 13 c1 _ hs3 rfl
  rw [show strB [1, 4, 128, 0, 117, 48, 8, 1, 3, 15, 2, 10, 11] = { data := #[1, 4, 128, 0, 117, 48, 8, 1, 3, 15, 2, 10, 11] } from rfl] at hstr
  have hsame := sameq_is hr3 (is_rowD w3)
  unfold rowD at hsame
  have HSAME := Lib.hid hsame
  have HI := Lib.hid hr3.info
  clear hs3 hsame hr3
  go_upto_region 5 with (first
    | (refine wpList_load_q 43 (.tmp 3) rfl (by rfl) w2.heap.size rfl _ R _ HW3.out Tryd.underlying43 rfl HI.out ?_)
    | (go_at_call 20; refine HSAME.out.mono ?_; rintro e w4 ⟨rfl, hb4⟩))
  have HB5 := Lib.hid (HB4.out.trans (hb4.mono HB4.out.size))
  clear HB4 HW3 HI HSAME hb4
  go_wp2_with fail
  obtain ⟨hb5, hf5⟩ := fiveW_is w4
  have hlt5 : w4.heap.size + 5 < (fiveW w4).heap.size := by unfold fiveW; simp
  unfold fiveW at hb5 hf5 hlt5
  have HB6 := Lib.hid (HB5.out.trans (hb5.mono HB5.out.size))
  have HF := Lib.hid hf5
  have HLT := Lib.hid hlt5
  clear hb5 hf5 hlt5 HB5
  generalize ((((((w4.alloc (.cells #[.int .u8 4, .int .u8 1, .int .u8 5, .int .u8 4, .int .u8 1, .int .u8 5] 5)).alloc (.cells #[.int .u8 4, .int .u8 2, .int .u8 5, .int .u8 5] 5)).alloc (.cells #[.int .u8 14, .int .u8 1, .int .u8 1] 5)).alloc (.cells #[.int .u8 2, .int .u8 1, .int .u8 0] 5)).alloc (.cells #[.int .u8 11, .int .u8 4, .int .u8 128, .int .u8 0, .int .u8 64, .int .u8 0] 5)).alloc (.cells #[.slice (some ⟨w4.heap.size, 0, none⟩) 6 6, .slice (some ⟨w4.heap.size + 1, 0, none⟩) 4 4, .slice (some ⟨w4.heap.size + 2, 0, none⟩) 3 3, .slice (some ⟨w4.heap.size + 3, 0, none⟩) 3 3, .slice (some ⟨w4.heap.size + 4, 0, none⟩) 6 6] 22)) = w5 at *
  go_loopw [44] (fun i wr => ∃ k : Nat, k ≤ 5 ∧ i = .int .i64 (k : Int) ∧ Hid (Below w.heap.size w wr) ∧ Hid (Below w5.heap.size w5 wr)) (fun i _ => 5 - (intOf i).toNat)
  case atStart => exact ⟨0, by omega, rfl, HB6, Lib.hid (Below.refl _ _)⟩
  case round =>
    clear HB6
    obtain ⟨k, hk, rfl, HB6, HW5⟩ := hrel
    by_cases hlt : k < 5
    · obtain ⟨b, n, l, ec, hln, hn6, htk, hsl⟩ := (HF.out k hlt).below HLT.out HW5.out
      have htk' := qtake_no htk (some ⟨b, 0, none⟩) n n wr hln hsl (Nat.le_refl _) (by unfold maxLen; omega) (by omega)
      have HTK := Lib.hid htk'
      clear hsl htk htk' hln
      go_upto_region 9 with (first
        | (go_at_call 19; refine HTK.out.mono ?_; rintro e w7 ⟨R7, rfl, hr7, hb7⟩
           have HR7 := Lib.hid hr7; have HB7 := Lib.hid hb7; clear hr7 hb7)
        | (refine wpList_store_row rfl 43 (.tmp 7) (.tmp 51) rfl w7.heap.size R7 rfl rfl _ _ (Wh.new _ _ _) HR7.out.info (by rw [HR7.out.size]; rfl) HR7.out.one ?_))
      obtain ⟨hw8, hb8⟩ := box_put HR7.out zRowQ
      have hr8 := HR7.out.below hb8
      have hsame := sameq_is hr8 (IsQ.z _)
      unfold zRowQ at hw8 hb8 hsame hr8
      have HSAME := Lib.hid hsame
      have HI := Lib.hid hr8.info
      have HW8 := Lib.hid hw8
      have HB8 := Lib.hid (HB7.out.trans (hb8.mono HB7.out.size))
      clear hw8 hb8 hsame HB7 HTK hr8 HR7
      generalize World.setRow (w7.alloc (.cells #[.slice none 0 0, .slice none 0 0, .int .u64 0, .int .u64 0, .int .u64 0, .int .u64 0, .int .u64 0, .int .u64 0, .int .u64 0, .int .u64 0, .int .u64 0, .bool false, .int .u8 0, .int .u8 0, .int .u8 0, .int .u8 0, .int .u8 0, .int .u8 0, .int .u8 0, .int .u8 0, .int .u8 0, .int .u8 0, .int .u8 0, .int .u8 0, .int .u8 0, .int .u8 0, .int .u8 0, .int .u8 0] 43)) w7.heap.size R7 = w8 at *
      go_wp2_with (first
        | (refine wpList_load_q 43 (.tmp 7) rfl (by rfl) w7.heap.size rfl _ R7 _ HW8.out Tryd.underlying43 rfl HI.out ?_)
        | (go_at_call 20; refine HSAME.out.mono ?_; rintro e w9 ⟨rfl, hb9⟩))
      have HB9 := Lib.hid (HB8.out.trans (hb9.mono HB8.out.size))
      clear hb9
      go_roundw
      case rel => exact ⟨k + 1, by omega, by go_num, Lib.hid (HB6.out.trans (HB9.out.mono HB6.out.size)), Lib.hid (HW5.out.trans (HB9.out.mono HW5.out.size))⟩
      case measure => simp [intOf]; omega
    · obtain rfl : k = 5 := by omega
      go_wp2_with fail
      go_ret
      exact ⟨rfl, HB6.out⟩

end Go.Proofs.YtpnpbjdkldmmdaaDoor
