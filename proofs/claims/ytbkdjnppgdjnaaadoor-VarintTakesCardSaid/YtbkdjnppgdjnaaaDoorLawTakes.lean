/-
  The walk through hostlerlaw01.VarintTakes.
-/
import Derived.Test.YtbkdjnppgdjnaaaDoorKnown
namespace Go.Proofs.YtbkdjnppgdjnaaaDoor
open Go.RowKit
set_option linter.unusedVariables false

/-- Turning a byte over. -/
theorem xor_cell (x : UInt8) : ∃ y : UInt8, Value.int .u8 (bits .xor .u8 (x.toNat : Int) 255) = cell8 y := by
  have h1 := bits_lo_u8 .xor (x.toNat : Int) 255
  have h2 := bits_hi_u8 .xor (x.toNat : Int) 255
  generalize bits .xor .u8 (x.toNat : Int) 255 = z at *
  refine ⟨UInt8.ofNat z.toNat, ?_⟩
  unfold cell8
  rw [UInt8.toNat_ofNat', Nat.mod_eq_of_lt (by omega), Int.toNat_of_nonneg h1]

set_option maxRecDepth 10000 in
set_option maxHeartbeats 400000 in
theorem takes_long (A : Option Addr) (len c : Nat) (w : World) (hT : Tab w) (hlen : (3000 : Int) < (len : Int)) :
    Calls Tryd.prog 3 #[.slice A len c] w fun e w' => e = .returned (.bool true) ∧ Below w.heap.size w w' := by
  go_enter Tryd.func3, Tryd.ntmps3
  go_wp2_with (go_at_call 6; refine (known_any _ hT).mono ?_; rintro e w0 ⟨rfl, hb0⟩)
  go_ret
  exact ⟨rfl, hb0⟩

set_option maxRecDepth 10000 in
set_option maxHeartbeats 800000 in
theorem takes_none (A : Option Addr) (len c : Nat) (w : World) (l : List UInt8) (hT : Tab w) (hl : l.length = len) (hr : Sl w w.heap.size A l) (hc : len ≤ c) (hm : c ≤ maxLen) (hlen : len ≤ 3000) (htk : tk l = none) :
    Calls Tryd.prog 3 #[.slice A len c] w fun e w' => e = .returned (.bool true) ∧ Below w.heap.size w w' := by
  obtain ⟨i0, hi0, hz0, hz1, hz2⟩ := info_parts info8
  have HL := Lib.hid hl
  have HTK := Lib.hid htk
  have HTK0 := Lib.hid (show tk (l.drop 0) = none by simpa using htk)
  have HBY := Lib.hid (show by_ l = none by unfold by_; rw [htk])
  have HR := Lib.hid hr
  have HM : Hid (c ≤ maxLen) := hm
  unfold maxLen at hm
  clear hl htk hr
  go_enter Tryd.func3, Tryd.ntmps3
  go_wp2_with (first
    | (go_at_call 6; refine (known_any _ hT).mono ?_; rintro e w0 ⟨rfl, hb0⟩; have hr0 := Lib.hid (HR.out.below hb0))
    | (go_at_call 7; refine (take_none HTK.out A len c _ w.heap.size HL.out hr0.out).mono ?_; rintro e w' ⟨rfl, rfl⟩)
    | (go_at_call 8; refine (reft_none (a := 0) HTK0.out A len c _ w.heap.size HL.out hr0.out hc HM.out).mono ?_; rintro e w' ⟨rfl, rfl⟩)
    | (at_builtin; refine wpList_append_sv _ rfl _ _ _ rfl w0.heap.size 5 i0 _ 1 Tryd.underlying22 hi0 hz0 hz1 hz2 rfl (.slice (some ⟨w0.heap.size, 0, none⟩) 0 0) 0 [] rfl (World.ownsRow_made w0 #[] 0 (Nat.le_refl _) (Nat.zero_le _) rfl) w.heap.size _ len _ (l.map cell8) rfl (hr0.out.keep (Nat.le_refl _) (fun p hp => World.cell?_alloc_lt w0 _ p (Nat.lt_of_lt_of_le hp hb0.size))) ((List.length_map _).trans HL.out) (cell8_one _) (by unfold maxLen; omega) (by omega) (by simp) ?_; intro v1 w1 hown1 hg1 hat1))
  rw [Nat.zero_add, List.nil_append] at hown1
  obtain ⟨g, hg⟩ : ∃ g, v1.ownBlock = some g := by rcases hat1 with h | h <;> exact ⟨_, h⟩
  obtain ⟨c1, rfl, p1, p2⟩ := own_some hown1 hg
  have hgl := hown1.lt g rfl
  have hb1 : Below w.heap.size w w1 := (hb0.alloc hb0.size _).grown hg1 (by have := hb0.size; simp; omega) (fun q hq => by have := hb0.size; simp [Value.ownBlock] at hq; omega)
  have HO := Lib.hid hown1
  have hfst : ∃ l' : List UInt8, l'.length = len ∧ w1.ownsRow w0.heap.size 5 1 (.slice (some ⟨g, 0, none⟩) len c1) len (l'.map cell8) := ⟨l, HL.out, hown1⟩
  have HF := Lib.hid hfst
  clear hown1 hg1 hat1 hg hfst
  go_wp2_with (go_at_call 9; refine (vbytes_none HBY.out _ len c1 w1 w1.heap.size HL.out (Sv.of_own HO.out) p1 p2).mono ?_; rintro e w' ⟨rfl, rfl⟩)
  go_loopw [55] (fun i wr => ∃ k : Nat, k ≤ len ∧ i = .int .i64 k ∧ Hid (∃ l' : List UInt8, l'.length = len ∧ wr.ownsRow w0.heap.size 5 1 (.slice (some ⟨g, 0, none⟩) len c1) len (l'.map cell8)) ∧ Below w.heap.size w wr) (fun i _ => len - (intOf i).toNat)
  case atStart => exact ⟨0, Nat.zero_le _, rfl, HF, hb1⟩
  case round =>
    obtain ⟨k, hk, rfl, hrow, hbel⟩ := hrel
    by_cases hlt : k < len
    · obtain ⟨l', hl', hown⟩ := hrow.out
      obtain ⟨y, hy⟩ : ∃ y, l'[k]? = some y := ⟨_, List.getElem?_eq_getElem (by omega)⟩
      have hcell : wr.cell? ⟨g, k, none⟩ = some (.int .u8 (y.toNat : Int)) := by
        rw [hown.cellAt k (by omega), List.getElem?_map, hy]
        rfl
      have hfz := hown.frozenAt k
      obtain ⟨z, hz⟩ := xor_cell y
      have hyl := y.toNat_lt
      have HZ := Lib.hid hz
      have HW := Lib.hid hown
      have HLL := Lib.hid hl'
      clear hy hz hown hl' hrow
      go_wp2
      go_roundw
      case rel =>
        rw [HZ.out]
        have hst := HW.out.stored k (cell8 z)
        exact ⟨k + 1, by omega, by go_num, Lib.hid ⟨l'.set k z, by rw [List.length_set]; exact HLL.out, by rw [List.map_set]; exact hst.1⟩, hbel.setCell (Nat.le_trans hb0.size hgl.1) _⟩
      case measure => simp [intOf]; omega
    · obtain rfl : len = k := by omega
      clear hrow
      have hstr := run_string_sl (P := Tryd.prog) wr 22 9 5 Tryd.underlying22 Tryd.underlying5 Tryd.underlying9 0 none 0 0 [] (Sv.nil _ _ _) rfl
      go_wp2_with (go_at_call 10; refine (sized_none HBY.out A len c _ w.heap.size HL.out (HR.out.below hbel) hc HM.out).mono ?_; rintro e w' ⟨rfl, rfl⟩)
      go_ret
      exact ⟨rfl, hbel⟩

set_option maxRecDepth 10000 in
set_option maxHeartbeats 800000 in
theorem takes_far (A : Option Addr) (len c : Nat) (w : World) (l : List UInt8) (hT : Tab w) (hl : l.length = len) (hr : Sl w w.heap.size A l) (hc : len ≤ c) (hm : c ≤ maxLen) (hlen : len ≤ 3000) {n kk : Nat} (htk : tk l = some (n, kk)) (hby : by_ l = none) :
    Calls Tryd.prog 3 #[.slice A len c] w fun e w' => e = .returned (.bool true) ∧ Below w.heap.size w w' := by
  obtain ⟨i0, hi0, hz0, hz1, hz2⟩ := info_parts info8
  have HL := Lib.hid hl
  have HTK := Lib.hid htk
  have HTK0 := Lib.hid (show tk (l.drop 0) = some (n, kk) by simpa using htk)
  have hkk := tk_le htk
  have hk1 := hkk.1
  have hk2 := hkk.2.1
  have hk0 : decide (0 < kk) = true := decide_eq_true (by omega)
  have hn64 := hkk.2.2.2
  have HN64 := Lib.hid hn64
  have HBY := Lib.hid hby
  clear hkk hn64 hby
  have HR := Lib.hid hr
  have HM : Hid (c ≤ maxLen) := hm
  unfold maxLen at hm
  clear hl htk hr
  go_enter Tryd.func3, Tryd.ntmps3
  go_wp2_with (first
    | (go_at_call 6; refine (known_any _ hT).mono ?_; rintro e w0 ⟨rfl, hb0⟩; have hr0 := Lib.hid (HR.out.below hb0))
    | (go_at_call 7; refine (take_some HTK.out A len c _ w.heap.size HL.out hr0.out hc HM.out).mono ?_; rintro e w' ⟨rfl, rfl⟩)
    | (go_at_call 8; refine (reft_some (a := 0) HTK0.out A len c _ w.heap.size HL.out hr0.out hc HM.out).mono ?_; rintro e w' ⟨rfl, rfl⟩; rw [Nat.zero_add])
    | (at_builtin; refine wpList_append_sv _ rfl _ _ _ rfl w0.heap.size 5 i0 _ 1 Tryd.underlying22 hi0 hz0 hz1 hz2 rfl (.slice (some ⟨w0.heap.size, 0, none⟩) 0 0) 0 [] rfl (World.ownsRow_made w0 #[] 0 (Nat.le_refl _) (Nat.zero_le _) rfl) w.heap.size _ len _ (l.map cell8) rfl (hr0.out.keep (Nat.le_refl _) (fun p hp => World.cell?_alloc_lt w0 _ p (Nat.lt_of_lt_of_le hp hb0.size))) ((List.length_map _).trans HL.out) (cell8_one _) (by unfold maxLen; omega) (by omega) (by simp) ?_; intro v1 w1 hown1 hg1 hat1))
  rw [Nat.zero_add, List.nil_append] at hown1
  obtain ⟨g, hg⟩ : ∃ g, v1.ownBlock = some g := by rcases hat1 with h | h <;> exact ⟨_, h⟩
  obtain ⟨c1, rfl, p1, p2⟩ := own_some hown1 hg
  have hgl := hown1.lt g rfl
  have hb1 : Below w.heap.size w w1 := (hb0.alloc hb0.size _).grown hg1 (by have := hb0.size; simp; omega) (fun q hq => by have := hb0.size; simp [Value.ownBlock] at hq; omega)
  have HO := Lib.hid hown1
  have hfst : ∃ l' : List UInt8, l'.length = len ∧ w1.ownsRow w0.heap.size 5 1 (.slice (some ⟨g, 0, none⟩) len c1) len (l'.map cell8) := ⟨l, HL.out, hown1⟩
  have HF := Lib.hid hfst
  clear hown1 hg1 hat1 hg hfst
  go_wp2_with (go_at_call 9; refine (vbytes_none HBY.out _ len c1 w1 w1.heap.size HL.out (Sv.of_own HO.out) p1 p2).mono ?_; rintro e w' ⟨rfl, rfl⟩)
  go_loopw [55] (fun i wr => ∃ k : Nat, k ≤ len ∧ i = .int .i64 k ∧ Hid (∃ l' : List UInt8, l'.length = len ∧ wr.ownsRow w0.heap.size 5 1 (.slice (some ⟨g, 0, none⟩) len c1) len (l'.map cell8)) ∧ Below w.heap.size w wr) (fun i _ => len - (intOf i).toNat)
  case atStart => exact ⟨0, Nat.zero_le _, rfl, HF, hb1⟩
  case round =>
    obtain ⟨k, hk, rfl, hrow, hbel⟩ := hrel
    by_cases hlt : k < len
    · obtain ⟨l', hl', hown⟩ := hrow.out
      obtain ⟨y, hy⟩ : ∃ y, l'[k]? = some y := ⟨_, List.getElem?_eq_getElem (by omega)⟩
      have hcell : wr.cell? ⟨g, k, none⟩ = some (.int .u8 (y.toNat : Int)) := by
        rw [hown.cellAt k (by omega), List.getElem?_map, hy]
        rfl
      have hfz := hown.frozenAt k
      obtain ⟨z, hz⟩ := xor_cell y
      have hyl := y.toNat_lt
      have HZ := Lib.hid hz
      have HW := Lib.hid hown
      have HLL := Lib.hid hl'
      clear hy hz hown hl' hrow
      go_wp2
      go_roundw
      case rel =>
        rw [HZ.out]
        have hst := HW.out.stored k (cell8 z)
        exact ⟨k + 1, by omega, by go_num, Lib.hid ⟨l'.set k z, by rw [List.length_set]; exact HLL.out, by rw [List.map_set]; exact hst.1⟩, hbel.setCell (Nat.le_trans hb0.size hgl.1) _⟩
      case measure => simp [intOf]; omega
    · obtain rfl : len = k := by omega
      clear hrow
      have hstr := run_string_sl (P := Tryd.prog) wr 22 9 5 Tryd.underlying22 Tryd.underlying5 Tryd.underlying9 0 none 0 0 [] (Sv.nil _ _ _) rfl
      go_wp2_with (go_at_call 10; refine (sized_none HBY.out A len c _ w.heap.size HL.out (HR.out.below hbel) hc HM.out).mono ?_; rintro e w' ⟨rfl, rfl⟩)
      go_ret
      exact ⟨rfl, hbel⟩

set_option maxRecDepth 10000 in
set_option maxHeartbeats 800000 in
theorem takes_near (A : Option Addr) (len c : Nat) (w : World) (l : List UInt8) (hT : Tab w) (hl : l.length = len) (hr : Sl w w.heap.size A l) (hc : len ≤ c) (hm : c ≤ maxLen) (hlen : len ≤ 3000) {n kk u : Nat} {m : List UInt8} (htk : tk l = some (n, kk)) (hby : by_ l = some (m, u)) :
    Calls Tryd.prog 3 #[.slice A len c] w fun e w' => e = .returned (.bool true) ∧ Below w.heap.size w w' := by
  obtain ⟨i0, hi0, hz0, hz1, hz2⟩ := info_parts info8
  have HL := Lib.hid hl
  have HTK := Lib.hid htk
  have HTK0 := Lib.hid (show tk (l.drop 0) = some (n, kk) by simpa using htk)
  have hkk := tk_le htk
  have hk1 := hkk.1
  have hk2 := hkk.2.1
  have hk0 : decide (0 < kk) = true := decide_eq_true (by omega)
  have hn64 := hkk.2.2.2
  have HN64 := Lib.hid hn64
  have HBY := Lib.hid hby
  clear hkk hn64 hby
  have HR := Lib.hid hr
  have HM : Hid (c ≤ maxLen) := hm
  unfold maxLen at hm
  clear hl htk hr
  go_enter Tryd.func3, Tryd.ntmps3
  go_wp2_with (first
    | (go_at_call 6; refine (known_any _ hT).mono ?_; rintro e w0 ⟨rfl, hb0⟩; have hr0 := Lib.hid (HR.out.below hb0))
    | (go_at_call 7; refine (take_some HTK.out A len c _ w.heap.size HL.out hr0.out hc HM.out).mono ?_; rintro e w' ⟨rfl, rfl⟩)
    | (go_at_call 8; refine (reft_some (a := 0) HTK0.out A len c _ w.heap.size HL.out hr0.out hc HM.out).mono ?_; rintro e w' ⟨rfl, rfl⟩; rw [Nat.zero_add])
    | (at_builtin; refine wpList_append_sv _ rfl _ _ _ rfl w0.heap.size 5 i0 _ 1 Tryd.underlying22 hi0 hz0 hz1 hz2 rfl (.slice (some ⟨w0.heap.size, 0, none⟩) 0 0) 0 [] rfl (World.ownsRow_made w0 #[] 0 (Nat.le_refl _) (Nat.zero_le _) rfl) w.heap.size _ len _ (l.map cell8) rfl (hr0.out.keep (Nat.le_refl _) (fun p hp => World.cell?_alloc_lt w0 _ p (Nat.lt_of_lt_of_le hp hb0.size))) ((List.length_map _).trans HL.out) (cell8_one _) (by unfold maxLen; omega) (by omega) (by simp) ?_; intro v1 w1 hown1 hg1 hat1))
  rw [Nat.zero_add, List.nil_append] at hown1
  obtain ⟨g, hg⟩ : ∃ g, v1.ownBlock = some g := by rcases hat1 with h | h <;> exact ⟨_, h⟩
  obtain ⟨c1, rfl, p1, p2⟩ := own_some hown1 hg
  have hgl := hown1.lt g rfl
  have hb1 : Below w.heap.size w w1 := (hb0.alloc hb0.size _).grown hg1 (by have := hb0.size; simp; omega) (fun q hq => by have := hb0.size; simp [Value.ownBlock] at hq; omega)
  have HO := Lib.hid hown1
  have hfst : ∃ l' : List UInt8, l'.length = len ∧ w1.ownsRow w0.heap.size 5 1 (.slice (some ⟨g, 0, none⟩) len c1) len (l'.map cell8) := ⟨l, HL.out, hown1⟩
  have HF := Lib.hid hfst
  clear hown1 hg1 hat1 hg hfst
  go_wp2_with (go_at_call 9; refine (vbytes_some HBY.out _ len c1 w1 w1.heap.size HL.out (Sv.of_own HO.out) p1 p2 (by omega) (Nat.le_refl _)).mono ?_; rintro e w2 ⟨A2, c2, rfl, q1, q2, hown2, hb12⟩)
  have hb2 : Below w.heap.size w w2 := hb1.trans (hb12.mono hb1.size)
  have hfst2 : ∃ l' : List UInt8, l'.length = len ∧ w2.ownsRow w0.heap.size 5 1 (.slice (some ⟨g, 0, none⟩) len c1) len (l'.map cell8) := ⟨l, HL.out, own_below HO.out hb12⟩
  have HF2 := Lib.hid hfst2
  have HG2 := Lib.hid hown2
  clear hown2 hfst2 hb12 q1 q2
  go_loopw [55] (fun i wr => ∃ k : Nat, k ≤ len ∧ i = .int .i64 k ∧ Hid (∃ l' : List UInt8, l'.length = len ∧ wr.ownsRow w0.heap.size 5 1 (.slice (some ⟨g, 0, none⟩) len c1) len (l'.map cell8)) ∧ Hid (wr.ownsRow w1.heap.size 5 1 (.slice A2 m.length c2) m.length (m.map cell8)) ∧ Below w.heap.size w wr) (fun i _ => len - (intOf i).toNat)
  case atStart => exact ⟨0, Nat.zero_le _, rfl, HF2, HG2, hb2⟩
  case round =>
    obtain ⟨k, hk, rfl, hrow, hkeep, hbel⟩ := hrel
    by_cases hlt : k < len
    · obtain ⟨l', hl', hown⟩ := hrow.out
      obtain ⟨y, hy⟩ : ∃ y, l'[k]? = some y := ⟨_, List.getElem?_eq_getElem (by omega)⟩
      have hcell : wr.cell? ⟨g, k, none⟩ = some (.int .u8 (y.toNat : Int)) := by
        rw [hown.cellAt k (by omega), List.getElem?_map, hy]
        rfl
      have hfz := hown.frozenAt k
      obtain ⟨z, hz⟩ := xor_cell y
      have hyl := y.toNat_lt
      have HZ := Lib.hid hz
      have HW := Lib.hid hown
      have HLL := Lib.hid hl'
      clear hy hz hown hl' hrow
      go_wp2
      go_roundw
      case rel =>
        rw [HZ.out]
        have hst := HW.out.stored k (cell8 z)
        exact ⟨k + 1, by omega, by go_num, Lib.hid ⟨l'.set k z, by rw [List.length_set]; exact HLL.out, by rw [List.map_set]; exact hst.1⟩, Lib.hid (hkeep.out.kept hst.2 (own_ne hkeep.out hgl.2)), hbel.setCell (Nat.le_trans hb0.size hgl.1) _⟩
      case measure => simp [intOf]; omega
    · obtain rfl : len = k := by omega
      clear hrow
      go_wp2_with (go_at_call 10; refine (sized_some HBY.out A len c _ w.heap.size HL.out (HR.out.below hbel) hc HM.out (by omega) hbel.size).mono ?_; rintro e w5 ⟨A5, c5, rfl, q3, q4, hown5, hbel5⟩; have hb5 : Below w.heap.size w w5 := hbel.trans (hbel5.mono hbel.size); have hstr := run_string_sl (P := Tryd.prog) w5 22 9 5 Tryd.underlying22 Tryd.underlying5 Tryd.underlying9 wr.heap.size A2 m.length c2 m ((Sv.of_own hkeep.out).below hbel5) rfl; have hstr5 := run_string_sl (P := Tryd.prog) w5 22 9 5 Tryd.underlying22 Tryd.underlying5 Tryd.underlying9 _ A5 m.length c5 m (Sv.of_own hown5) rfl; clear hown5 hbel5)
      go_ret
      exact ⟨rfl, hb5⟩

end Go.Proofs.YtbkdjnppgdjnaaaDoor
