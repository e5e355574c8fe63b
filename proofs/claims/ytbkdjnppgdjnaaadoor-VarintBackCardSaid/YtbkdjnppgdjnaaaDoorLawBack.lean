/-
  The walk through hostlerlaw01.VarintBack.
-/
import Derived.Test.YtbkdjnppgdjnaaaDoorKnown
import Derived.Test.YtbkdjnppgdjnaaaDoorMath2
namespace Go.Proofs.YtbkdjnppgdjnaaaDoor
open Go.RowKit
set_option linter.unusedVariables false

set_option maxRecDepth 10000 in
set_option maxHeartbeats 400000 in
theorem back_many (A : Option Addr) (len c : Nat) (A2 : Option Addr) (len2 c2 : Nat) (w : World) (hT : Tab w) (hlen : (300 : Int) < (len : Int)) :
    Calls Tryd.prog 5 #[.slice A len c, .slice A2 len2 c2] w fun e w' => e = .returned (.bool true) ∧ Below w.heap.size w w' := by
  go_enter Tryd.func5, Tryd.ntmps5
  go_wp2_with (go_at_call 6; refine (known_any _ hT).mono ?_; rintro e w0 ⟨rfl, hb0⟩)
  go_ret
  exact ⟨rfl, hb0⟩

set_option maxRecDepth 10000 in
set_option maxHeartbeats 400000 in
theorem back_long (A : Option Addr) (len c : Nat) (A2 : Option Addr) (len2 c2 : Nat) (w : World) (hT : Tab w) (hlen : (len : Int) ≤ (300 : Int)) (hlen2 : (1000 : Int) < (len2 : Int)) :
    Calls Tryd.prog 5 #[.slice A len c, .slice A2 len2 c2] w fun e w' => e = .returned (.bool true) ∧ Below w.heap.size w w' := by
  go_enter Tryd.func5, Tryd.ntmps5
  go_wp2_with (go_at_call 6; refine (known_any _ hT).mono ?_; rintro e w0 ⟨rfl, hb0⟩)
  go_ret
  exact ⟨rfl, hb0⟩

/-- A cut 's[k:]', as the model spells its address. -/
theorem Sv.cutFrom {w : World} {B : Nat} {A : Option Addr} {xs : List Value} (h : Sv w B A xs) (k c : Nat) (hc : xs.length ≤ c) :
    Sv w B (if c = k then A else A.map fun x => x.add k) (xs.drop k) := by
  have := h.cut k (xs.drop k).length c hc
  rwa [List.take_of_length_le (Nat.le_refl _)] at this

set_option maxRecDepth 10000 in
set_option maxHeartbeats 1000000 in
theorem back_may (A : Option Addr) (len c : Nat) (A2 : Option Addr) (len2 c2 : Nat) (l : List Nat) (b : List UInt8) (w : World) (hT : Tab w) (hl : l.length = len) (hr : Sn w w.heap.size A l) (hlb : b.length = len2) (hrb : Sl w w.heap.size A2 b)
    (hc2 : len2 ≤ c2) (hm2 : c2 ≤ maxLen) (hlen : (len : Int) ≤ (300 : Int)) (hlen2 : (len2 : Int) ≤ (1000 : Int)) (hmay : May l) :
    Calls Tryd.prog 5 #[.slice A len c, .slice A2 len2 c2] w fun e w' => e = .returned (.bool true) ∧ Below w.heap.size w w' := by
  obtain ⟨i0, hi0, hz0, hz1, hz2⟩ := info_parts info8
  have HL := Lib.hid hl
  have HLB := Lib.hid hlb
  have HRB := Lib.hid hrb
  have HR := Lib.hid hr
  have HMY := Lib.hid hmay
  have HM2 : Hid (c2 ≤ maxLen) := hm2
  unfold maxLen at hm2
  have hes : (encs l).length ≤ 2400 := by
    have h1 := encs_length l
    have h2 := sumSz_le l
    omega
  clear hl hlb hrb hr hmay
  go_enter Tryd.func5, Tryd.ntmps5
  go_wp2_with (first
    | (go_at_call 6; refine (known_any _ hT).mono ?_; rintro e w0 ⟨rfl, hb0⟩; have HT0 := Lib.hid (hT.below hb0 hT.lt))
    | (go_at_call 14; refine (append_ok none 0 0 A len c [] l w0 w.heap.size rfl (Sv.nil _ _ _) HL.out (HR.out.below hb0) hb0.size (by omega) (by omega) HMY.out HT0.out).mono ?_; rintro e w1 ⟨A1, c1, rfl, p1, p2, hown1, hb01⟩; rw [List.nil_append] at hown1 p1 ⊢; generalize hg : encs l = g at hown1 p1 hes ⊢; have HG := Lib.hid hg; clear hg; have hb1 : Below w.heap.size w w1 := hb0.trans (hb01.mono hb0.size))
    | (at_builtin; refine wpList_append_sv _ rfl (.tmp 37) (.tmp 38) _ rfl w1.heap.size 5 i0 _ 1 Tryd.underlying22 hi0 hz0 hz1 hz2 rfl (.slice (some ⟨w1.heap.size, 0, none⟩) 0 0) 0 [] rfl (World.ownsRow_made w1 #[] 0 (Nat.le_refl _) (Nat.zero_le _) rfl) w1.heap.size _ _ _ (g.map cell8) rfl ((Sv.of_own hown1).keep (Nat.le_refl _) (fun p hp => World.cell?_alloc_lt w1 _ p hp)) (List.length_map _) (cell8_one _) (by unfold maxLen; omega) (by omega) (by simp) ?_; intro v2 w2 hown2 hg2 hat2; rw [Nat.zero_add, List.nil_append] at hown2; have hb12 : Below w1.heap.size w1 w2 := ((Below.refl _ _).alloc (Nat.le_refl _) _).grown hg2 (by simp) (fun q hq => by simp [Value.ownBlock] at hq; omega); have hb2 : Below w.heap.size w w2 := hb1.trans (hb12.mono hb1.size); clear hown1 hg2 hat2)
    | (at_builtin; refine wpList_append_sv _ rfl (.tmp 39) (.tmp 40) _ rfl w1.heap.size 5 i0 _ 1 Tryd.underlying22 hi0 hz0 hz1 hz2 rfl v2 g.length (g.map cell8) rfl hown2 w.heap.size A2 len2 c2 (b.map cell8) rfl (HRB.out.below hb2) ((List.length_map _).trans HLB.out) (cell8_one _) (by unfold maxLen; omega) (by omega) hb12.size ?_; intro v3 w3 hown3 hg3 hat3; have hb3 : Below w.heap.size w w3 := hb2.grown hg3 hb2.size (fun q hq => by have := (hown2.lt q hq).1; have := hb1.size; omega); clear hown2 hg3 hat3))
  obtain ⟨A3, c3, rfl, q1, q2⟩ := own_form hown3
  have hrest : Sl w3 w3.heap.size A3 (g ++ b) := by
    have := Sv.of_own hown3
    rwa [← List.map_append] at this
  have HREST := Lib.hid hrest
  clear hown3 hrest
  have hml : g.length + len2 = (g ++ b).length := by rw [List.length_append, HLB.out]
  have HML := Lib.hid hml
  clear hml
  unfold maxLen at q2
  go_loop [7, 44] (fun v i => ∃ (k : Nat) (A' : Option Addr) (m c' : Nat), k ≤ len ∧ i = .int .i64 k ∧ v = .slice A' m c' ∧ Hid (Sl w3 w3.heap.size A' (encs (l.drop k) ++ b) ∧ (encs (l.drop k) ++ b).length = m) ∧ m ≤ c' ∧ c' ≤ 9223372036854775807) (fun _ i => len - (intOf i).toNat)
  case atStart => exact ⟨0, A3, g.length + len2, c3, Nat.zero_le _, rfl, rfl, Lib.hid (by rw [List.drop_zero, HG.out]; exact ⟨HREST.out, HML.out.symm⟩), q1, by omega⟩
  case round =>
    obtain ⟨k, A', m, c', hk, rfl, rfl, hsl, hmc, hcm⟩ := hrel
    by_cases hlt : k < len
    · obtain ⟨n, hn⟩ : ∃ n, l[k]? = some n := ⟨_, List.getElem?_eq_getElem (by rw [HL.out]; exact hlt)⟩
      obtain ⟨b2, off2, rfl, hb2', hcc⟩ := Sn.at_ HR.out (by rw [HL.out]; omega)
      have hcell : w3.cell? ⟨b2, off2 + k, none⟩ = some (.int .u64 (n : Int)) := (hb3.cell (p := ⟨b2, off2 + k, none⟩) hb2').trans (hcc k n hn)
      have hmax := HMY.out k n hn
      have hp := szN_pos hmax
      have h8 := szN_le n
      have hs := hsl.out
      rw [encs_drop l k n hn, List.append_assoc] at hs
      have HTK := Lib.hid (tk_enc hmax (encs (l.drop (k + 1)) ++ b))
      have HCUT := Lib.hid (tk_cut hmax (encs (l.drop (k + 1)) ++ b))
      have hel := enc_length n
      have hzm : szN n ≤ m := by rw [← hs.2, List.length_append, hel]; omega
      have HEL := Lib.hid hel
      have HS := Lib.hid hs
      have HZ := Lib.hid (show ∀ w, _ from size_any n)
      clear hcc hn hsl hmax hs hel
      generalize hR : encs (l.drop (k + 1)) ++ b = R at *
      have HRR := Lib.hid hR
      clear hR
      generalize szN n = z at *
      generalize enc n = en at *
      go_wp2_with fail
      refine (take_some HTK.out A' m c' w3 w3.heap.size HS.out.2 HS.out.1 hmc (by unfold maxLen; omega)).mono ?_
      rintro e w' ⟨rfl, rfl⟩
      go_wp2_with fail
      refine (take_none HCUT.out A' (z - 1) c' w3 w3.heap.size (by rw [List.length_take, HS.out.2]; omega) (by show Sv _ _ _ _; rw [List.map_take]; exact HS.out.1.take _)).mono ?_
      rintro e w' ⟨rfl, rfl⟩
      go_wp2_with fail
      refine (HZ.out _).mono ?_
      rintro e w' ⟨rfl, rfl⟩
      go_wp2_with fail
      go_round
      case rel =>
        refine ⟨k + 1, _, _, _, by omega, by go_num, rfl, Lib.hid ?_, by omega, by omega⟩
        have h1 := HS.out.1.cutFrom z c' (by rw [List.length_map, HS.out.2]; exact hmc)
        have h2 : (en ++ R).drop z = R := List.drop_left' HEL.out
        rw [← List.map_drop, h2] at h1
        rw [HRR.out]
        refine ⟨h1, ?_⟩
        have h3 := HS.out.2
        rw [List.length_append, HEL.out] at h3
        omega
      case measure => simp [intOf]; omega
    · obtain rfl : len = k := by omega
      have hend := hsl.out
      rw [List.drop_eq_nil_of_le (by rw [HL.out]; exact Nat.le_refl _)] at hend
      have hend1 : Sl w3 w3.heap.size A' b := hend.1
      have hend2 : b.length = m := hend.2
      have hstr := run_string_sl (P := Tryd.prog) w3 22 9 5 Tryd.underlying22 Tryd.underlying5 Tryd.underlying9 _ A' m c' b hend1 hend2
      have hstr2 := run_string_sl (P := Tryd.prog) w3 22 9 5 Tryd.underlying22 Tryd.underlying5 Tryd.underlying9 w.heap.size A2 len2 c2 b (HRB.out.below hb3) HLB.out
      clear hend hend1 hend2 hsl
      go_wp2_with fail
      clear hstr hstr2
      rcases htk : tk b with _ | ⟨n, k⟩
      · have HTK := Lib.hid htk
        clear htk
        go_wp2_with (go_at_call 7; refine (take_none HTK.out A2 len2 c2 w3 w.heap.size HLB.out (HRB.out.below hb3)).mono ?_; rintro e w' ⟨rfl, rfl⟩)
        go_ret
        exact ⟨rfl, hb3⟩
      · have HTK := Lib.hid htk
        have hsh := tk_shortest htk
        have hnm := hsh.2
        obtain ⟨x, t, hbx, hkx, hkt, hvx⟩ := tk_some htk
        have hpos : 0 < len2 := by rw [← HLB.out, hbx]; simp
        have hkp := cls_pos x
        have hk8 := cls_le x
        have hs := wrap_cls x
        rw [← hkx] at hs hkp hk8
        obtain ⟨b3, off3, rfl, hb3', hcc⟩ := Sl.at_ HRB.out (by rw [HLB.out]; exact hpos)
        have HX := Lib.hid (hcc 0 x (by rw [hbx]; rfl))
        have hxl := x.toNat_lt
        have hen : (encs [n]).length ≤ k := by rw [encs_length]; have := hsh.1; simp only [sumSz, List.map_cons, List.map_nil, List.sum_cons, List.sum_nil]; omega
        have HMN := Lib.hid (show May [n] from fun i m h => by
          match i, h with
          | 0, h => simp at h; omega
          | i + 1, h => simp at h)
        have HS := Lib.hid hs
        clear htk hsh hbx hkx hkt hcc hs hvx
        go_wp2_with (go_at_call 7; refine (take_some HTK.out _ len2 c2 w3 w.heap.size HLB.out (HRB.out.below hb3) hc2 HM2.out).mono ?_; rintro e w' ⟨rfl, rfl⟩)
        have hT4 : Tab (w3.alloc (.cells #[.int .u64 (n : Int)] 24)) := hT.below (hb3.alloc hb3.size _) hT.lt
        have hb4 : Below w.heap.size w (w3.alloc (.cells #[.int .u64 (n : Int)] 24)) := hb3.alloc hb3.size _
        have hs4 : Sn (w3.alloc (.cells #[.int .u64 (n : Int)] 24)) (w3.heap.size + 1) (some ⟨w3.heap.size, 0, none⟩) [n] := sv_block w3 #[.int .u64 (n : Int)] _ _ (by omega)
        have hz4 : w3.heap.size + 1 ≤ (w3.alloc (.cells #[.int .u64 (n : Int)] 24)).heap.size := by simp
        generalize w3.alloc (.cells #[.int .u64 (n : Int)] 24) = w4 at *
        refine (append_ok none 0 0 _ 1 1 [] [n] w4 (w3.heap.size + 1) rfl (Sv.nil _ _ _) rfl hs4 hz4 (by omega) (by omega) HMN.out hT4).mono ?_
        rintro e w5 ⟨A5, c5, rfl, _, _, _, hb45⟩
        rw [List.nil_append]
        have hb5 : Below w.heap.size w w5 := hb4.trans (hb45.mono hb4.size)
        have hx5 : w5.cell? ⟨b3, off3, none⟩ = some (.int .u8 (x.toNat : Int)) := by have := (hb5.cell (p := ⟨b3, off3 + 0, none⟩) hb3').trans HX.out; rwa [Nat.add_zero] at this
        have hs := HS.out
        clear hs4 hz4 hb45 hT4
        generalize (encs [n]).length = q at *
        have hq1 : decide (q ≤ k) = true := decide_eq_true hen
        have hlen0 : (0 : Int) < (len2 : Int) := by omega
        go_wp2
        go_ret
        exact ⟨rfl, hb5⟩

set_option maxRecDepth 10000 in
set_option maxHeartbeats 1000000 in
theorem back_not (A : Option Addr) (len c : Nat) (A2 : Option Addr) (len2 c2 : Nat) (l : List Nat) (b : List UInt8) (w : World) (hT : Tab w) (hl : l.length = len) (hr : Sn w w.heap.size A l) (hlb : b.length = len2) (hrb : Sl w w.heap.size A2 b)
    (hc2 : len2 ≤ c2) (hm2 : c2 ≤ maxLen) (hlen : (len : Int) ≤ (300 : Int)) (hlen2 : (len2 : Int) ≤ (1000 : Int)) (hmay : ¬ May l) :
    Calls Tryd.prog 5 #[.slice A len c, .slice A2 len2 c2] w fun e w' => e = .returned (.bool true) ∧ Below w.heap.size w w' := by
  have HL := Lib.hid hl
  have HLB := Lib.hid hlb
  have HRB := Lib.hid hrb
  have HR := Lib.hid hr
  have HMY := Lib.hid hmay
  have HM2 : Hid (c2 ≤ maxLen) := hm2
  unfold maxLen at hm2
  clear hl hlb hrb hr hmay
  go_enter Tryd.func5, Tryd.ntmps5
  go_wp2_with (first
    | (go_at_call 6; refine (known_any _ hT).mono ?_; rintro e w0 ⟨rfl, hb0⟩)
    | (go_at_call 14; refine (append_bad none 0 0 A len c l w0 w.heap.size HL.out (HR.out.below hb0) (by omega) HMY.out).mono ?_; rintro e w' ⟨rfl, rfl⟩))
  rcases htk : tk b with _ | ⟨n, k⟩
  · have HTK := Lib.hid htk
    clear htk
    go_wp2_with (go_at_call 7; refine (take_none HTK.out A2 len2 c2 w0 w.heap.size HLB.out (HRB.out.below hb0)).mono ?_; rintro e w' ⟨rfl, rfl⟩)
    go_ret
    exact ⟨rfl, hb0⟩
  · have HTK := Lib.hid htk
    have hsh := tk_shortest htk
    have hnm := hsh.2
    obtain ⟨x, t, hbx, hkx, hkt, hvx⟩ := tk_some htk
    have hpos : 0 < len2 := by rw [← HLB.out, hbx]; simp
    have hkp := cls_pos x
    have hk8 := cls_le x
    have hs := wrap_cls x
    rw [← hkx] at hs hkp hk8
    obtain ⟨b3, off3, rfl, hb3', hcc⟩ := Sl.at_ HRB.out (by rw [HLB.out]; exact hpos)
    have HX := Lib.hid (hcc 0 x (by rw [hbx]; rfl))
    have hxl := x.toNat_lt
    have hen : (encs [n]).length ≤ k := by rw [encs_length]; have := hsh.1; simp only [sumSz, List.map_cons, List.map_nil, List.sum_cons, List.sum_nil]; omega
    have HMN := Lib.hid (show May [n] from fun i m h => by
      match i, h with
      | 0, h => simp at h; omega
      | i + 1, h => simp at h)
    have HS := Lib.hid hs
    clear htk hsh hbx hkx hkt hcc hs hvx
    go_wp2_with (go_at_call 7; refine (take_some HTK.out _ len2 c2 w0 w.heap.size HLB.out (HRB.out.below hb0) hc2 HM2.out).mono ?_; rintro e w' ⟨rfl, rfl⟩)
    have hT4 : Tab (w0.alloc (.cells #[.int .u64 (n : Int)] 24)) := hT.below (hb0.alloc hb0.size _) hT.lt
    have hb4 : Below w.heap.size w (w0.alloc (.cells #[.int .u64 (n : Int)] 24)) := hb0.alloc hb0.size _
    have hs4 : Sn (w0.alloc (.cells #[.int .u64 (n : Int)] 24)) (w0.heap.size + 1) (some ⟨w0.heap.size, 0, none⟩) [n] := sv_block w0 #[.int .u64 (n : Int)] _ _ (by omega)
    have hz4 : w0.heap.size + 1 ≤ (w0.alloc (.cells #[.int .u64 (n : Int)] 24)).heap.size := by simp
    generalize w0.alloc (.cells #[.int .u64 (n : Int)] 24) = w4 at *
    refine (append_ok none 0 0 _ 1 1 [] [n] w4 (w0.heap.size + 1) rfl (Sv.nil _ _ _) rfl hs4 hz4 (by omega) (by omega) HMN.out hT4).mono ?_
    rintro e w5 ⟨A5, c5, rfl, _, _, _, hb45⟩
    rw [List.nil_append]
    have hb5 : Below w.heap.size w w5 := hb4.trans (hb45.mono hb4.size)
    have hx5 : w5.cell? ⟨b3, off3, none⟩ = some (.int .u8 (x.toNat : Int)) := by have := (hb5.cell (p := ⟨b3, off3 + 0, none⟩) hb3').trans HX.out; rwa [Nat.add_zero] at this
    have hs := HS.out
    clear hs4 hz4 hb45 hT4
    generalize (encs [n]).length = q at *
    have hq1 : decide (q ≤ k) = true := decide_eq_true hen
    have hlen0 : (0 : Int) < (len2 : Int) := by omega
    go_wp2
    go_ret
    exact ⟨rfl, hb5⟩

theorem back_any (A : Option Addr) (len c : Nat) (A2 : Option Addr) (len2 c2 : Nat) (l : List Nat) (b : List UInt8) (w : World) (hT : Tab w) (hl : l.length = len) (hr : Sn w w.heap.size A l) (hlb : b.length = len2) (hrb : Sl w w.heap.size A2 b)
    (hc2 : len2 ≤ c2) (hm2 : c2 ≤ maxLen) :
    Calls Tryd.prog 5 #[.slice A len c, .slice A2 len2 c2] w fun e w' => e = .returned (.bool true) ∧ Below w.heap.size w w' := by
  by_cases h1 : len ≤ 300
  · by_cases h2 : len2 ≤ 1000
    · by_cases hm : May l
      · exact back_may A len c A2 len2 c2 l b w hT hl hr hlb hrb hc2 hm2 (by omega) (by omega) hm
      · exact back_not A len c A2 len2 c2 l b w hT hl hr hlb hrb hc2 hm2 (by omega) (by omega) hm
    · exact back_long A len c A2 len2 c2 w hT (by omega) (by omega)
  · exact back_many A len c A2 len2 c2 w hT (by omega)

end Go.Proofs.YtbkdjnppgdjnaaaDoor
