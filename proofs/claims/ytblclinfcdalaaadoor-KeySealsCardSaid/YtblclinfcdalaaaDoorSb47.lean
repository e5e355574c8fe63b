/-
  The walks through the document's own Bytes and Short (hostlerref01).
  The walk through the document's own low (hostlerref03): a number's low bytes.
  The walk through the document's own Put (hostlerref03), at a head that may be: a long one.
-/
import Derived.Test.YtblclinfcdalaaaDoorSb13
import Derived.Test.YtblclinfcdalaaaDoorSb33
import Derived.Test.YtblclinfcdalaaaDoorSb2
namespace Go.Proofs.YtblclinfcdalaaaDoor
section
open Go.RowKit
set_option linter.unusedVariables false

set_option maxRecDepth 10000 in
set_option maxHeartbeats 800000 in
theorem refbytes_any (n s c : Nat) (w : World) (hs : s = 2 ^ c) (hs1 : 1 ≤ s) (hs8 : s ≤ 8) (hc : c ≤ 3) (hn : n < 64 * 256 ^ (s - 1)) (hmax : n ≤ 4611686018427387903) :
    Calls Tryd.prog 112 #[.int .u64 (n : Int), .int .i64 (s : Int)] w (Gave w (be (n + c * 2 ^ (8 * s - 2)) s) fun v => v) := by
  obtain ⟨i0, hi0, hz0, hz1, hz2⟩ := info_parts info8V
  have HS := Lib.hid hs
  have HN := Lib.hid hn
  have HMAX := Lib.hid hmax
  clear hs hn hmax
  go_enter Tryd.func112, Tryd.ntmps112
  go_wp2_with (at_make; (refine wpList_make_full _ rfl _ _ _ rfl w.heap.size 5 i0 _ 1 Tryd.underlying23 hi0 hz0 hz1 _ _ _ _ s rfl rfl rfl rfl (by rw [hz2]; omega) (by unfold maxLen; omega) (Nat.le_refl _) ?_); intro w1 hown1 hg1)
  have hb1 : Below w.heap.size w w1 := (Below.refl _ _).grown hg1 (Nat.le_refl _) (by simp)
  clear hg1
  go_loopw [0, 6] (fun v0 i wr => ∃ (j : Nat) (xs : List Value), j ≤ s ∧ i = .int .i64 ((j : Int) - 1) ∧ v0 = .int .u64 (n / 256 ^ (s - j) : Nat) ∧
      wr.ownsRow w.heap.size 5 1 (.slice (some ⟨w.heap.size, 0, none⟩) s s) s xs ∧ Hid (xs.drop j = (be n (s - j)).map cell8) ∧ Below w.heap.size w wr) (fun _ i _ => (intOf i + 1).toNat)
  case atStart => exact ⟨s, _, Nat.le_refl _, rfl, by simp, hown1, by show _ = _; rw [Nat.sub_self, List.drop_eq_nil_of_le (by rw [hown1.1]; omega)]; rfl, hb1⟩
  case round =>
    obtain ⟨j, xs, hj, rfl, rfl, hown, hdrop, hbel⟩ := hrel
    have hxl := hown.1
    have HX := Lib.hid hxl
    have HO := Lib.hid hown
    by_cases h0 : 1 ≤ j
    · obtain ⟨q, rfl⟩ : ∃ q, j = q + 1 := ⟨j - 1, by omega⟩
      have hcell := hown.cellAt q (by omega)
      have hfz := hown.frozenAt q
      obtain ⟨u, hu⟩ : ∃ u, xs[q]? = some u := ⟨_, List.getElem?_eq_getElem (by omega)⟩
      rw [hu] at hcell
      clear hu
      generalize hy : n / 256 ^ (s - (q + 1)) = y at *
      have HY := Lib.hid hy
      clear hy hown hown1 hxl
      go_wp2
      go_roundw
      case rel =>
        have hy64 : y ≤ 4611686018427387903 := by
          have h1 := HMAX.out
          have h2 := HY.out
          have h3 := Nat.div_le_self n (256 ^ (s - (q + 1)))
          omega
        have hown := HO.out
        have hst := hown.stored q (.int .u8 ((y : Int) % 256))
        have hx := HX.out
        refine ⟨q, xs.set q (.int .u8 ((y : Int) % 256)), by omega, rfl, ?_, hst.1, ?_, hbel.setCell (Nat.le_refl _) _⟩
        · rw [IntWalk.u64_in _ ⟨by omega, by omega⟩, ← HY.out, show s - q = s - (q + 1) + 1 by omega, Nat.pow_succ, ← Nat.div_div_eq_div_mul]
          rfl
        · show _ = _
          have hcl := be_cell n (s - (q + 1))
          rw [drop_set_cons _ _ _ (by omega), hdrop.out, show s - q = s - (q + 1) + 1 by omega]
          show _ = cell8 (UInt8.ofNat (n / 256 ^ (s - (q + 1)) % 256)) :: _
          rw [HY.out]
          show _ = Value.int .u8 ((UInt8.ofNat (y % 256)).toNat : Int) :: _
          rw [UInt8.toNat_ofNat', Nat.mod_mod]
          rfl
      case measure => simp [intOf]
    · obtain rfl : j = 0 := by omega
      obtain ⟨k, rfl⟩ : ∃ k, s = k + 1 := ⟨s - 1, by omega⟩
      rw [Nat.add_sub_cancel] at HN
      have hxs : xs = cell8 (UInt8.ofNat (n / 256 ^ k % 256)) :: (be n k).map cell8 := hdrop.out
      have hz64 : n / 256 ^ k % 256 < 64 := by
        have h64 : n / 256 ^ k < 64 := by rw [Nat.div_lt_iff_lt_mul (Nat.pow_pos (by omega))]; exact HN.out
        rw [Nat.mod_eq_of_lt (Nat.lt_of_lt_of_le h64 (by omega))]
        exact h64
      have hcell := hown.cellAt 0 (by omega)
      have hfz := hown.frozenAt 0
      rw [hxs] at hcell
      have hcell0 : wr.cell? ⟨w.heap.size, 0, none⟩ = some (.int .u8 ((n / 256 ^ k % 256 : Nat) : Int)) := by
        rw [hcell]
        show some (Value.int .u8 ((UInt8.ofNat (n / 256 ^ k % 256)).toNat : Int)) = _
        rw [be_head]
      have HXS := Lib.hid hxs
      clear hcell hown hown1 hxs hxl hdrop
      generalize hz : n / 256 ^ k % 256 = z at *
      have HZ := Lib.hid hz
      clear hz
      go_wp2
      go_loop [7, 8] (fun v i => ∃ j : Nat, j ≤ c ∧ v = .int .i64 j ∧ i = .int .i64 (2 ^ j : Nat)) (fun v _ => c - (intOf v).toNat)
      case atStart => exact ⟨0, Nat.zero_le _, rfl, rfl⟩
      case round =>
        obtain ⟨j, hj, rfl, rfl⟩ := hrel
        by_cases hlt : j < c
        · have hp1 : 2 ^ j < k + 1 := by rw [HS.out]; exact Nat.pow_lt_pow_right (by omega) hlt
          have HN2 := Lib.hid (show 2 ^ (j + 1) = 2 * 2 ^ j by rw [Nat.pow_succ]; omega)
          generalize 2 ^ j = p at *
          go_wp2
          go_round
          case rel => exact ⟨j + 1, by omega, by go_num, by rw [HN2.out]; go_num⟩
          case measure => simp [intOf]; omega
        · obtain rfl : j = c := by omega
          have hp1 : ¬ 2 ^ j < k + 1 := by rw [HS.out]; omega
          generalize 2 ^ j = p at *
          go_wp2
          go_ret
          have hst := HO.out.stored 0 (.int .u8 ((z : Int) + 64 * (j : Int)))
          have hbc := be_class n k j HN.out hc
          rw [HZ.out] at hbc
          have hlen : (be (n + j * 2 ^ (8 * (k + 1) - 2)) (k + 1)).length = k + 1 := be_length _ _
          have hcells : xs.set 0 (.int .u8 ((z : Int) + 64 * (j : Int))) = (be (n + j * 2 ^ (8 * (k + 1) - 2)) (k + 1)).map cell8 := by
            rw [← hbc, HXS.out, List.set_cons_zero, List.map_cons]
            congr 1
            show _ = Value.int .u8 ((UInt8.ofNat (z + 64 * j)).toNat : Int)
            rw [UInt8.toNat_ofNat', Nat.mod_eq_of_lt (by omega)]
            congr 1
          rw [hcells] at hst
          generalize be (n + j * 2 ^ (8 * (k + 1) - 2)) (k + 1) = g at *
          refine ⟨some ⟨w.heap.size, 0, none⟩, k + 1, by rw [hlen]; rfl, by omega, by unfold maxLen; omega, ?_, hbel.setCell (Nat.le_refl _) _⟩
          rw [hlen]
          exact hst.1

/-- The document's Short where a number has some. -/
theorem short_some {n : Nat} (h : n ≤ 4611686018427387903) (w : World) :
    Calls Tryd.prog 74 #[.int .u64 (n : Int)] w (Gave w (enc n) fun v => v) := by
  have hc := lg_cases h
  have hp : 1 ≤ szN n := szN_pos h
  have hlt := szN_lt h
  have hby := refbytes_any n (szN n) (lg n) w (by rcases hc with ⟨e1, e2⟩ | ⟨e1, e2⟩ | ⟨e1, e2⟩ | ⟨e1, e2⟩ <;> rw [e1, e2]) hp (by omega) (by omega)
    (by rw [show 8 * szN n - 2 = 6 + 8 * (szN n - 1) by omega, Nat.pow_add, Nat.pow_mul] at hlt; exact hlt) h
  have hne : ((szN n : Int) == 0) = false := by rw [beq_eq_false_iff_ne]; omega
  have hsz := refsize_any n
  have HB := Lib.hid hby
  have HZ := Lib.hid hsz
  clear hby hsz hlt hc h
  show Calls Tryd.prog 74 #[.int .u64 (n : Int)] w (Gave w (be (n + lg n * 2 ^ (8 * szN n - 2)) (szN n)) fun v => v)
  generalize be (n + lg n * 2 ^ (8 * szN n - 2)) (szN n) = g at *
  generalize szN n = z at *
  go_enter Tryd.func74, Tryd.ntmps74
  go_wp2_with (first
    | (go_at_call 111; refine (HZ.out _).mono ?_; rintro e w' ⟨rfl, rfl⟩)
    | (go_at_call 112; refine HB.out.mono ?_; rintro e w' ⟨A', c', rfl, q1, q2, hown, hbel⟩))
  go_ret
  exact ⟨A', c', rfl, q1, q2, hown, hbel⟩

/-- The document's Short where it has none. -/
theorem short_none {n : Nat} (h : ¬ n ≤ 4611686018427387903) (w : World) :
    Calls Tryd.prog 74 #[.int .u64 (n : Int)] w fun e w' => e = .returned (.slice none 0 0) ∧ w = w' := by
  have hz := szN_0 h
  have hsz := refsize_any n
  rw [hz] at hsz
  have HZ := Lib.hid hsz
  clear hz hsz h
  go_enter Tryd.func74, Tryd.ntmps74
  go_wp2_with (go_at_call 111; refine (HZ.out _).mono ?_; rintro e w' ⟨rfl, rfl⟩)
  go_ret
  exact ⟨rfl, rfl⟩
end

section
open Go.RowKit
set_option linter.unusedVariables false

set_option maxRecDepth 10000 in
set_option maxHeartbeats 800000 in
theorem low_any (n k : Nat) (w : World) (hk : k ≤ 4) (hmax : n ≤ 4611686018427387903) :
    Calls Tryd.prog 73 #[.int .u64 (n : Int), .int .i64 (k : Int)] w (Gave w (be n k) fun v => v) := by
  obtain ⟨i0, hi0, hz0, hz1, hz2⟩ := info_parts info8V
  have HMAX := Lib.hid hmax
  clear hmax
  go_enter Tryd.func73, Tryd.ntmps73
  go_wp2_with (at_make; (refine wpList_make_full _ rfl _ _ _ rfl w.heap.size 5 i0 _ 1 Tryd.underlying23 hi0 hz0 hz1 _ _ _ _ k rfl rfl rfl rfl (by rw [hz2]; omega) (by unfold maxLen; omega) (Nat.le_refl _) ?_); intro w1 hown1 hg1)
  have hb1 : Below w.heap.size w w1 := (Below.refl _ _).grown hg1 (Nat.le_refl _) (by simp)
  clear hg1
  go_loopw [0, 6] (fun v0 i wr => ∃ (j : Nat) (xs : List Value), j ≤ k ∧ i = .int .i64 ((j : Int) - 1) ∧ v0 = .int .u64 (n / 256 ^ (k - j) : Nat) ∧
      wr.ownsRow w.heap.size 5 1 (.slice (some ⟨w.heap.size, 0, none⟩) k k) k xs ∧ Hid (xs.drop j = (be n (k - j)).map cell8) ∧ Below w.heap.size w wr) (fun _ i _ => (intOf i + 1).toNat)
  case atStart => exact ⟨k, _, Nat.le_refl _, rfl, by simp, hown1, by show _ = _; rw [Nat.sub_self, List.drop_eq_nil_of_le (by rw [hown1.1]; omega)]; rfl, hb1⟩
  case round =>
    obtain ⟨j, xs, hj, rfl, rfl, hown, hdrop, hbel⟩ := hrel
    have hxl := hown.1
    have HX := Lib.hid hxl
    have HO := Lib.hid hown
    by_cases h0 : 1 ≤ j
    · obtain ⟨q, rfl⟩ : ∃ q, j = q + 1 := ⟨j - 1, by omega⟩
      have hcell := hown.cellAt q (by omega)
      have hfz := hown.frozenAt q
      obtain ⟨u, hu⟩ : ∃ u, xs[q]? = some u := ⟨_, List.getElem?_eq_getElem (by omega)⟩
      rw [hu] at hcell
      clear hu
      generalize hy : n / 256 ^ (k - (q + 1)) = y at *
      have HY := Lib.hid hy
      clear hy hown hown1 hxl
      go_wp2
      go_roundw
      case rel =>
        have hy64 : y ≤ 4611686018427387903 := by
          have h1 := HMAX.out
          have h2 := HY.out
          have h3 := Nat.div_le_self n (256 ^ (k - (q + 1)))
          omega
        have hown := HO.out
        have hst := hown.stored q (.int .u8 ((y : Int) % 256))
        have hx := HX.out
        refine ⟨q, xs.set q (.int .u8 ((y : Int) % 256)), by omega, rfl, ?_, hst.1, ?_, hbel.setCell (Nat.le_refl _) _⟩
        · rw [IntWalk.u64_in _ ⟨by omega, by omega⟩, ← HY.out, show k - q = k - (q + 1) + 1 by omega, Nat.pow_succ, ← Nat.div_div_eq_div_mul]
          rfl
        · show _ = _
          rw [drop_set_cons _ _ _ (by omega), hdrop.out, show k - q = k - (q + 1) + 1 by omega]
          show _ = cell8 (UInt8.ofNat (n / 256 ^ (k - (q + 1)) % 256)) :: _
          rw [HY.out]
          show _ = Value.int .u8 ((UInt8.ofNat (y % 256)).toNat : Int) :: _
          rw [UInt8.toNat_ofNat', Nat.mod_mod]
          rfl
      case measure => simp [intOf]
    · obtain rfl : j = 0 := by omega
      have hxs : xs = (be n k).map cell8 := by have := hdrop.out; simpa using this
      clear hdrop hown hown1
      go_wp2
      go_ret
      have ho := HO.out
      rw [hxs] at ho
      have hlen : (be n k).length = k := be_length _ _
      generalize be n k = g at *
      subst hlen
      exact ⟨some ⟨w.heap.size, 0, none⟩, g.length, rfl, Nat.le_refl _, by unfold maxLen; omega, ho, hbel⟩
end

section
open Go.RowKit
set_option linter.unusedVariables false

theorem PB.drew {w0 w : World} {B hb : Nat} {R : Array Value} {v : Value} {b : List UInt8} (h : PB w0 w B hb R v b) : PB w0 w.drew B hb R v b :=
  ⟨own_below h.own (Below.refl _ _).drew, h.bel.drew, h.box.below (Below.refl _ _).drew h.box.lt, h.ne, h.hB⟩

/-- What a call leaves that writes nothing that was there. -/
theorem PB.beside {w0 w w' : World} {B hb : Nat} {R : Array Value} {v : Value} {b : List UInt8} (h : PB w0 w B hb R v b) (hb' : Below w.heap.size w w') : PB w0 w' B hb R v b :=
  ⟨own_below h.own hb', h.bel.trans (hb'.mono h.hBw), h.box.below hb' h.box.lt, h.ne, h.hB⟩

theorem own_lit {w : World} {B : Nat} (cs : Array Value) (l : List UInt8) (n : Nat) (hB : B ≤ w.heap.size) (hc : cs = (l.map cell8).toArray) (hn : l.length = n) (hm : n ≤ 1000) : (w.alloc (.cells cs 5)).ownsRow B 5 1 (.slice (some ⟨w.heap.size, 0, none⟩) n n) l.length (l.map cell8) := by
  subst hn hc
  refine ⟨by simp, .inr ⟨w.heap.size, l.length, _, rfl, hB, heap_alloc_new w _, Nat.le_refl _, by unfold maxLen; omega, by simp, ?_⟩⟩
  rw [Nat.mul_one]
  exact List.take_of_length_le (by simp)

set_option maxRecDepth 10000 in
set_option maxHeartbeats 1600000 in
theorem refput_long (sp k n pn : Nat) (dst src tok : List UInt8) (A1 : Option Addr) (c1 : Nat) (A2 : Option Addr) (c2 : Nat) (A3 : Option Addr) (c3 : Nat) (w : World)
    (hsp : sp = 0 ∨ sp = 1) (hk : k = 1 ∨ k = 2 ∨ k = 3 ∨ k = 4) (hn : n ≤ 65536) (hpn : pn ≤ 4611686018427387903) (h1 : Sl w w.heap.size A1 dst) (h2 : Sl w w.heap.size A2 src) (h3 : Sl w w.heap.size A3 tok) (hd : dst.length ≤ 20) (hs : src.length ≤ 20) (ht : tok.length ≤ 3000) (htk : sp = 1 → tok = []) :
    Calls Tryd.prog 39 #[.agg (headC sp A1 dst.length c1 A2 src.length c2 A3 tok.length c3 false (pn : Int) (k : Int)), .int .i64 (n : Int)] w (Gave w (headB sp k dst src tok false pn n) fun v => v) := by
  obtain ⟨i0, hi0, hz0, hz1, hz2⟩ := info_parts info8V
  have hz : (w.alloc (.cells (headC sp A1 dst.length c1 A2 src.length c2 A3 tok.length c3 false (pn : Int) (k : Int)) 39)).heap.size = w.heap.size + 1 := by simp
  have hb0 : Below w.heap.size w (w.alloc (.cells (headC sp A1 dst.length c1 A2 src.length c2 A3 tok.length c3 false (pn : Int) (k : Int)) 39)) := (Below.refl _ _).alloc (Nat.le_refl _) _
  have hW0 : Wh (w.alloc (.cells (headC sp A1 dst.length c1 A2 src.length c2 A3 tok.length c3 false (pn : Int) (k : Int)) 39)) w.heap.size 39 (headC sp A1 dst.length c1 A2 src.length c2 A3 tok.length c3 false (pn : Int) (k : Int)) := Wh.new _ _ _
  have H1 : Hid (Sl (w.alloc (.cells (headC sp A1 dst.length c1 A2 src.length c2 A3 tok.length c3 false (pn : Int) (k : Int)) 39)) (w.heap.size + 1) A1 dst) := h1.keep (Nat.le_succ _) fun p hp => hb0.cell hp
  have H2 : Hid (Sl (w.alloc (.cells (headC sp A1 dst.length c1 A2 src.length c2 A3 tok.length c3 false (pn : Int) (k : Int)) 39)) (w.heap.size + 1) A2 src) := h2.keep (Nat.le_succ _) fun p hp => hb0.cell hp
  have H3 : Hid (Sl (w.alloc (.cells (headC sp A1 dst.length c1 A2 src.length c2 A3 tok.length c3 false (pn : Int) (k : Int)) 39)) (w.heap.size + 1) A3 tok) := h3.keep (Nat.le_succ _) fun p hp => hb0.cell hp
  have hx : firstB sp k false = 191 + k + 32 * sp := by
    unfold firstB
    rcases hsp with rfl | rfl <;> simp <;> omega
  have HH : Hid (headB sp k dst src tok false pn n = UInt8.ofNat (firstB sp k false) :: (([0, 0, 0, 1] ++ (UInt8.ofNat dst.length :: (dst ++ (UInt8.ofNat src.length :: (src ++ ((if sp = 0 then enc tok.length ++ tok else []) ++ enc (k + n))))))) ++ be pn k)) := by
    show _ = _
    unfold headB
    rw [if_neg (by omega)]
    rfl
  rw [hx] at HH
  have HB0 := Lib.hid hb0
  have HW0 := Lib.hid hW0
  generalize headB sp k dst src tok false pn n = HD at *
  clear h1 h2 h3 hb0 hW0 hx htk
  unfold headC
  go_enter Tryd.func39, Tryd.ntmps39
  have hk4 : k ≤ 4 := by omega
  rcases hsp with rfl | rfl
  · go_upto_region 9 with fail
    change Code.wp _ _ _ _ (w.alloc (.cells (headC 0 A1 dst.length c1 A2 src.length c2 A3 tok.length c3 false (pn : Int) (k : Int)) 39))
    generalize (w.alloc (.cells (headC 0 A1 dst.length c1 A2 src.length c2 A3 tok.length c3 false (pn : Int) (k : Int)) 39)) = w0 at *
    have hP : PB w0 (w0.alloc (.cells #[.int .u8 (192 + (k : Int) - 1), .int .u8 0, .int .u8 0, .int .u8 0, .int .u8 1, .int .u8 (dst.length : Int)] 5)) (w.heap.size + 1) w.heap.size (headC 0 A1 dst.length c1 A2 src.length c2 A3 tok.length c3 false (pn : Int) (k : Int)) (.slice (some ⟨w.heap.size + 1, 0, none⟩) 6 6) [UInt8.ofNat (191 + k + 32 * 0), 0, 0, 0, 1, UInt8.ofNat dst.length] := by
      have ho := own_lit (w := w0) (B := w.heap.size + 1) #[.int .u8 (192 + (k : Int) - 1), .int .u8 0, .int .u8 0, .int .u8 0, .int .u8 1, .int .u8 (dst.length : Int)] [UInt8.ofNat (191 + k + 32 * 0), 0, 0, 0, 1, UInt8.ofNat dst.length] 6 (by omega) (by
        simp only [List.map_cons, List.map_nil]
        rw [← byte_len (191 + k + 32 * 0) (by omega), ← byte_len dst.length (by omega)]
        rw [show (192 + (k : Int) - 1 : Int) = ((191 + k + 32 * 0 : Nat) : Int) by omega]
        rfl) rfl (by omega)
      rw [hz] at ho
      exact ⟨ho, (Below.refl _ _).alloc (by omega) _, HW0.out.alloc _, own_type ho (HW0.out.alloc _) (by decide), by omega⟩
    have HP := Lib.hid hP
    have e1 : w0.cell? ⟨w.heap.size, 1, none⟩ = some (.slice A1 dst.length c1) := HW0.out.cell 1
    clear hP
    go_upto_region 10 with (at_builtin; refine wpList_append_sv _ rfl _ _ _ rfl (w.heap.size + 1) 5 i0 _ 1 Tryd.underlying23 hi0 hz0 hz1 hz2 rfl (.slice (some ⟨w.heap.size + 1, 0, none⟩) 6 6) _ _ rfl HP.out.own (w.heap.size + 1) _ dst.length _ (dst.map cell8) rfl (HP.out.sl H1.out) (by simp) (cell8_one dst) (by unfold maxLen; simp; omega) (by simp; omega) HP.out.hBw ?_; intro v3 w3 hown3 hg3 _)
    have HP3 := Lib.hid (HP.out.app (d := dst) hown3 rfl hg3)
    clear hown3 hg3 HP e1
    generalize hb3 : [UInt8.ofNat (191 + k + 32 * 0), 0, 0, 0, 1, UInt8.ofNat dst.length] ++ dst = b3 at HP3
    have hl3 : b3.length ≤ 26 := by rw [← hb3]; simp; omega
    have HB3 := Lib.hid hb3
    clear hb3
    have e2 : w3.cell? ⟨w.heap.size, 2, none⟩ = some (.slice A2 src.length c2) := HP3.out.box.cell 2
    have hwr : IntKind.u8.wrap (src.length : Int) = (src.length : Int) := by simp [IntKind.wrap, IntKind.signed, IntKind.bits]; omega
    have HPA := Lib.hid ((HP3.out.alloc (.cells #[.int .u8 (src.length : Int)] 5)).drew)
    go_region_held3 (fun w' => w'.cell? ⟨w.heap.size, 2, none⟩ = some (.slice A2 src.length c2)) (go_keep)
      (first
        | (refine step_app_sv rfl (.tmp 50) (.tmp 55) 23 rfl (w.heap.size + 1) 5 i0 _ 1 Tryd.underlying23 hi0 hz0 hz1 hz2 rfl v3 _ _ rfl HPA.out.own _ _ 1 1 _ rfl (sv_new _ _ _) rfl (fun u hu => by simp at hu; subst hu; rfl) (by unfold maxLen; omega) (by omega) HPA.out.hBw ?_; intro v4 w4 hown4 hg4; rw [byte_len _ (by omega)] at hown4; have HP4 := Lib.hid (HPA.out.app (d := [UInt8.ofNat src.length]) hown4 rfl hg4); have q4 : w4.cell? ⟨w.heap.size, 2, none⟩ = some (.slice A2 src.length c2) := HP4.out.box.cell 2)
        | (refine step_app_sv rfl (.tmp 56) (.tmp 58) 23 rfl (w.heap.size + 1) 5 i0 _ 1 Tryd.underlying23 hi0 hz0 hz1 hz2 rfl v4 _ _ rfl HP4.out.own (w.heap.size + 1) _ src.length _ (src.map cell8) rfl (HP4.out.sl H2.out) (by simp) (cell8_one src) (by unfold maxLen; simp; omega) (by simp; omega) HP4.out.hBw ?_; intro v5 w5 hown5 hg5; have HP5 := Lib.hid (HP4.out.app (d := src) hown5 rfl hg5); have q5 : w5.cell? ⟨w.heap.size, 2, none⟩ = some (.slice A2 src.length c2) := HP5.out.box.cell 2))
    clear e2 q4 q5 hwr HPA HP4 HP3 hg4 hg5 hown4 hown5
    generalize hb5 : b3 ++ [UInt8.ofNat src.length] ++ src = b5 at HP5
    have hl5 : b5.length ≤ 47 := by rw [← hb5]; simp; omega
    have HB5 := Lib.hid hb5
    clear hb5
    have e0 : w5.cell? ⟨w.heap.size, 0, none⟩ = some (.int .u8 0) := HP5.out.box.cell 0
    go_upto_region 12 with fail
    clear e0
    have e3 : w5.cell? ⟨w.heap.size, 3, none⟩ = some (.slice A3 tok.length c3) := HP5.out.box.cell 3
    have hwu : IntKind.u64.wrap (tok.length : Int) = (tok.length : Int) := IntWalk.u64_in _ ⟨by omega, by omega⟩
    have hze : (enc tok.length).length ≤ 8 := by rw [enc_length]; exact szN_le _
    have HST := Lib.hid (short_some (n := tok.length) (by omega))
    go_region_held3 (fun w' => w'.cell? ⟨w.heap.size, 3, none⟩ = some (.slice A3 tok.length c3)) (go_keep)
      (first
        | (go_simp; go_at_call 74; refine (HST.out _).mono ?_; rintro e w6 ⟨A6, q6, rfl, hq6, hm6, hown6, hb6⟩; have HP6 := Lib.hid (HP5.out.drew.beside hb6); have HS6 := Lib.hid (Sv.of_own hown6); have q6 : w6.cell? ⟨w.heap.size, 3, none⟩ = some (.slice A3 tok.length c3) := HP6.out.box.cell 3; clear hown6 hb6 hq6)
        | (refine step_app_sv rfl (.tmp 63) (.tmp 68) 23 rfl (w.heap.size + 1) 5 i0 _ 1 Tryd.underlying23 hi0 hz0 hz1 hz2 rfl v5 _ _ rfl HP6.out.own w6.heap.size A6 (enc tok.length).length _ ((enc tok.length).map cell8) rfl HS6.out (by simp) (cell8_one _) (by unfold maxLen; omega) (by omega) HP6.out.hBw ?_; intro v7 w7 hown7 hg7; have HP7 := Lib.hid (HP6.out.app (d := enc tok.length) hown7 rfl hg7); have q7 : w7.cell? ⟨w.heap.size, 3, none⟩ = some (.slice A3 tok.length c3) := HP7.out.box.cell 3)
        | (refine step_app_sv rfl (.tmp 69) (.tmp 71) 23 rfl (w.heap.size + 1) 5 i0 _ 1 Tryd.underlying23 hi0 hz0 hz1 hz2 rfl v7 _ _ rfl HP7.out.own (w.heap.size + 1) _ tok.length _ (tok.map cell8) rfl (HP7.out.sl H3.out) (by simp) (cell8_one tok) (by unfold maxLen; simp; omega) (by simp; omega) HP7.out.hBw ?_; intro v8 w8 hown8 hg8; have HP8 := Lib.hid (HP7.out.app (d := tok) hown8 rfl hg8); have q8 : w8.cell? ⟨w.heap.size, 3, none⟩ = some (.slice A3 tok.length c3) := HP8.out.box.cell 3))
    clear q6 q7 q8 hwu HST HP6 HP7 HS6 hg7 hg8 hown7 hown8 e3
    generalize hb8 : b5 ++ enc tok.length ++ tok = b8 at HP8
    have hl8 : b8.length ≤ 3060 := by rw [← hb8]; simp; omega
    have HB8 := Lib.hid hb8
    clear hb8
    go_upto_region 13 with fail
    have e6 : w8.cell? ⟨w.heap.size, 6, none⟩ = some (.int .i64 (k : Int)) := HP8.out.box.cell 6
    have hzn : (enc (k + n)).length ≤ 8 := by rw [enc_length]; exact szN_le _
    have HSN : Hid (∀ w, Calls Tryd.prog 74 #[.int .u64 ((k : Int) + (n : Int))] w (Gave w (enc (k + n)) fun v => v)) := by
      intro w
      have h := short_some (n := k + n) (by omega) w
      rw [show ((k + n : Nat) : Int) = (k : Int) + (n : Int) by omega] at h
      exact h
    go_upto_region 14 with (first
      | (go_at_call 74; refine (HSN.out _).mono ?_; rintro e wa ⟨Aa, qa, rfl, hqa, hma, howna, hba⟩; have HPa := Lib.hid (HP8.out.beside hba); have HSa := Lib.hid (Sv.of_own howna); clear howna hba hqa)
      | (at_builtin; refine wpList_append_sv _ rfl _ _ _ rfl (w.heap.size + 1) 5 i0 _ 1 Tryd.underlying23 hi0 hz0 hz1 hz2 rfl v8 _ _ rfl HPa.out.own wa.heap.size Aa (enc (k + n)).length _ ((enc (k + n)).map cell8) rfl HSa.out (by simp) (cell8_one _) (by unfold maxLen; omega) (by omega) HPa.out.hBw ?_; intro vb wb hownb hgb _))
    have HPb := Lib.hid (HPa.out.app (d := enc (k + n)) hownb rfl hgb)
    clear hownb hgb HPa HSa e6 HSN HP8
    generalize hbb : b8 ++ enc (k + n) = bb at HPb
    have hlb : bb.length ≤ 3100 := by rw [← hbb]; simp; omega
    have HBB := Lib.hid hbb
    clear hbb
    have e5 : wb.cell? ⟨w.heap.size, 5, none⟩ = some (.int .u64 (pn : Int)) := HPb.out.box.cell 5
    have e6 : wb.cell? ⟨w.heap.size, 6, none⟩ = some (.int .i64 (k : Int)) := HPb.out.box.cell 6
    have HLW := Lib.hid (fun w => low_any pn k w hk4 hpn)
    have hbe : (be pn k).length ≤ 4 := by rw [be_length]; exact hk4
    go_wp2_with (first
      | (go_at_call 73; refine (HLW.out _).mono ?_; rintro e wc ⟨Ac, qc, rfl, hqc, hmc, hownc, hbc⟩; have HPc := Lib.hid (HPb.out.beside hbc); have HSc := Lib.hid (Sv.of_own hownc); clear hownc hbc hqc)
      | (at_builtin; refine wpList_append_sv _ rfl _ _ _ rfl (w.heap.size + 1) 5 i0 _ 1 Tryd.underlying23 hi0 hz0 hz1 hz2 rfl vb _ _ rfl HPc.out.own wc.heap.size Ac (be pn k).length _ ((be pn k).map cell8) rfl HSc.out (by simp) (cell8_one _) (by unfold maxLen; omega) (by omega) HPc.out.hBw ?_; intro vd wd hownd hgd _))
    have hpd := HPc.out.app (d := be pn k) hownd rfl hgd
    have hhd : HD = bb ++ be pn k := by
      rw [HH.out, ← HBB.out, ← HB8.out, ← HB5.out, ← HB3.out]
      simp
    rw [← hhd] at hpd
    obtain ⟨Ad, cd, rfl, p1, p2⟩ := own_form hpd.own
    go_ret
    exact ⟨Ad, cd, rfl, p1, p2, hown_base hpd.own (Nat.le_succ _), HB0.out.trans (hpd.bel.mono (Nat.le_succ _))⟩
  · go_upto_region 9 with fail
    change Code.wp _ _ _ _ (w.alloc (.cells (headC 1 A1 dst.length c1 A2 src.length c2 A3 tok.length c3 false (pn : Int) (k : Int)) 39))
    generalize (w.alloc (.cells (headC 1 A1 dst.length c1 A2 src.length c2 A3 tok.length c3 false (pn : Int) (k : Int)) 39)) = w0 at *
    have hP : PB w0 (w0.alloc (.cells #[.int .u8 (192 + (k : Int) - 1 + 32), .int .u8 0, .int .u8 0, .int .u8 0, .int .u8 1, .int .u8 (dst.length : Int)] 5)) (w.heap.size + 1) w.heap.size (headC 1 A1 dst.length c1 A2 src.length c2 A3 tok.length c3 false (pn : Int) (k : Int)) (.slice (some ⟨w.heap.size + 1, 0, none⟩) 6 6) [UInt8.ofNat (191 + k + 32 * 1), 0, 0, 0, 1, UInt8.ofNat dst.length] := by
      have ho := own_lit (w := w0) (B := w.heap.size + 1) #[.int .u8 (192 + (k : Int) - 1 + 32), .int .u8 0, .int .u8 0, .int .u8 0, .int .u8 1, .int .u8 (dst.length : Int)] [UInt8.ofNat (191 + k + 32 * 1), 0, 0, 0, 1, UInt8.ofNat dst.length] 6 (by omega) (by
        simp only [List.map_cons, List.map_nil]
        rw [← byte_len (191 + k + 32 * 1) (by omega), ← byte_len dst.length (by omega)]
        rw [show (192 + (k : Int) - 1 + 32 : Int) = ((191 + k + 32 * 1 : Nat) : Int) by omega]
        rfl) rfl (by omega)
      rw [hz] at ho
      exact ⟨ho, (Below.refl _ _).alloc (by omega) _, HW0.out.alloc _, own_type ho (HW0.out.alloc _) (by decide), by omega⟩
    have HP := Lib.hid hP
    have e1 : w0.cell? ⟨w.heap.size, 1, none⟩ = some (.slice A1 dst.length c1) := HW0.out.cell 1
    clear hP
    go_upto_region 10 with (at_builtin; refine wpList_append_sv _ rfl _ _ _ rfl (w.heap.size + 1) 5 i0 _ 1 Tryd.underlying23 hi0 hz0 hz1 hz2 rfl (.slice (some ⟨w.heap.size + 1, 0, none⟩) 6 6) _ _ rfl HP.out.own (w.heap.size + 1) _ dst.length _ (dst.map cell8) rfl (HP.out.sl H1.out) (by simp) (cell8_one dst) (by unfold maxLen; simp; omega) (by simp; omega) HP.out.hBw ?_; intro v3 w3 hown3 hg3 _)
    have HP3 := Lib.hid (HP.out.app (d := dst) hown3 rfl hg3)
    clear hown3 hg3 HP e1
    generalize hb3 : [UInt8.ofNat (191 + k + 32 * 1), 0, 0, 0, 1, UInt8.ofNat dst.length] ++ dst = b3 at HP3
    have hl3 : b3.length ≤ 26 := by rw [← hb3]; simp; omega
    have HB3 := Lib.hid hb3
    clear hb3
    have e2 : w3.cell? ⟨w.heap.size, 2, none⟩ = some (.slice A2 src.length c2) := HP3.out.box.cell 2
    have hwr : IntKind.u8.wrap (src.length : Int) = (src.length : Int) := by simp [IntKind.wrap, IntKind.signed, IntKind.bits]; omega
    have HPA := Lib.hid ((HP3.out.alloc (.cells #[.int .u8 (src.length : Int)] 5)).drew)
    go_region_held3 (fun w' => w'.cell? ⟨w.heap.size, 2, none⟩ = some (.slice A2 src.length c2)) (go_keep)
      (first
        | (refine step_app_sv rfl (.tmp 50) (.tmp 55) 23 rfl (w.heap.size + 1) 5 i0 _ 1 Tryd.underlying23 hi0 hz0 hz1 hz2 rfl v3 _ _ rfl HPA.out.own _ _ 1 1 _ rfl (sv_new _ _ _) rfl (fun u hu => by simp at hu; subst hu; rfl) (by unfold maxLen; omega) (by omega) HPA.out.hBw ?_; intro v4 w4 hown4 hg4; rw [byte_len _ (by omega)] at hown4; have HP4 := Lib.hid (HPA.out.app (d := [UInt8.ofNat src.length]) hown4 rfl hg4); have q4 : w4.cell? ⟨w.heap.size, 2, none⟩ = some (.slice A2 src.length c2) := HP4.out.box.cell 2)
        | (refine step_app_sv rfl (.tmp 56) (.tmp 58) 23 rfl (w.heap.size + 1) 5 i0 _ 1 Tryd.underlying23 hi0 hz0 hz1 hz2 rfl v4 _ _ rfl HP4.out.own (w.heap.size + 1) _ src.length _ (src.map cell8) rfl (HP4.out.sl H2.out) (by simp) (cell8_one src) (by unfold maxLen; simp; omega) (by simp; omega) HP4.out.hBw ?_; intro v5 w5 hown5 hg5; have HP5 := Lib.hid (HP4.out.app (d := src) hown5 rfl hg5); have q5 : w5.cell? ⟨w.heap.size, 2, none⟩ = some (.slice A2 src.length c2) := HP5.out.box.cell 2))
    clear e2 q4 q5 hwr HPA HP4 HP3 hg4 hg5 hown4 hown5
    generalize hb5 : b3 ++ [UInt8.ofNat src.length] ++ src = b5 at HP5
    have hl5 : b5.length ≤ 47 := by rw [← hb5]; simp; omega
    have HB5 := Lib.hid hb5
    clear hb5
    have e0 : w5.cell? ⟨w.heap.size, 0, none⟩ = some (.int .u8 1) := HP5.out.box.cell 0
    go_upto_region 13 with fail
    clear e0
    have e6 : w5.cell? ⟨w.heap.size, 6, none⟩ = some (.int .i64 (k : Int)) := HP5.out.box.cell 6
    have hzn : (enc (k + n)).length ≤ 8 := by rw [enc_length]; exact szN_le _
    have HSN : Hid (∀ w, Calls Tryd.prog 74 #[.int .u64 ((k : Int) + (n : Int))] w (Gave w (enc (k + n)) fun v => v)) := by
      intro w
      have h := short_some (n := k + n) (by omega) w
      rw [show ((k + n : Nat) : Int) = (k : Int) + (n : Int) by omega] at h
      exact h
    go_upto_region 14 with (first
      | (go_at_call 74; refine (HSN.out _).mono ?_; rintro e wa ⟨Aa, qa, rfl, hqa, hma, howna, hba⟩; have HPa := Lib.hid (HP5.out.beside hba); have HSa := Lib.hid (Sv.of_own howna); clear howna hba hqa)
      | (at_builtin; refine wpList_append_sv _ rfl _ _ _ rfl (w.heap.size + 1) 5 i0 _ 1 Tryd.underlying23 hi0 hz0 hz1 hz2 rfl v5 _ _ rfl HPa.out.own wa.heap.size Aa (enc (k + n)).length _ ((enc (k + n)).map cell8) rfl HSa.out (by simp) (cell8_one _) (by unfold maxLen; omega) (by omega) HPa.out.hBw ?_; intro vb wb hownb hgb _))
    have HPb := Lib.hid (HPa.out.app (d := enc (k + n)) hownb rfl hgb)
    clear hownb hgb HPa HSa e6 HSN HP5
    generalize hbb : b5 ++ enc (k + n) = bb at HPb
    have hlb : bb.length ≤ 3100 := by rw [← hbb]; simp; omega
    have HBB := Lib.hid hbb
    clear hbb
    have e5 : wb.cell? ⟨w.heap.size, 5, none⟩ = some (.int .u64 (pn : Int)) := HPb.out.box.cell 5
    have e6 : wb.cell? ⟨w.heap.size, 6, none⟩ = some (.int .i64 (k : Int)) := HPb.out.box.cell 6
    have HLW := Lib.hid (fun w => low_any pn k w hk4 hpn)
    have hbe : (be pn k).length ≤ 4 := by rw [be_length]; exact hk4
    go_wp2_with (first
      | (go_at_call 73; refine (HLW.out _).mono ?_; rintro e wc ⟨Ac, qc, rfl, hqc, hmc, hownc, hbc⟩; have HPc := Lib.hid (HPb.out.beside hbc); have HSc := Lib.hid (Sv.of_own hownc); clear hownc hbc hqc)
      | (at_builtin; refine wpList_append_sv _ rfl _ _ _ rfl (w.heap.size + 1) 5 i0 _ 1 Tryd.underlying23 hi0 hz0 hz1 hz2 rfl vb _ _ rfl HPc.out.own wc.heap.size Ac (be pn k).length _ ((be pn k).map cell8) rfl HSc.out (by simp) (cell8_one _) (by unfold maxLen; omega) (by omega) HPc.out.hBw ?_; intro vd wd hownd hgd _))
    have hpd := HPc.out.app (d := be pn k) hownd rfl hgd
    have hhd : HD = bb ++ be pn k := by
      rw [HH.out, ← HBB.out, ← HB5.out, ← HB3.out]
      simp
    rw [← hhd] at hpd
    obtain ⟨Ad, cd, rfl, p1, p2⟩ := own_form hpd.own
    go_ret
    exact ⟨Ad, cd, rfl, p1, p2, hown_base hpd.own (Nat.le_succ _), HB0.out.trans (hpd.bel.mono (Nat.le_succ _))⟩
end
end Go.Proofs.YtblclinfcdalaaaDoor
