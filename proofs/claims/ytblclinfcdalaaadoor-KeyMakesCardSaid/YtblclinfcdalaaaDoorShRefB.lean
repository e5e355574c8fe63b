/-
  The document's own First, Constants, blocks, Join, Great (hostlerref06).
-/
import Derived.Test.YtblclinfcdalaaaDoorShRefW
import Derived.Test.YtblclinfcdalaaaDoorShEnd
import Derived.Test.YtblclinfcdalaaaDoorShConst
namespace Go.Proofs.YtblclinfcdalaaaDoor
open Go.RowKit
set_option linter.unusedVariables false

set_option maxRecDepth 100000 in
set_option maxHeartbeats 400000 in
theorem rfirst_any (w : World) : Calls Tryd.prog 90 #[] w (GaveW w initS.l) := by
  have hW : Wh (w.alloc (.cells (initS.l.map cw).toArray 130)) w.heap.size 130 (initS.l.map cw).toArray := Wh.new _ _ _
  have hown := own_of_wh hW w.heap.size 8 8 (Nat.le_refl _) rfl (Nat.le_refl _) (by unfold maxLen; omega)
  go_enter Tryd.func90, Tryd.ntmps90
  go_wp2
  go_ret
  exact ⟨some ⟨w.heap.size, 0, none⟩, 8, rfl, Nat.le_refl _, (by unfold maxLen; decide), hown, (Below.refl _ _).alloc (Nat.le_refl _) _⟩

theorem kLit : (#[.int .u32 1116352408, .int .u32 1899447441, .int .u32 3049323471, .int .u32 3921009573, .int .u32 961987163, .int .u32 1508970993, .int .u32 2453635748, .int .u32 2870763221, .int .u32 3624381080, .int .u32 310598401, .int .u32 607225278, .int .u32 1426881987, .int .u32 1925078388, .int .u32 2162078206, .int .u32 2614888103, .int .u32 3248222580, .int .u32 3835390401, .int .u32 4022224774, .int .u32 264347078, .int .u32 604807628, .int .u32 770255983, .int .u32 1249150122, .int .u32 1555081692, .int .u32 1996064986, .int .u32 2554220882, .int .u32 2821834349, .int .u32 2952996808, .int .u32 3210313671, .int .u32 3336571891, .int .u32 3584528711, .int .u32 113926993, .int .u32 338241895, .int .u32 666307205, .int .u32 773529912, .int .u32 1294757372, .int .u32 1396182291, .int .u32 1695183700, .int .u32 1986661051, .int .u32 2177026350, .int .u32 2456956037, .int .u32 2730485921, .int .u32 2820302411, .int .u32 3259730800, .int .u32 3345764771, .int .u32 3516065817, .int .u32 3600352804, .int .u32 4094571909, .int .u32 275423344, .int .u32 430227734, .int .u32 506948616, .int .u32 659060556, .int .u32 883997877, .int .u32 958139571, .int .u32 1322822218, .int .u32 1537002063, .int .u32 1747873779, .int .u32 1955562222, .int .u32 2024104815, .int .u32 2227730452, .int .u32 2361852424, .int .u32 2428436474, .int .u32 2756734187, .int .u32 3204031479, .int .u32 3329325298] : Array Value) = (kW.map cw).toArray := by kernel_rfl

set_option maxRecDepth 100000 in
set_option maxHeartbeats 400000 in
theorem rconst_any (w : World) : Calls Tryd.prog 91 #[] w (GaveW w kW) := by
  have hl := kW_len
  obtain ⟨ks, hks⟩ : ∃ ks, ks = kW := ⟨_, rfl⟩
  rw [← hks] at hl
  have hW : Wh (w.alloc (.cells (ks.map cw).toArray 130)) w.heap.size 130 (ks.map cw).toArray := Wh.new _ _ _
  have hown := own_of_wh hW w.heap.size 64 64 (Nat.le_refl _) (by simpa using hl) (Nat.le_refl _) (by unfold maxLen; omega)
  rw [List.take_of_length_le (by rw [List.length_map, hl]; exact Nat.le_refl _)] at hown
  rw [← hks]
  have HK := Deep.mk hks
  have HL := Deep.mk hl
  clear hks hl
  go_enter Tryd.func91, Tryd.ntmps91
  go_wp2
  rw [kLit, ← HK.out]
  go_ret
  exact ⟨some ⟨w.heap.size, 0, none⟩, 64, by rw [HL.out]; rfl, by rw [HL.out]; exact Nat.le_refl _, (by unfold maxLen; decide), by rw [HL.out]; exact hown, (Below.refl _ _).alloc (Nat.le_refl _) _⟩

/-- How many noughts stand behind a text of n bytes and its mark. -/
theorem zeros_ne (n z m : Nat) (hz : z = (119 - n % 64) % 64) (h1 : n + 1 ≤ m) (h2 : m < n + 1 + z) : ((m : Int) % 64 == 56) = false ∧ ((m : Int) % 64 != 56) = true := by
  have h : (m : Int) % 64 ≠ 56 := by omega
  exact ⟨by simpa using h, by simpa using h⟩
theorem zeros_eq (n z m : Nat) (hz : z = (119 - n % 64) % 64) (h1 : m = n + 1 + z) : ((m : Int) % 64 == 56) = true ∧ ((m : Int) % 64 != 56) = false := by
  have h : (m : Int) % 64 = 56 := by omega
  exact ⟨by simpa using h, by simpa using h⟩

theorem own_grown {w w' : World} {base : Nat} {e : TypeId} {v : Value} {n : Nat} {xs : List Value} {row : Option Nat} (h : w.ownsRow base e 1 v n xs) (hb : w.grownBy w' row) (hne : ∀ q, v.ownBlock = some q → row ≠ some q) : w'.ownsRow base e 1 v n xs := by
  refine ⟨h.1, ?_⟩
  rcases h.2 with hn | ⟨g, cap, cur, rfl, hbs, hgg, rest⟩
  · exact .inl hn
  · exact .inr ⟨g, cap, cur, rfl, hbs, (hb.block g (Array.getElem?_eq_some_iff.1 hgg).1 (fun e => hne g rfl e.symm)).trans hgg, rest⟩

/-- A slice's length. -/
def lenR : Value → Nat
  | .slice _ n _ => n
  | _ => 0

/-- A text, its mark, noughts up to m bytes. -/
def padR (l : List UInt8) (m : Nat) : List UInt8 := l ++ (128 :: List.replicate (m - (l.length + 1)) 0)
theorem padR_zero (l : List UInt8) : padR l (l.length + 1) = l ++ [128] := by simp [padR]
theorem padR_succ (l : List UInt8) (m : Nat) (h : l.length + 1 ≤ m) : padR l (m + 1) = padR l m ++ [0] := by
  unfold padR
  rw [show m + 1 - (l.length + 1) = m - (l.length + 1) + 1 by omega, List.replicate_succ', List.append_assoc, List.cons_append]

set_option maxRecDepth 100000 in
set_option maxHeartbeats 800000 in
theorem blocks_any (l : List UInt8) (n c B : Nat) (A : Option Addr) (w : World) (hB : B ≤ w.heap.size) (hl : l.length = n) (hs : Sl w B A l) (hn : n ≤ 16000000) :
    Calls Tryd.prog 92 #[.slice A n c] w (GaveB w (l ++ endB n)) := by
  obtain ⟨i0, hi0, hz0, hz1, hz2⟩ := info_parts info8
  obtain ⟨z, hz⟩ : ∃ z, z = (119 - n % 64) % 64 := ⟨_, rfl⟩
  have hz63 : z ≤ 63 := by omega
  have HZ := Deep.mk hz
  have HL := Deep.mk hl
  have HS := Lib.hid hs
  clear hz hl hs
  go_enter Tryd.func92, Tryd.ntmps92
  go_upto_region 2 with (first
    | (at_builtin; refine wpList_append_sv _ rfl (.tmp 7) (.tmp 8) _ rfl w.heap.size 5 i0 _ 1 Tryd.underlying23 hi0 hz0 hz1 hz2 rfl (.slice (some ⟨w.heap.size, 0, none⟩) 0 0) 0 [] rfl (World.ownsRow_made w #[] 0 (Nat.le_refl _) (Nat.zero_le _) rfl) B A n c (l.map cell8) rfl (HS.out.keep (Nat.le_refl _) (fun p hp => ((Below.refl w.heap.size w).alloc (Nat.le_refl _) _).cell (Nat.lt_of_lt_of_le hp hB))) (by rw [List.length_map, HL.out]) (cell8_one _) (by unfold maxLen; omega) (by omega) (by simp) ?_; intro v1 w1 hown1 hg1 _; have HO1 := Lib.hid hown1; have HB1 := Lib.hid (((Below.refl w.heap.size w).alloc (Nat.le_refl _) _).grown hg1 (by simp) (fun q hq => by simp [Value.ownBlock] at hq; omega)); clear hown1 hg1)
    | (at_builtin; refine wpList_append_sv _ rfl (.tmp 9) (.tmp 10) _ rfl w.heap.size 5 i0 _ 1 Tryd.underlying23 hi0 hz0 hz1 hz2 rfl v1 _ _ rfl (HO1.out.alloc _) _ _ 1 1 _ rfl (sv_new _ _ _) rfl (fun u hu => by simp at hu; subst hu; rfl) (by unfold maxLen; omega) (by omega) (by have := HB1.out.size; simp; omega) ?_; intro v2 w2 hown2 hg2 _; have HO2 := Lib.hid hown2; have HB2 := Lib.hid ((HB1.out.alloc HB1.out.size _).grown hg2 (by have := HB1.out.size; simp; omega) (fun q hq => (HO1.out.lt q hq).1)); clear hown2 hg2))
  obtain ⟨A2, c2, rfl, h2a, h2b⟩ := own_form HO2.out
  have HO3 : Hid (w2.ownsRow w.heap.size 5 1 (.slice A2 (0 + n + 1) c2) (n + 1) ((padR l (n + 1)).map cell8)) := by
    have h := HO2.out
    rw [Nat.zero_add] at h ⊢
    rw [← HL.out, padR_zero, HL.out, List.map_append]
    exact Lib.hid h
  clear HO2 HO1 HB1
  rw [Nat.zero_add] at HO3 ⊢
  clear h2a h2b
  go_loopw [3] (fun v wr => ∃ (m : Nat) (A' : Option Addr) (c' : Nat), n + 1 ≤ m ∧ m ≤ n + 1 + z ∧ v = .slice A' m c' ∧ Hid (wr.ownsRow w.heap.size 5 1 (.slice A' m c') m ((padR l m).map cell8)) ∧ Hid (Below w.heap.size w wr)) (fun v _ => n + 1 + z - lenR v)
  case atStart => exact ⟨n + 1, A2, c2, by omega, by omega, rfl, HO3, HB2⟩
  case round =>
    obtain ⟨m, A', c', hm1, hm2, rfl, HOm, HBm⟩ := hrel
    clear HO3 HB2
    by_cases hlt : m < n + 1 + z
    · obtain ⟨t1, t2⟩ := zeros_ne n z m HZ.out hm1 hlt
      have hmx : m ≤ 16001000 := by omega
      go_wp2_with (at_builtin; refine wpList_append_sv _ rfl (.tmp 16) (.tmp 17) _ rfl w.heap.size 5 i0 _ 1 Tryd.underlying23 hi0 hz0 hz1 hz2 rfl (.slice A' m c') _ _ rfl (HOm.out.alloc _) _ _ 1 1 _ rfl (sv_new _ _ _) rfl (fun u hu => by simp at hu; subst hu; rfl) (by unfold maxLen; omega) (by omega) (by have := HBm.out.size; simp; omega) ?_; intro v3 w3 hown3 hg3 _; have HB3 := Lib.hid ((HBm.out.alloc HBm.out.size _).grown hg3 (by have := HBm.out.size; simp; omega) (fun q hq => (HOm.out.lt q hq).1)); clear hg3)
      obtain ⟨A4, c4, rfl, _, _⟩ := own_form hown3
      have HO4 : Hid (w3.ownsRow w.heap.size 5 1 (.slice A4 (m + 1) c4) (m + 1) ((padR l (m + 1)).map cell8)) := by
        rw [padR_succ l m (by rw [HL.out]; exact hm1), List.map_append]
        exact Lib.hid hown3
      clear hown3
      exact ⟨⟨m + 1, A4, c4, by omega, by omega, rfl, HO4, HB3⟩, by simp only [lenR]; omega⟩
    · obtain ⟨t1, t2⟩ := zeros_eq n z m HZ.out (by omega)
      have hpad : padR l m ++ be (8 * n) 8 = l ++ endB n := by
        rw [padR, endB, HL.out, show m - (n + 1) = z by omega, ← HZ.out, List.append_assoc]
        rfl
      have HPAD := Deep.mk hpad
      have hmx : m ≤ 16001000 := by omega
      have hw5 : Wh (wr.alloc (.cells (List.replicate 8 (Value.int .u8 0)).toArray 5)) wr.heap.size 5 (List.replicate 8 (Value.int .u8 0)).toArray := Wh.new _ _ _
      have ho5 := own_of_wh hw5 wr.heap.size 8 8 (Nat.le_refl _) (by simp) (Nat.le_refl _) (by unfold maxLen; omega)
      have hb5 : Below wr.heap.size wr (wr.alloc (.cells (List.replicate 8 (Value.int .u8 0)).toArray 5)) := (Below.refl _ _).alloc (Nat.le_refl _) _
      obtain ⟨g, hg⟩ : ∃ g, g = wr.heap.size := ⟨_, rfl⟩
      have hne : ∀ q, (Value.slice A' m c').ownBlock = some q → some g ≠ some q := fun q hq e => by have := (HOm.out.lt q hq).2; have := Option.some.inj e; omega
      have HOn := Lib.hid (own_below HOm.out hb5)
      have HBn := Lib.hid (HBm.out.trans (hb5.mono HBm.out.size))
      have hwg : w.heap.size ≤ g := by rw [hg]; exact HBm.out.size
      have HNE := Deep.mk hne
      clear hpad hne hw5 HOm HBm
      go_upto_region 6 with (at_make; (refine wpList_make_mn _ rfl _ _ _ rfl 5 i0 (.int .u8 0) Tryd.underlying23 hi0 hz0 hz1 rfl _ _ _ _ 8 8 rfl rfl rfl rfl (Nat.le_refl _) (by rw [hz2]; omega) (by omega) ?_))
      clear t1 t2
      change Code.wp _ _ _ _ (wr.alloc (.cells (List.replicate 8 (Value.int .u8 0)).toArray 5))
      rw [← hg] at ho5 ⊢
      generalize wr.alloc (.cells (List.replicate 8 (Value.int .u8 0)).toArray 5) = w5 at *
      have HO5 := Lib.hid ho5
      have hgw5 : g < w5.heap.size := (ho5.lt g rfl).2
      clear ho5 hb5 hg
      go_wp2
      have HB5 := Lib.hid HBn.out
      go_loopw [4, 6] (fun v0 i wr => ∃ (j : Nat) (xs : List Value), j ≤ 8 ∧ i = .int .i64 ((j : Int) - 1) ∧ v0 = .int .u64 (8 * n / 256 ^ (8 - j) : Nat) ∧
          wr.ownsRow g 5 1 (.slice (some ⟨g, 0, none⟩) 8 8) 8 xs ∧ Hid (xs.drop j = (be (8 * n) (8 - j)).map cell8) ∧ Hid (w5.grownBy wr (some g))) (fun _ i _ => (intOf i + 1).toNat)
      case atStart => exact ⟨8, _, Nat.le_refl _, rfl, by simp, HO5.out, by show _ = _; rw [Nat.sub_self]; rfl, Lib.hid (World.grownBy.refl _ _)⟩
      case round =>
        obtain ⟨j, xs, hj, rfl, rfl, hown, hdrop, hbel⟩ := hrel
        have hxl := hown.1
        have HX := Lib.hid hxl
        have HO := Lib.hid hown
        by_cases h0 : 1 ≤ j
        · obtain ⟨q, rfl⟩ : ∃ q, j = q + 1 := ⟨j - 1, by omega⟩
          have hcell := hown.cellAt q (by omega)
          have hfz := hown.frozenAt q
          obtain ⟨u, hu⟩ : ∃ u, xs[q]? = some u := ⟨_, List.getElem?_eq_getElem (by omega)⟩
          rw [hu] at hcell
          clear hu
          generalize hy : 8 * n / 256 ^ (8 - (q + 1)) = y at *
          have HY := Lib.hid hy
          clear hy hown hxl
          go_wp2
          go_roundw
          case rel =>
            have hy64 : y ≤ 4611686018427387903 := by
              have h2 := HY.out
              have h3 := Nat.div_le_self (8 * n) (256 ^ (8 - (q + 1)))
              omega
            have hown := HO.out
            have hst := hown.stored q (.int .u8 ((y : Int) % 256))
            have hx := HX.out
            refine ⟨q, xs.set q (.int .u8 ((y : Int) % 256)), by omega, rfl, ?_, hst.1, ?_, Lib.hid (grown_trans hbel.out (grown_set _ _ _ _))⟩
            · rw [IntWalk.u64_in _ ⟨by omega, by omega⟩, ← HY.out, show 8 - q = 8 - (q + 1) + 1 by omega, Nat.pow_succ, ← Nat.div_div_eq_div_mul]
              rfl
            · show _ = _
              rw [drop_set_cons _ _ _ (by omega), hdrop.out, show 8 - q = 8 - (q + 1) + 1 by omega]
              show _ = cell8 (UInt8.ofNat (8 * n / 256 ^ (8 - (q + 1)) % 256)) :: _
              rw [HY.out]
              show _ = Value.int .u8 ((UInt8.ofNat (y % 256)).toNat : Int) :: _
              rw [UInt8.toNat_ofNat', Nat.mod_mod]
              rfl
          case measure => simp [intOf]
        · obtain rfl : j = 0 := by omega
          have hxs : xs = (be (8 * n) 8).map cell8 := by have := hdrop.out; simpa using this
          have hsv := Sv.of_own HO.out
          rw [hxs] at hsv
          have HOp := Lib.hid (own_grown HOn.out hbel.out HNE.out)
          have HBp := Lib.hid (below_grown HBn.out hbel.out hwg HBn.out.size)
          have HSV := Lib.hid hsv
          have hbl : ((be (8 * n) 8).map cell8).length = 8 := by rw [List.length_map]; exact be_length _ _
          clear hdrop hown hsv hbel
          go_wp2_with (at_builtin; refine wpList_append_sv _ rfl (.tmp 36) (.tmp 37) _ rfl w.heap.size 5 i0 _ 1 Tryd.underlying23 hi0 hz0 hz1 hz2 rfl (.slice A' m c') _ _ rfl HOp.out _ _ 8 8 _ rfl HSV.out hbl (cell8_one _) (by unfold maxLen; omega) (by omega) HBp.out.size ?_; intro v3 w3 hown3 hg3 _; have HB3 := Lib.hid (HBp.out.grown hg3 HBp.out.size (fun q hq => (HOp.out.lt q hq).1)); clear hg3)
          obtain ⟨A4, c4, rfl, h4a, h4b⟩ := own_form hown3
          rw [← List.map_append, HPAD.out] at hown3
          have hlen : (l ++ endB n).length = m + 8 := by rw [← HPAD.out, List.length_append, be_length, padR, List.length_append, List.length_cons, List.length_replicate, HL.out]; omega
          go_ret
          exact ⟨A4, c4, by rw [hlen]; rfl, by omega, h4b, by rw [hlen]; exact hown3, HB3.out⟩

end Go.Proofs.YtblclinfcdalaaaDoor
