/-
  The walk through slices.DeleteFunc at ranges.
-/
import Derived.Test.YtaemfoelhijbjaaSpDel2
namespace Go.Proofs.Ytaemfoelhijbjaa
open Go.RowKit
set_option linter.unusedVariables false

/-- A row of one's own that lies at the head of block g. -/
def RowAt (w : World) (base g n c : Nat) (l : List (Nat × Nat)) : Prop := w.ownsRow base 42 2 (.slice (some ⟨g, 0, none⟩) n c) n (l.flatMap rcS)

theorem RowAt.cell {w : World} {base g n c : Nat} {l : List (Nat × Nat)} (h : RowAt w base g n c l) {i : Nat} {x : Nat × Nat} (hx : l[i]? = some x) :
    w.cell? ⟨g, i * 2, none⟩ = some (.int .u64 (x.1 : Int)) ∧ w.cell? ⟨g, i * 2 + 1, none⟩ = some (.int .u64 (x.2 : Int)) := by
  have hf := rcS_at l i x hx
  have h1 := World.ownsRow.cells h (g := g) rfl _ _ hf.1
  have h2 := World.ownsRow.cells h (g := g) rfl _ _ hf.2
  rw [Addr.add_lit, Nat.zero_add] at h1 h2
  exact ⟨h1, h2⟩
theorem RowAt.wh {w : World} {base g n c : Nat} {l : List (Nat × Nat)} (h : RowAt w base g n c l) : ∃ cur, Wh w g 42 cur ∧ base ≤ g ∧ n ≤ c ∧ c ≤ maxLen ∧ cur.size = c * 2 := by
  rcases h.2 with ⟨hs, _⟩ | ⟨g', c', cur, hs, h1, h2, h3, h4, h5, h6⟩
  · simp at hs
  · simp only [Value.slice.injEq, Option.some.injEq, Addr.mk.injEq, and_true] at hs
    obtain ⟨rfl, _, rfl⟩ := hs
    exact ⟨cur, h2, h1, h3, h4, h5⟩
theorem RowAt.below {w w' : World} {base g n c : Nat} {l : List (Nat × Nat)} (h : RowAt w base g n c l) (hb : Below w.heap.size w w') : RowAt w' base g n c l := ownR_below h hb

/-- What DeleteFunc leaves. -/
def DelGave (base g c : Nat) (l : List (Nat × Nat)) (w : World) (e : Ending) (w' : World) : Prop :=
  e = .returned (.slice (some ⟨g, 0, none⟩) (l.filter keepR).length c) ∧ RowAt w' base g (l.filter keepR).length c (l.filter keepR) ∧ w.grownBy w' (some g)

set_option maxRecDepth 10000 in
set_option maxHeartbeats 1000000 in
theorem delete_any (base g n c : Nat) (l : List (Nat × Nat)) (w : World) (hown : RowAt w base g n c l) (hl : l.length = n) (hn : 0 < n) (hlen : n ≤ 16777216) :
    Calls Try.prog 29 #[.slice (some ⟨g, 0, none⟩) n c, .func (.func 26) #[] #[]] w (DelGave base g c l w) := by
  obtain ⟨cur, hwh, hb, hnc, hcm, hsz⟩ := hown.wh
  have hg := hwh.lt
  have hrs : Rs w w.heap.size (some ⟨g, 0, none⟩) l := Rs.of_own hown
  have HIX := index_any g 0 n c l w hg hl.symm hlen hrs
  rw [List.take_of_length_le (by omega)] at HIX
  unfold maxLen at hcm
  rcases idx_spec (fun y => decide (y.2 ≤ y.1)) l 0 with ⟨e1, hall⟩ | ⟨k0, x0, hk0, e1, ht, hall⟩
  · have e2 : Lib.idxBy (fun _ y => decide (y.2 ≤ y.1)) l (default : Nat × Nat) = -1 := e1
    rw [e2] at HIX
    have hf : l.filter keepR = l := List.filter_eq_self.2 fun x hx => by have := hall x hx; simp [keepR, this]
    have HF := Lib.hid hf
    have HO := Lib.hid hown
    have HL := Lib.hid hl
    clear e1 e2 hall hf hown hl hrs hwh hsz
    go_enter Try.func29, Try.ntmps29
    go_wp2_with (go_at_call 35; refine HIX.mono ?_; rintro e w1 ⟨rfl, hb1⟩)
    go_ret
    unfold DelGave
    rw [HF.out, HL.out]
    exact ⟨rfl, HO.out.below hb1, grown_below hb1⟩
  · have e2 : Lib.idxBy (fun _ y => decide (y.2 ≤ y.1)) l (default : Nat × Nat) = (k0 : Int) := by
      unfold Lib.idxBy
      rw [e1]
      simp
    rw [e2] at HIX
    have hk0' := (List.getElem?_eq_some_iff.1 hk0).1
    have hK : Kept l l k0 (k0 + 1) := by
      refine ⟨rfl, by omega, hk0', ?_, fun _ _ => rfl⟩
      rw [List.take_add_one, hk0, List.filter_append, List.filter_eq_self.2 (fun x hx => by have := hall x hx; simp [keepR, this])]
      simp [keepR, ht]
    have HK := Lib.hid hK
    have HO := Lib.hid hown
    have HL := Lib.hid hl
    have hne1 : ((k0 : Int) == -1) = false := beq_eq_false_iff_ne.2 (by omega)
    have hk0n : k0 < n := by omega
    clear e1 e2 hall hown hl hrs hwh hsz hK hk0 ht hk0'
    go_enter Try.func29, Try.ntmps29
    go_wp2_with (go_at_call 35; refine HIX.mono ?_; rintro e w1 ⟨rfl, hb1⟩; have HB1 := Lib.hid hb1; clear hb1)
    go_loopw [5, 6] (fun s5 s6 wr => ∃ (i j : Nat) (L : List (Nat × Nat)), s5 = .int .i64 i ∧ s6 = .int .i64 j ∧ Hid (Kept l L i j) ∧ Hid (RowAt wr base g n c L) ∧ Hid (w.grownBy wr (some g)) ∧ i < j ∧ j ≤ n) (fun _ s6 _ => n - (intOf s6).toNat)
    case atStart => exact ⟨k0, k0 + 1, l, rfl, by go_num, HK, Lib.hid (HO.out.below HB1.out), Lib.hid (grown_below HB1.out), by omega, by omega⟩
    case round =>
      obtain ⟨i, j, L, rfl, rfl, hK, hO, hG, hij, hjn⟩ := hrel
      clear HIX HK HO HB1 hne1 hk0n
      by_cases hlt : j < n
      · obtain ⟨x, hx⟩ : ∃ x, l[j]? = some x := ⟨_, List.getElem?_eq_getElem (by rw [HL.out]; exact hlt)⟩
        have hcj := hO.out.cell ((hK.out.tail j (Nat.le_refl _)).trans hx)
        obtain ⟨hc1, hc2⟩ := hcj
        have hlen' : L.length = n := hK.out.len.trans HL.out
        obtain ⟨y, hy⟩ : ∃ y, L[i]? = some y := ⟨_, List.getElem?_eq_getElem (by omega)⟩
        obtain ⟨cur', hwh', _⟩ := hO.out.wh
        have hglt := hwh'.lt
        have HX := Lib.hid hx
        have HY := Lib.hid hy
        have HW := Lib.hid hwh'
        have HLL := Lib.hid hlen'
        clear hx hy hwh' hlen'
        have d1 : decide (j < n) = true := decide_eq_true hlt
        by_cases hp : x.2 ≤ x.1
        · have hem := fun W' => emptyB_any x.1 x.2 W'
          rw [decide_eq_true hp] at hem
          go_wp2_with (go_at_call 26; refine (hem _).mono ?_; rintro e w2 ⟨rfl, hb2⟩)
          go_roundw
          case rel =>
            have hb3 := ((Below.refl _ wr).alloc (Nat.le_refl _) (.cells #[.int .u64 (x.1 : Int), .int .u64 (x.2 : Int)] 42)).trans (hb2.mono (by simp))
            exact ⟨i, j + 1, L, rfl, by go_num, Lib.hid (hK.out.pass HX.out (by simp [keepR, hp])), Lib.hid (hO.out.below hb3), Lib.hid (grown_trans hG.out (grown_below hb3)), by omega, by omega⟩
          case measure => simp [intOf]; omega
        · have hem := fun W' => emptyB_any x.1 x.2 W'
          rw [decide_eq_false hp] at hem
          have HB0 := Lib.hid ((Below.refl _ wr).alloc (Nat.le_refl _) (.cells #[.int .u64 (x.1 : Int), .int .u64 (x.2 : Int)] 42))
          have HWB := Lib.hid (Wh.new wr 42 #[.int .u64 (x.1 : Int), .int .u64 (x.2 : Int)])
          go_wp2_with (
            go_at_call 26
            refine (hem _).mono ?_
            rintro e w2 ⟨rfl, hb2⟩
            have HB3 := Lib.hid (HB0.out.trans (hb2.mono (by simp)))
            have hO2 := hO.out.below HB3.out
            have hwb := HWB.out.below hb2 HWB.out.lt
            have hq0 : w2.cell? ⟨wr.heap.size, 0, none⟩ = some (.int .u64 (x.1 : Int)) := (hwb.cell 0).trans rfl
            have hq1 : w2.cell? ⟨wr.heap.size, 1, none⟩ = some (.int .u64 (x.2 : Int)) := (hwb.cell 1).trans rfl
            have hi1 := (hO2.cell HY.out).1
            have hi2 := (hO2.cell HY.out).2
            have hw2 := HW.out.below HB3.out hglt
            have hf1 := hw2.frozen (i * 2)
            have hf2 := hw2.frozen (i * 2 + 1)
            have HO2 := Lib.hid hO2
            clear hb2 hO2 hwb hw2)
          go_roundw
          case rel => exact ⟨i + 1, j + 1, L.set i x, by go_num, by go_num, Lib.hid (hK.out.keep HX.out (by simp [keepR, hp])), Lib.hid (OwR.put HO2.out i (by rw [HLL.out]; omega) x),
            Lib.hid (grown_trans (grown_trans (grown_trans hG.out (grown_below HB3.out)) (grown_set _ _ _ _)) (grown_set _ _ _ _)), by omega, by omega⟩
          case measure => simp [intOf]; omega
      · obtain rfl : j = n := by omega
        have d1 : decide (j < j) = false := decide_eq_false (by omega)
        have hlen' : L.length = j := hK.out.len.trans HL.out
        have hin : i < c := by omega
        have hne : ¬ c = i := by omega
        have hij' : i ≤ j := by omega
        have hic : i ≤ c := by omega
        have hjc : j ≤ c := by omega
        have hf : L.take i = l.filter keepR := by rw [hK.out.head, List.take_of_length_le (by rw [HL.out]; exact Nat.le_refl _)]
        have hm : (l.filter keepR).length = i := by rw [← hf]; simp; omega
        obtain ⟨cur', hwh', _, _, _, hsz'⟩ := hO.out.wh
        have hcl := fun ty => run_clear_rg wr ty g (i * 2) (j - i) (c - i) (fun k hk => by
          rw [hwh'.cell, Array.getElem?_eq_getElem (by omega)]
          rfl) (fun k _ => hwh'.frozen _)
        have HCO := Lib.hid (OwR.cutOver (base := base) (w := wr) (g := g) (c := c) (m := i) (l := L) (by unfold OwR; rw [hlen']; exact hO.out) (by omega) (List.replicate ((j - i) * 2) (.int .u64 0)) (by rw [List.length_replicate, hlen']; omega))
        have HF := Lib.hid hf
        have HM := Lib.hid hm
        clear hf hm hlen' hwh' hsz'
        go_wp2
        go_ret
        have hco := HCO.out
        rw [HF.out] at hco
        refine ⟨?_, ?_, grown_trans hG.out hco.2⟩
        · rw [HM.out]
          rfl
        · exact hco.1

end Go.Proofs.Ytaemfoelhijbjaa
