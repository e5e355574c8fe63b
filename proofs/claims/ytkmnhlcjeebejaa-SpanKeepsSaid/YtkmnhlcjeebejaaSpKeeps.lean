/-
  The walk through hostlerlaw11.SpanKeeps.
-/
import Derived.Test.YtkmnhlcjeebejaaSpWorks
import Derived.Test.YtkmnhlcjeebejaaSpDel
namespace Go.Proofs.Ytkmnhlcjeebejaa
open Go.RowKit
set_option linter.unusedVariables false

/-- A slice that may be written into: its block is new, and is not block gb. -/
def Sto (base gb : Nat) (w : World) (v : Value) : Prop :=
  ∃ A n c, v = .slice A n c ∧ n ≤ 1000000 ∧ (0 < n → ∃ g cur, A = some ⟨g, 0, none⟩ ∧ base ≤ g ∧ g ≠ gb ∧ Wh w g 37 cur ∧ n * 2 ≤ cur.size)
theorem Sto.set {base gb : Nat} {w : World} {v : Value} (h : Sto base gb w v) (g i : Nat) (u : Value) : Sto base gb (w.setCell ⟨g, i, none⟩ u) v := by
  obtain ⟨A, n, c, h1, h2, h3⟩ := h
  refine ⟨A, n, c, h1, h2, fun hn => ?_⟩
  obtain ⟨g', cur, e1, e2, e3, e4, e5⟩ := h3 hn
  by_cases hg : g = g'
  · subst hg
    exact ⟨g, _, e1, e2, e3, e4.put i u, by simpa using e5⟩
  · exact ⟨g', cur, e1, e2, e3, e4.far (p := ⟨g, i, none⟩) (fun e => hg e.symm) u, e5⟩
theorem Sto.below {base gb : Nat} {w w' : World} {v : Value} (h : Sto base gb w v) (hb : Below w.heap.size w w') : Sto base gb w' v := by
  obtain ⟨A, n, c, h1, h2, h3⟩ := h
  refine ⟨A, n, c, h1, h2, fun hn => ?_⟩
  obtain ⟨g', cur, e1, e2, e3, e4, e5⟩ := h3 hn
  exact ⟨g', cur, e1, e2, e3, e4.below hb e4.lt, e5⟩
theorem Sto.of {base b0 gb : Nat} {w : World} {v : Value} {l : List (Nat × Nat)} (h : OwR b0 w v l) (hb : base ≤ b0) (hg : w.heap.size ≤ gb) (hl : l.length ≤ 1000000) : Sto base gb w v := by
  obtain ⟨A, c, rfl, _, _⟩ := h.form
  refine ⟨A, l.length, c, rfl, hl, fun hn => ?_⟩
  obtain ⟨g, c', cur, hs, h1, h2, h3, h4, h5, h6⟩ := ownR_some h hn
  simp only [Value.slice.injEq] at hs
  obtain ⟨rfl, _, rfl⟩ := hs
  exact ⟨g, cur, rfl, by omega, by have := h4.lt; omega, h4, by omega⟩

/-- The four slices, in block gb, and what lies below. -/
structure Four (base gb : Nat) (vs : List Value) (w0 w : World) : Prop where
  row : Wh w gb 24 vs.toArray
  sto : ∀ v ∈ vs, Sto base gb w v
  bel : Below base w0 w
  ge : base ≤ gb

theorem Four.put {base gb : Nat} {vs : List Value} {w0 w : World} (h : Four base gb vs w0 w) {g : Nat} (hg : base ≤ g) (hne : g ≠ gb) (i : Nat) (u : Value) : Four base gb vs w0 (w.setCell ⟨g, i, none⟩ u) :=
  ⟨h.row.far (p := ⟨g, i, none⟩) (fun e => hne e.symm) u, fun v hv => (h.sto v hv).set g i u, h.bel.setCell (p := ⟨g, i, none⟩) hg u, h.ge⟩

set_option maxRecDepth 10000 in
set_option maxHeartbeats 8000000 in
theorem keeps_any (A1 A2 : Option Addr) (n1 c1 n2 c2 : Nat) (a b : List (Nat × Nat)) (w : World) (ha : a.length = n1) (hb : b.length = n2) (hr1 : Rs w w.heap.size A1 a) (hr2 : Rs w w.heap.size A2 b)
    (hc1 : a.length ≤ c1) (hc2 : b.length ≤ c2) (hm1 : c1 ≤ maxLen) (hm2 : c2 ≤ maxLen) (hf1 : FitL a) (hf2 : FitL b) :
    Calls Try.prog 7 #[.slice A1 n1 c1, .slice A2 n2 c2] w (Says true w) := by
  have hnm1 : n1 ≤ 9223372036854775807 := by unfold maxLen at hm1; omega
  have hnm2 : n2 ≤ 9223372036854775807 := by unfold maxLen at hm2; omega
  by_cases h1 : n1 ≤ 60
  rotate_left
  · have d1 : decide ((n1 : Int) > 60) = true := decide_eq_true (by omega)
    clear ha hb hr1 hr2 hc1 hc2 hm1 hm2 hf1 hf2
    go_enter Try.func7, Try.ntmps7
    go_wp2_with (go_at_call 8; refine (works_any _).mono ?_; rintro e w1 ⟨rfl, hb1⟩)
    go_ret
    exact ⟨rfl, hb1⟩
  have d1 : decide ((n1 : Int) > 60) = false := decide_eq_false (by omega)
  by_cases h2 : n2 ≤ 60
  rotate_left
  · have d2 : decide ((n2 : Int) > 60) = true := decide_eq_true (by omega)
    clear ha hb hr1 hr2 hc1 hc2 hm1 hm2 hf1 hf2
    go_enter Try.func7, Try.ntmps7
    go_wp2_with (go_at_call 8; refine (works_any _).mono ?_; rintro e w1 ⟨rfl, hb1⟩)
    go_ret
    exact ⟨rfl, hb1⟩
  have d2 : decide ((n2 : Int) > 60) = false := decide_eq_false (by omega)
  have La : Hid (Live w A1 n1 c1 a) := Lib.hid ⟨ha, by omega, hr1, by omega, hm1, hf1⟩
  have Lb : Hid (Live w A2 n2 c2 b) := Lib.hid ⟨hb, by omega, hr2, by omega, hm2, hf2⟩
  clear ha hb hr1 hr2 hc1 hc2 hm1 hm2 hf1 hf2
  have HM0 := Lib.hid (OwR.made w)
  have L1 := Lib.hid (La.out.alloc (.cells #[] 37))
  go_enter Try.func7, Try.ntmps7
  go_wp2_with (first
    | (at_builtin
       refine wpList_app_rg rfl (.tmp 19) (.tmp 20) rfl w.heap.size (.slice (some ⟨w.heap.size, 0, none⟩) 0 0) [] rfl HM0.out _ _ _ _ a rfl L1.out.reads L1.out.len (by simp; omega) (by simp) ?_
       intro vx wx hox hgx _
       rw [List.nil_append] at hox
       have hbx : Below w.heap.size w wx := ((Below.refl _ w).alloc (Nat.le_refl _) _).grown hgx (by simp) (fun q hq => by simp [Value.ownBlock] at hq; omega)
       obtain ⟨Ax, cx, rfl, hxc, hxm⟩ := hox.form
       have hla := La.out.len
       have hrsx := hox.rs
       rw [hla] at hxc ⊢
       have Lx : Hid (Live wx Ax n1 cx a) := Lib.hid ⟨hla, by omega, hrsx, hxc, hxm, La.out.fit⟩
       have La2 := Lib.hid (La.out.on hbx)
       have Lb2 := Lib.hid (Lb.out.on hbx)
       have HBX := Lib.hid hbx
       have HM1 := Lib.hid (OwR.made wx)
       have L2 := Lib.hid (Lb2.out.alloc (.cells #[] 37))
       clear hox hgx hbx hla hrsx HM0 L1 La Lb hxc hxm)
    | (at_builtin
       refine wpList_app_rg rfl (.tmp 22) (.tmp 23) rfl wx.heap.size (.slice (some ⟨wx.heap.size, 0, none⟩) 0 0) [] rfl HM1.out _ _ _ _ b rfl L2.out.reads L2.out.len (by simp; omega) (by simp) ?_
       intro vy wy hoy hgy _
       rw [List.nil_append] at hoy
       have hby : Below wx.heap.size wx wy := ((Below.refl _ wx).alloc (Nat.le_refl _) _).grown hgy (by simp) (fun q hq => by simp [Value.ownBlock] at hq; omega)
       obtain ⟨Ay, cy, rfl, hyc, hym⟩ := hoy.form
       have hlb := Lb2.out.len
       have hrsy := hoy.rs
       rw [hlb] at hyc ⊢
       have Ly : Hid (Live wy Ay n2 cy b) := Lib.hid ⟨hlb, by omega, hrsy, hyc, hym, Lb2.out.fit⟩
       have Lx2 := Lib.hid (Lx.out.on hby)
       have La3 := Lib.hid (La2.out.on hby)
       have Lb3 := Lib.hid (Lb2.out.on hby)
       have HBY := Lib.hid (HBX.out.trans (hby.mono HBX.out.size))
       clear hoy hgy hby hlb hrsy HM1 L2 La2 Lb2 Lx HBX hyc hym))
  go_wp2_with fail
  refine (add_any wy _ Ax Ay n1 cx n2 cy a b Lx2.out Ly.out (Nat.le_refl _)).mono ?_
  rintro e w3 ⟨v0, l0, rfl, ho0, _, _, _, hl0, hb3⟩
  have HO0 := Lib.hid ho0
  have HB3 := Lib.hid hb3
  clear ho0 hb3
  go_wp2_with fail
  refine (cut_any w3 _ Ax Ay n1 cx n2 cy a b (Lx2.out.on HB3.out) (Ly.out.on HB3.out) (Nat.le_refl _)).mono ?_
  rintro e w4 ⟨v1, l1, rfl, ho1, _, _, _, hl1, hb4⟩
  have HO1 := Lib.hid ho1
  have HO02 := Lib.hid (HO0.out.below hb4)
  have HB4 := Lib.hid (HB3.out.trans (hb4.mono HB3.out.size))
  have hs34 : wy.heap.size ≤ w3.heap.size := HB3.out.size
  clear ho1 hb4 HO0 HB3
  go_wp2_with fail
  refine (both_any w4 _ Ax Ay n1 cx n2 cy a b (Lx2.out.on HB4.out) (Ly.out.on HB4.out) (Nat.le_refl _)).mono ?_
  rintro e w5 ⟨v2, l2, rfl, ho2, _, _, _, hl2, hb5⟩
  have HO2 := Lib.hid ho2
  have HO03 := Lib.hid (HO02.out.below hb5)
  have HO12 := Lib.hid (HO1.out.below hb5)
  have HB5 := Lib.hid (HB4.out.trans (hb5.mono HB4.out.size))
  have hs45 : wy.heap.size ≤ w4.heap.size := HB4.out.size
  clear ho2 hb5 HO02 HO1 HB4
  go_wp2_with fail
  refine (add_any w5 _ Ax none n1 cx 0 0 a [] (Lx2.out.on HB5.out) (Hands.nil _ _) (Nat.le_refl _)).mono ?_
  rintro e w6 ⟨v3, l3, rfl, ho3, _, _, _, hl3, hb6⟩
  have hs56 : wy.heap.size ≤ w5.heap.size := HB5.out.size
  have hb46 := HB5.out.trans (hb6.mono HB5.out.size)
  have hF : ∀ v ∈ [v0, v1, v2, v3], Sto wy.heap.size w6.heap.size w6 v := by
    intro v hv
    simp only [List.mem_cons, List.not_mem_nil, or_false] at hv
    rcases hv with rfl | rfl | rfl | rfl
    · exact Sto.of (HO03.out.below hb6) (Nat.le_refl _) (Nat.le_refl _) (by omega)
    · exact Sto.of (HO12.out.below hb6) hs34 (Nat.le_refl _) (by omega)
    · exact Sto.of (HO2.out.below hb6) hs45 (Nat.le_refl _) (by omega)
    · exact Sto.of ho3 hs56 (Nat.le_refl _) (by omega)
  obtain ⟨B0, k0, rfl, _, _⟩ := HO03.out.form
  obtain ⟨B1, k1, rfl, _, _⟩ := HO12.out.form
  obtain ⟨B2, k2, rfl, _, _⟩ := HO2.out.form
  obtain ⟨B3, k3, rfl, _, _⟩ := ho3.form
  obtain ⟨vs, hvs⟩ : ∃ vs, vs = [Value.slice B0 l0.length k0, .slice B1 l1.length k1, .slice B2 l2.length k2, .slice B3 l3.length k3] := ⟨_, rfl⟩
  rw [← hvs] at hF
  have HFR : Hid (Four wy.heap.size w6.heap.size vs wy (w6.alloc (.cells #[Value.slice B0 l0.length k0, .slice B1 l1.length k1, .slice B2 l2.length k2, .slice B3 l3.length k3] 24))) :=
    Lib.hid ⟨by rw [hvs]; exact Wh.new w6 _ _, fun v hv => (hF v hv).below ((Below.refl _ _).alloc (Nat.le_refl _) _), hb46.alloc hb46.size _, hb46.size⟩
  have HVL : Hid (vs.length = 4) := Lib.hid (by rw [hvs]; rfl)
  have HL1 := Lib.hid La3.out
  clear hF hvs ho3 hb6 hb46 HO03 HO12 HO2 HB5 hl0 hl1 hl2 hl3 hs34 hs45 hs56
  go_wp2
  generalize w6.heap.size = gb at HFR ⊢
  go_loopw [38] (fun s38 wr => ∃ k : Nat, k ≤ 4 ∧ s38 = .int .i64 k ∧ Hid (Four wy.heap.size gb vs wy wr)) (fun s38 _ => 4 - (intOf s38).toNat)
  case atStart => exact ⟨0, by omega, rfl, HFR⟩
  case round =>
    obtain ⟨k, hk, rfl, hF⟩ := hrel
    clear HFR
    by_cases hlt : k < 4
    · obtain ⟨v, hv⟩ : ∃ v, vs[k]? = some v := ⟨_, List.getElem?_eq_getElem (by rw [HVL.out]; exact hlt)⟩
      have hmem := List.mem_of_getElem? hv
      obtain ⟨A, n, c, rfl, hn, -⟩ := hF.out.sto v hmem
      have HMM := Lib.hid hmem
      have hc0 : wr.cell? ⟨gb, k, none⟩ = some (.slice A n c) := (hF.out.row.cell k).trans (by simpa using hv)
      have d1 : decide (k < 4) = true := decide_eq_true hlt
      clear hv hmem
      obtain ⟨w0, hw0⟩ : ∃ w0, w0 = wr := ⟨_, rfl⟩
      rw [← hw0] at hF hc0 ⊢
      clear hw0 wr
      go_wp2
      go_loopw [44] (fun s44 wi => ∃ i : Nat, i ≤ n ∧ s44 = .int .i64 i ∧ Hid (Four wy.heap.size gb vs wy wi)) (fun s44 _ => n - (intOf s44).toNat)
      case atStart => exact ⟨0, Nat.zero_le _, rfl, hF⟩
      case round =>
        obtain ⟨i, hi, rfl, hFi⟩ := hrel
        clear hc0 d1
        by_cases hin : i < n
        · have d2 : decide (i < n) = true := decide_eq_true hin
          obtain ⟨A', n', c', he, _, hS⟩ := hFi.out.sto _ HMM.out
          simp only [Value.slice.injEq] at he
          obtain ⟨rfl, rfl, rfl⟩ := he
          obtain ⟨g, cur, rfl, hbg, hne, hwh, hsz⟩ := hS (by omega)
          obtain ⟨u1, hu1⟩ : ∃ u, cur[i * 2]? = some u := ⟨_, Array.getElem?_eq_getElem (by omega)⟩
          obtain ⟨u2, hu2⟩ : ∃ u, cur[i * 2 + 1]? = some u := ⟨_, Array.getElem?_eq_getElem (by omega)⟩
          have hc1 : wr.cell? ⟨g, i * 2, none⟩ = some u1 := (hwh.cell _).trans hu1
          have hc2 : wr.cell? ⟨g, i * 2 + 1, none⟩ = some u2 := (hwh.cell _).trans hu2
          have hf1 := hwh.frozen (i * 2)
          have hf2 := hwh.frozen (i * 2 + 1)
          have hil : i < n := hin
          clear hS hwh hsz hu1 hu2
          go_wp2
          go_roundw
          case rel => exact ⟨i + 1, by omega, by go_num, Lib.hid ((hFi.out.put hbg hne _ _).put hbg hne _ _)⟩
          case measure => simp [intOf]; omega
        · have d2 : decide (i < n) = false := decide_eq_false hin
          go_wp2
          go_roundw
          case rel => exact ⟨k + 1, by omega, by go_num, hFi⟩
          case measure => simp [intOf]; omega
    · obtain rfl : k = 4 := by omega
      have d1 : decide ((4 : Nat) < 4) = false := decide_eq_false (by omega)
      have La4 := La3.out.on hF.out.bel
      have Lx4 := Lx2.out.on hF.out.bel
      have hs1 := same_yes La4 Lx4 rfl
      have HBW := Lib.hid (hF.out.bel)
      clear La4 Lx4
      go_wp2_with fail
      refine hs1.mono ?_
      rintro e w1 ⟨rfl, hb1⟩
      have HB1 := Lib.hid (HBW.out.trans (hb1.mono HBW.out.size))
      clear hb1
      go_wp2_with fail
      refine (same_yes (Lb3.out.on HB1.out) (Ly.out.on HB1.out) rfl).mono ?_
      rintro e w2 ⟨rfl, hb2⟩
      have HB2 := Lib.hid (HB1.out.trans (hb2.mono HB1.out.size))
      clear hb2
      go_wp2_with fail
      refine (works_any _).mono ?_
      rintro e w5 ⟨rfl, hb5⟩
      have HB5 := Lib.hid (HB2.out.trans (hb5.mono HB2.out.size))
      clear hb5
      go_wp2
      go_ret
      exact ⟨rfl, HBY.out.trans (HB5.out.mono HBY.out.size)⟩

end Go.Proofs.Ytkmnhlcjeebejaa
