/-
  hostlerref08.Seal: the document's own answer for a sealed block.
-/
import Derived.Deep.RegionHeld3
import Derived.Test.YtblclinfcdalaaaDoorAsCols
namespace Go.Proofs.YtblclinfcdalaaaDoor
open Go.RowKit
set_option linter.unusedVariables false

/-- A block whose first cells read as bytes. -/
def Pr (w : World) (g : Nat) (l : List UInt8) : Prop := ∃ cur : List Value, Wh w g 5 cur.toArray ∧ cur.take l.length = l.map cell8
theorem Pr.lt {w : World} {g : Nat} {l : List UInt8} (h : Pr w g l) : g < w.heap.size := by obtain ⟨cur, h1, _⟩ := h; exact h1.lt
theorem Pr.cell {w : World} {g : Nat} {l : List UInt8} (h : Pr w g l) {j : Nat} (hj : j < l.length) : w.cell? ⟨g, j, none⟩ = some (.int .u8 ((l.getD j 0).toNat : Int)) := by
  obtain ⟨cur, h1, h2⟩ := h
  rw [h1.cell, List.getElem?_toArray]
  have e : cur[j]? = (cur.take l.length)[j]? := by rw [List.getElem?_take_of_lt hj]
  rw [e, h2, List.getElem?_map]
  simp [List.getD, hj, cell8]
theorem Pr.frozen {w : World} {g : Nat} {l : List UInt8} (h : Pr w g l) (j : Nat) : w.frozen? ⟨g, j, none⟩ = false := by obtain ⟨cur, h1, _⟩ := h; exact h1.frozen j
theorem Pr.put {w : World} {g : Nat} {l : List UInt8} (h : Pr w g l) (j : Nat) (x : UInt8) : Pr (w.setCell ⟨g, j, none⟩ (.int .u8 (x.toNat : Int))) g (l.set j x) := by
  obtain ⟨cur, h1, h2⟩ := h
  refine ⟨cur.set j (.int .u8 (x.toNat : Int)), ?_, ?_⟩
  · have := h1.put j (.int .u8 (x.toNat : Int))
    rwa [List.setIfInBounds_toArray] at this
  · rw [List.length_set, List.take_set, h2, List.map_set]
    rfl
theorem Pr.grown {w w' : World} {g : Nat} {row : Option Nat} {l : List UInt8} (h : Pr w g l) (hb : w.grownBy w' row) (hg : some g ≠ row) : Pr w' g l := by obtain ⟨cur, h1, h2⟩ := h; exact ⟨cur, h1.grown hb hg, h2⟩
theorem Pr.below {w w' : World} {g B : Nat} {l : List UInt8} (h : Pr w g l) (hb : Below B w w') (hg : g < B) : Pr w' g l := by obtain ⟨cur, h1, h2⟩ := h; exact ⟨cur, h1.below hb hg, h2⟩
theorem Pr.drewN {w : World} {g : Nat} {l : List UInt8} (h : Pr w g l) (n : Nat) : Pr (w.drewN n) g l := by obtain ⟨cur, h1, h2⟩ := h; exact ⟨cur, h1.drewN n, h2⟩
theorem Pr.of_own {w : World} {base g n cap : Nat} {l : List UInt8} (h : w.ownsRow base 5 1 (.slice (some ⟨g, 0, none⟩) n cap) n (l.map cell8)) : Pr w g l := by
  rcases h.2 with ⟨hv, _⟩ | ⟨g', cap', cur, hv, _, hw, hn, _, hs, ht⟩
  · cases hv
  · simp only [Value.slice.injEq, Option.some.injEq, Addr.mk.injEq, and_true] at hv
    obtain ⟨rfl, _, rfl⟩ := hv
    have hl : l.length = n := by have := h.1; simpa using this
    exact ⟨cur.toList, hw, by rw [hl]; simpa using ht⟩
theorem Pr.of_wh {w : World} {g : Nat} {l : List UInt8} (h : Wh w g 5 (aRow l)) : Pr w g l := ⟨l.map cell8, h, by rw [List.take_of_length_le (by simp)]⟩
theorem Pr.sl {w : World} {g : Nat} {l : List UInt8} (h : Pr w g l) : Sl w w.heap.size (some ⟨g, 0, none⟩) l := by
  intro _
  refine ⟨g, 0, rfl, h.lt, fun i v hv => ?_⟩
  rw [Nat.zero_add]
  have hi : i < l.length := by have := (List.getElem?_eq_some_iff.1 hv).1; simpa using this
  rw [h.cell hi, ← hv]
  simp [List.getD, hi, cell8]

theorem getD_some {m : List UInt8} {k : Nat} (h : k < m.length) : m[k]? = some (m.getD k 0) := by simp [List.getD, h]
/-- A block's state behind r rounds, the last one too. -/
def stL (ks : List (List UInt8)) (b : List UInt8) (r : Nat) : List UInt8 := if r < 10 then rdS ks b r else seL ks b
/-- The document's own moved rows: columns first. -/
def rmN (s t : List UInt8) (c : Nat) : Nat → List UInt8
  | 0 => t
  | r + 1 => (rmN s t c r).set (4 * c + r) (sB (s.getD (4 * ((c + r) % 4) + r) 0))
def rmC (s : List UInt8) : Nat → List UInt8
  | 0 => List.replicate 16 0
  | c + 1 => rmN s (rmC s c) c 4
theorem rmN_len (s t : List UInt8) (c r : Nat) : (rmN s t c r).length = t.length := by
  induction r with
  | zero => rfl
  | succ r ih => simp [rmN, ih]
theorem rmC_len (s : List UInt8) (c : Nat) : (rmC s c).length = 16 := by
  induction c with
  | zero => rfl
  | succ c ih => rw [rmC, rmN_len, ih]
/-- Two rows' sum, laid over a third one. -/
def faN (s t m : List UInt8) : Nat → List UInt8
  | 0 => s
  | k + 1 => (faN s t m k).set k (t.getD k 0 ^^^ m.getD k 0)
theorem faN_len (s t m : List UInt8) (k : Nat) : (faN s t m k).length = s.length := by
  induction k with
  | zero => rfl
  | succ k ih => simp [faN, ih]
theorem rmC16 (x0 x1 x2 x3 x4 x5 x6 x7 x8 x9 x10 x11 x12 x13 x14 x15 : UInt8) : rmC [x0, x1, x2, x3, x4, x5, x6, x7, x8, x9, x10, x11, x12, x13, x14, x15] 4 = [sB x0, sB x5, sB x10, sB x15, sB x4, sB x9, sB x14, sB x3, sB x8, sB x13, sB x2, sB x7, sB x12, sB x1, sB x6, sB x11] := by kernel_rfl
theorem rmC_mv {l : List UInt8} (h : l.length = 16) : rmC l 4 = mvL l := by
  obtain ⟨x0, x1, x2, x3, x4, x5, x6, x7, x8, x9, x10, x11, x12, x13, x14, x15, rfl⟩ := list16 h
  rw [rmC16, mvL16]
theorem faN16 (y0 y1 y2 y3 y4 y5 y6 y7 y8 y9 y10 y11 y12 y13 y14 y15 x0 x1 x2 x3 x4 x5 x6 x7 x8 x9 x10 x11 x12 x13 x14 x15 z0 z1 z2 z3 z4 z5 z6 z7 z8 z9 z10 z11 z12 z13 z14 z15 : UInt8) : faN [y0, y1, y2, y3, y4, y5, y6, y7, y8, y9, y10, y11, y12, y13, y14, y15] [x0, x1, x2, x3, x4, x5, x6, x7, x8, x9, x10, x11, x12, x13, x14, x15] [z0, z1, z2, z3, z4, z5, z6, z7, z8, z9, z10, z11, z12, z13, z14, z15] 16 = [x0 ^^^ z0, x1 ^^^ z1, x2 ^^^ z2, x3 ^^^ z3, x4 ^^^ z4, x5 ^^^ z5, x6 ^^^ z6, x7 ^^^ z7, x8 ^^^ z8, x9 ^^^ z9, x10 ^^^ z10, x11 ^^^ z11, x12 ^^^ z12, x13 ^^^ z13, x14 ^^^ z14, x15 ^^^ z15] := by kernel_rfl
theorem faN_add {s l m : List UInt8} (hs : s.length = 16) (hl : l.length = 16) (hm : m.length = 16) : faN s l m 16 = addL l m := by
  obtain ⟨y0, y1, y2, y3, y4, y5, y6, y7, y8, y9, y10, y11, y12, y13, y14, y15, rfl⟩ := list16 hs
  obtain ⟨x0, x1, x2, x3, x4, x5, x6, x7, x8, x9, x10, x11, x12, x13, x14, x15, rfl⟩ := list16 hl
  obtain ⟨z0, z1, z2, z3, z4, z5, z6, z7, z8, z9, z10, z11, z12, z13, z14, z15, rfl⟩ := list16 hm
  rw [faN16, addL16]
/-- What the columns become, in the document's own words. -/
theorem rx0 (a b c d : UInt8) : tm 2 a ^^^ tm 3 b ^^^ c ^^^ d = mxB a b c d := by
  rw [tm_2, tm_3, mxB, tw_xor]
  simp only [UInt8.xor_assoc]
theorem rx1 (a b c d : UInt8) : a ^^^ tm 2 b ^^^ tm 3 c ^^^ d = mxB b c d a := by
  rw [← rx0]
  ac_rfl
theorem rx2 (a b c d : UInt8) : a ^^^ b ^^^ tm 2 c ^^^ tm 3 d = mxB c d a b := by
  rw [← rx0]
  ac_rfl
theorem rx3 (a b c d : UInt8) : tm 3 a ^^^ b ^^^ c ^^^ tm 2 d = mxB d a b c := by
  rw [← rx0]
  ac_rfl

theorem times_2 (x : UInt8) (w : World) : Calls Tryd.prog 114 #[.int .u8 2, .int .u8 (x.toNat : Int)] w fun e w' => e = .returned (.int .u8 ((tm 2 x).toNat : Int)) ∧ w = w' := times_any 2 x w
theorem times_3 (x : UInt8) (w : World) : Calls Tryd.prog 114 #[.int .u8 3, .int .u8 (x.toNat : Int)] w fun e w' => e = .returned (.int .u8 ((tm 3 x).toNat : Int)) ∧ w = w' := times_any 3 x w

theorem Sv.young {w : World} {B lo b off : Nat} {xs : List Value} (h : Sv w B (some ⟨b, off, none⟩) xs) (hlo : lo ≤ b) (hB : B ≤ w.heap.size := by exact Nat.le_refl _) : Sy w lo (some ⟨b, off, none⟩) xs := by
  intro hn
  obtain ⟨b', off', e, hlt, hc⟩ := h hn
  simp only [Option.some.injEq, Addr.mk.injEq, and_true] at e
  obtain ⟨rfl, rfl⟩ := e
  exact ⟨b, off, rfl, hlo, Nat.lt_of_lt_of_le hlt hB, hc⟩

set_option maxRecDepth 100000 in
set_option maxHeartbeats 1600000 in
theorem rseal_young (ks : List (List UInt8)) (l : List UInt8) (Ab Aw Al : Option Addr) (cb cw cl B : Nat) (w : World) (hB : B ≤ w.heap.size) (hk : B11 ks) (hl : l.length = 16) (hsb : Sl w B Ab oT) (hsw : Sl w B Aw ks.flatten) (hsl : Sl w B Al l) :
    Calls Tryd.prog 119 #[.slice Ab 256 cb, .slice Aw 176 cw, .slice Al 16 cl] w fun e w' => ∃ A c, e = .returned (.slice A 16 c) ∧ Sy w' w.heap.size A ((seL ks l).map cell8) ∧ Below w.heap.size w w' := by
  obtain ⟨i0, hi0, hz0, hz1, hz2⟩ := info_parts info8A
  obtain ⟨bb, bo, rfl, hbB, hbc⟩ := Sl.at_ hsb (by rw [oT_len]; omega)
  obtain ⟨wb, wo, rfl, hwB, hwc⟩ := Sl.at_ hsw (by rw [hk.flat]; omega)
  have HBC := Deep.mk hbc
  have HWC := Deep.mk hwc
  have HK := Deep.mk hk
  have HL := Deep.mk hl
  have HSL := Lib.hid hsl
  clear hsb hsw hsl hbc hwc hk hl
  go_enter Tryd.func119, Tryd.ntmps119
  go_upto_region 2 with (first
    | (at_builtin; refine wpList_append_sv _ rfl (.tmp 19) (.tmp 20) _ rfl w.heap.size 5 i0 _ 1 Tryd.underlying23 hi0 hz0 hz1 hz2 rfl (.slice (some ⟨w.heap.size, 0, none⟩) 0 0) 0 [] rfl (World.ownsRow_made w #[] 0 (Nat.le_refl _) (Nat.zero_le _) rfl) B Al 16 cl (l.map cell8) rfl (HSL.out.keep (Nat.le_refl _) (fun p hp => ((Below.refl w.heap.size w).alloc (Nat.le_refl _) _).cell (Nat.lt_of_lt_of_le hp hB))) (by rw [List.length_map, HL.out]) (cell8_one _) (by unfold maxLen; omega) (by omega) (by simp) ?_; intro v1 w1 hown1 hg1 _; have HO1 := Lib.hid hown1; have HB1 := Lib.hid (((Below.refl w.heap.size w).alloc (Nat.le_refl _) _).grown hg1 (by simp) (fun q hq => by simp [Value.ownBlock] at hq; omega)); clear hown1 hg1))
  rw [Nat.zero_add, List.nil_append] at HO1
  obtain ⟨sb, sc, rfl, hsw, hsl, hsc, hsx, _⟩ := own_at HO1.out (by omega)
  unfold maxLen at hsx
  have HP1 := Lib.hid (Pr.of_own HO1.out)
  clear HO1 HSL
  have HWX : Hid (∀ wx, Below w.heap.size w wx → ∀ r k, r < 11 → k < 16 → wx.cell? ⟨wb, wo + (16 * r + k), none⟩ = some (.int .u8 (((ks.getD r []).getD k 0).toNat : Int))) := Lib.hid (fun wx hx r k hr hk => by
    rw [hx.cell (p := ⟨wb, wo + (16 * r + k), none⟩) (by show wb < w.heap.size; omega)]
    refine HWC.out _ _ ?_
    rw [flat_get ks r k HK.out.2 (by rw [HK.out.1]; exact hr) hk]
    exact getD_some (by rw [HK.out.at_ hr]; exact hk))
  have HBX : Hid (∀ wx, Below w.heap.size w wx → ∀ x : UInt8, wx.cell? ⟨bb, bo + x.toNat, none⟩ = some (.int .u8 ((sB x).toNat : Int))) := Lib.hid (fun wx hx x => by
    rw [hx.cell (p := ⟨bb, bo + x.toNat, none⟩) (by show bb < w.heap.size; omega)]
    refine HBC.out x.toNat (sB x) ?_
    have h2 : x.toNat < oT.length := by rw [oT_len]; exact x.toNat_lt
    simp [sB, List.getD, h2])
  clear HWC HBC
  go_wp2
  go_loopw [8] (fun i wr => ∃ k : Nat, k ≤ 16 ∧ i = .int .i64 (k : Int) ∧ Hid (Pr wr sb (addN l (ks.getD 0 []) k)) ∧ Hid (Below w.heap.size w wr)) (fun i _ => 16 - (intOf i).toNat)
  case atStart => exact ⟨0, by omega, rfl, HP1, HB1⟩
  case round =>
    obtain ⟨k, hk, rfl, HW, HB⟩ := hrel
    clear HP1 HB1
    have hln : (addN l (ks.getD 0 []) k).length = 16 := by rw [addN_len, HL.out]
    by_cases hlt : k < 16
    · have kw := HWX.out wr HB.out 0 k (by omega) hlt
      rw [show 16 * 0 + k = k by omega] at kw
      have kn := HW.out.cell (j := k) (by omega)
      have fn := HW.out.frozen k
      generalize hx : (addN l (ks.getD 0 []) k).getD k 0 = x at *
      generalize hy : (ks.getD 0 []).getD k 0 = y at *
      have HX := Deep.mk hx
      have HY := Deep.mk hy
      have hk16 : (k : Int) < 16 := by omega
      have hk176 : (k : Int) < 176 := by omega
      have hne : ¬ sb = wb := by omega
      clear hx hy hln
      go_wp2_with fail
      go_region_law (fail)
      all_goals
        clear kw kn fn hk16 hk176
        rw [b_xor]
        have HW3 := Lib.hid ((HW.out.put k (x ^^^ y)).drewN 1)
        have HB3 := Lib.hid (below_drewN (below_grownA HB.out (grown_set wr sb k (.int .u8 ((x ^^^ y).toNat : Int))) hsw HB.out.size) 1)
        clear HW HB
        change Exit.inBlock 1 _ _ _ ((wr.setCell ⟨sb, k, none⟩ (.int .u8 ((x ^^^ y).toNat : Int))).drewN 1)
        generalize (wr.setCell ⟨sb, k, none⟩ (.int .u8 ((x ^^^ y).toNat : Int))).drewN 1 = w5 at *
        go_wp2
        have HF : Hid (Pr w5 sb (addN l (ks.getD 0 []) (k + 1))) := by
          rw [addN, HX.out, HY.out]
          exact HW3
        go_roundw
        case rel => exact ⟨k + 1, by omega, by go_num, HF, HB3⟩
        case measure => simp [intOf]; omega
    · have HW16 : Hid (Pr wr sb (stL ks l 0)) := by
        have h := HW.out
        rw [show k = 16 by omega] at h
        exact Lib.hid h
      have hkd : decide ((k : Int) < 16) = false := by rw [decide_eq_false_iff_not]; omega
      clear HW hln hlt hk
      go_wp2
      generalize wr = w3 at *
      go_loopw [9, 10, 11, 12, 13, 14, 15, 16, 17, 18] (fun vn _ _ _ _ _ _ _ _ _ wr => ∃ r : Nat, r ≤ 10 ∧ vn = .int .i64 ((r + 1 : Nat) : Int) ∧ Hid (Pr wr sb (stL ks l r)) ∧ Hid (Below w.heap.size w wr)) (fun vn _ _ _ _ _ _ _ _ _ _ => 11 - (intOf vn).toNat)
      case atStart => exact ⟨0, by omega, rfl, HW16, HB⟩
      case round =>
        obtain ⟨r, hr, rfl, HS, HBr⟩ := hrel
        clear HW16 HB hkd
        obtain ⟨n, hn⟩ : ∃ n, n = r + 1 := ⟨_, rfl⟩
        rw [← hn]
        by_cases hrl : r < 10
        · obtain ⟨s, hs⟩ : ∃ s, s = stL ks l r := ⟨_, rfl⟩
          rw [← hs] at HS
          have hs16 : s.length = 16 := by rw [hs, stL, if_pos hrl]; exact rdS_len ks HL.out r
          have HSD : Deep (s = rdS ks l r) := ⟨by rw [hs, stL, if_pos hrl]⟩
          have HS16 := Deep.mk hs16
          have HN := Deep.mk hn
          have hn11 : (n : Int) < 11 := by omega
          have hn1 : 1 ≤ n := by omega
          have hn10 : n ≤ 10 := by omega
          clear hs hs16 hn
          go_upto_region 10 with (at_make; (refine wpList_make_mn _ rfl _ _ _ rfl 5 i0 (.int .u8 0) Tryd.underlying23 hi0 hz0 hz1 rfl _ _ _ _ 16 16 rfl rfl rfl rfl (by omega) (by rw [hz2]; omega) (by omega) ?_))
          change Code.wp _ _ _ _ (wr.alloc (.cells (aRow (List.replicate 16 0)) 5))
          have hba : Below wr.heap.size wr (wr.alloc (.cells (aRow (List.replicate 16 0)) 5)) := (Below.refl _ _).alloc (Nat.le_refl _) _
          have hxa : Wh (wr.alloc (.cells (aRow (List.replicate 16 0)) 5)) wr.heap.size 5 (aRow (List.replicate 16 0)) := Wh.new _ _ _
          obtain ⟨tb, htb⟩ : ∃ tb, tb = wr.heap.size := ⟨_, rfl⟩
          rw [← htb] at hxa ⊢
          have hstb : sb < tb := by rw [htb]; exact HS.out.lt
          have hwtb : w.heap.size ≤ tb := by rw [htb]; exact HBr.out.size
          have HSA := Lib.hid (HS.out.below hba HS.out.lt)
          have HTA : Hid (Pr (wr.alloc (.cells (aRow (List.replicate 16 0)) 5)) tb (rmC s 0)) := Lib.hid (Pr.of_wh hxa)
          have HBA := Lib.hid (HBr.out.alloc HBr.out.size (.cells (aRow (List.replicate 16 0)) 5))
          clear hba hxa htb HS HBr
          generalize wr.alloc (.cells (aRow (List.replicate 16 0)) 5) = w4 at *
          go_wp2
          go_loopw [11, 12] (fun vc _ wr => ∃ c : Nat, c ≤ 4 ∧ vc = .int .i64 (c : Int) ∧ Hid (Pr wr tb (rmC s c)) ∧ Hid (Pr wr sb s) ∧ Hid (Below w.heap.size w wr)) (fun vc _ _ => 4 - (intOf vc).toNat)
          case atStart => exact ⟨0, by omega, rfl, HTA, HSA, HBA⟩
          case round =>
            obtain ⟨c, hc, rfl, HT, HS, HB⟩ := hrel
            clear HTA HSA HBA
            by_cases hcl : c < 4
            · go_wp2
              generalize wr = w5 at *
              go_loopw [12] (fun vr wr => ∃ q : Nat, q ≤ 4 ∧ vr = .int .i64 (q : Int) ∧ Hid (Pr wr tb (rmN s (rmC s c) c q)) ∧ Hid (Pr wr sb s) ∧ Hid (Below w.heap.size w wr)) (fun vr _ => 4 - (intOf vr).toNat)
              case atStart => exact ⟨0, by omega, rfl, HT, HS, HB⟩
              case round =>
                obtain ⟨q, hq, rfl, HT2, HS2, HB2⟩ := hrel
                clear HT HS HB
                by_cases hql : q < 4
                · obtain ⟨i, hi⟩ : ∃ i, i = (c + q) % 4 := ⟨_, rfl⟩
                  have hi4 : i < 4 := by omega
                  have hni : ((c : Int) + (q : Int)) % 4 = (i : Int) := by omega
                  obtain ⟨u, hu⟩ : ∃ u, u = 4 * i + q := ⟨_, rfl⟩
                  obtain ⟨v, hv⟩ : ∃ v, v = 4 * c + q := ⟨_, rfl⟩
                  have hui : 4 * (i : Int) + (q : Int) = (u : Int) := by omega
                  have hvi : 4 * (c : Int) + (q : Int) = (v : Int) := by omega
                  have hu16 : u < 16 := by omega
                  have hv16 : v < 16 := by omega
                  have ks1 := HS2.out.cell (j := u) (by rw [HS16.out]; exact hu16)
                  have kt := HT2.out.cell (j := v) (by rw [rmN_len, rmC_len]; exact hv16)
                  have ft := HT2.out.frozen v
                  have kb := HBX.out wr HB2.out (s.getD u 0)
                  generalize hx : s.getD u 0 = x at *
                  generalize (rmN s (rmC s c) c q).getD v 0 = y at *
                  have HX := Deep.mk hx
                  have HI := Deep.mk hi
                  have HU := Deep.mk hu
                  have HV := Deep.mk hv
                  have hx8 := x.toNat_lt
                  clear hx hi hu hv
                  go_wp2
                  refine ⟨⟨q + 1, by omega, rfl, ?_, Lib.hid (HS2.out.grown (grown_set wr tb v (.int .u8 ((sB x).toNat : Int))) (by intro e; have := Option.some.inj e; omega)), Lib.hid (below_grownA HB2.out (grown_set wr tb v (.int .u8 ((sB x).toNat : Int))) hwtb HB2.out.size)⟩, by simp [intOf]; omega⟩
                  rw [rmN, ← HI.out, ← HU.out, HX.out, ← HV.out]
                  exact Lib.hid (HT2.out.put v (sB x))
                · have hqd : decide ((q : Int) < 4) = false := by rw [decide_eq_false_iff_not]; omega
                  have HTF : Hid (Pr wr tb (rmC s (c + 1))) := by
                    have h := HT2.out
                    rw [show q = 4 by omega] at h
                    exact Lib.hid h
                  clear HT2 hql hq
                  go_wp2
                  refine ⟨⟨c + 1, by omega, rfl, HTF, HS2, HB2⟩, by simp [intOf]; omega⟩
            · have HTM : Hid (Pr wr tb (mxN (mvL s) 0)) := by
                have h := HT.out
                rw [show c = 4 by omega, rmC_mv HS16.out] at h
                exact Lib.hid h
              have hcd : decide ((c : Int) < 4) = false := by rw [decide_eq_false_iff_not]; omega
              clear HT hcl hc
              go_wp2
              generalize wr = w5 at *
              clear hcd
              go_loopw [13, 14, 15, 16, 17] (fun vc _ _ _ _ wr => ∃ c : Nat, c ≤ 4 ∧ vc = .int .i64 (c : Int) ∧ (r = 9 → c = 0) ∧ Hid (Pr wr tb (mxN (mvL s) c)) ∧ Hid (Pr wr sb s) ∧ Hid (Below w.heap.size w wr)) (fun vc _ _ _ _ _ => 4 - (intOf vc).toNat)
              case atStart => exact ⟨0, by omega, rfl, fun _ => rfl, HTM, HS, HB⟩
              case round =>
                obtain ⟨c, hc, rfl, hr9, HT5, HS5, HB5⟩ := hrel
                clear HTM HS HB
                generalize wr = w6 at *
                obtain ⟨X, hX⟩ : ∃ X, X = decide (c < 4 ∧ r < 9) := ⟨_, rfl⟩
                have HXD := Deep.mk hX
                have HR9 := Deep.mk hr9
                clear hX hr9
                go_upto_region 18 with (fail)
                go_cut [75] (fun v wx => v = .bool X ∧ wx = w6)
                case first =>
                  by_cases h1 : c < 4
                  · by_cases h2 : r < 9
                    · have hn9 : (n : Int) < 10 := by have := HN.out; omega
                      go_wp2_with fail
                      go_meet
                      exact ⟨by rw [HXD.out, decide_eq_true ⟨h1, h2⟩], rfl⟩
                    · have hn9 : decide ((n : Int) < 10) = false := by rw [decide_eq_false_iff_not]; have := HN.out; omega
                      go_wp2_with fail
                      go_meet
                      exact ⟨by rw [HXD.out, decide_eq_false (fun h => h2 h.2)], rfl⟩
                  · have hc4 : decide ((c : Int) < 4) = false := by rw [decide_eq_false_iff_not]; omega
                    go_wp2_with fail
                    go_meet
                    exact ⟨by rw [HXD.out, decide_eq_false (fun h => h1 h.1)], rfl⟩
                case rest =>
                  obtain ⟨rfl, hwc⟩ := hcut
                  subst hwc
                  generalize wc = w6 at *
                  cases X
                  · have hx := of_decide_eq_false HXD.out.symm
                    obtain ⟨u, hu⟩ : ∃ u, u = mxN (mvL s) c := ⟨_, rfl⟩
                    rw [← hu] at HT5
                    have hu16 : u.length = 16 := by rw [hu, mxN_len]; exact mvL_len s
                    obtain ⟨x, hx0⟩ : ∃ x, x = ks.getD n [] := ⟨_, rfl⟩
                    have hx16 : x.length = 16 := by rw [hx0]; exact HK.out.at_ (by omega)
                    have hfin : addL u x = stL ks l (r + 1) := by
                      by_cases h9 : r < 9
                      · rw [hu, show c = 4 by omega, HSD.out, hx0, HN.out, stL, if_pos (by omega)]
                        rfl
                      · have e9 : r = 9 := by omega
                        rw [hu, HR9.out e9, HSD.out, hx0, HN.out, stL, if_neg (by omega), e9]
                        rfl
                    have HFIN := Deep.mk hfin
                    have HU16 := Deep.mk hu16
                    have HX16 := Deep.mk hx16
                    have HX0 := Deep.mk hx0
                    clear hx hu hu16 hx0 hx16 hfin HXD HR9
                    go_wp2
                    go_loopw [18] (fun vi wr => ∃ k : Nat, k ≤ 16 ∧ vi = .int .i64 (k : Int) ∧ Hid (Pr wr sb (faN s u x k)) ∧ Hid (Pr wr tb u) ∧ Hid (Below w.heap.size w wr)) (fun vi _ => 16 - (intOf vi).toNat)
                    case atStart => exact ⟨0, by omega, rfl, HS5, HT5, HB5⟩
                    case round =>
                      obtain ⟨k, hk, rfl, HS7, HT7, HB7⟩ := hrel
                      clear HS5 HT5 HB5
                      have hln : (faN s u x k).length = 16 := by rw [faN_len, HS16.out]
                      by_cases hlt : k < 16
                      · obtain ⟨q, hq⟩ : ∃ q, q = 16 * n + k := ⟨_, rfl⟩
                        have hq176 : q < 176 := by omega
                        have kw := HWX.out wr HB7.out n k (by omega) hlt
                        rw [← hq, ← HX0.out] at kw
                        have kt := HT7.out.cell (j := k) (by rw [HU16.out]; exact hlt)
                        have ksk := HS7.out.cell (j := k) (by omega)
                        have fs := HS7.out.frozen k
                        generalize hy : u.getD k 0 = y at *
                        generalize hz : x.getD k 0 = z at *
                        generalize (faN s u x k).getD k 0 = y0 at *
                        have HY := Deep.mk hy
                        have HZ := Deep.mk hz
                        have hk16 : (k : Int) < 16 := by omega
                        have hqi : (q : Int) < 176 := by omega
                        obtain ⟨m, hm⟩ : ∃ m, m = 16 * n := ⟨_, rfl⟩
                        have e1 : IntKind.i64.wrap (16 * (n : Int)) = (m : Int) := by
                          rw [show 16 * (n : Int) = (m : Int) by omega]
                          exact IntWalk.i64_in _ (by omega)
                        have e2 : IntKind.i64.wrap ((m : Int) + (k : Int)) = (q : Int) := by
                          rw [show (m : Int) + (k : Int) = (q : Int) by omega]
                          exact IntWalk.i64_in _ (by omega)
                        clear hy hz hln hq hm
                        go_wp2_with fail
                        go_region_law (fail)
                        all_goals
                          clear kw kt ksk fs hk16 hqi e1 e2
                          rw [b_xor]
                          have HS8 := Lib.hid ((HS7.out.put k (y ^^^ z)).drewN 1)
                          have HT8 := Lib.hid ((HT7.out.grown (grown_set wr sb k (.int .u8 ((y ^^^ z).toNat : Int))) (by intro e; have := Option.some.inj e; omega)).drewN 1)
                          have HB8 := Lib.hid (below_drewN (below_grownA HB7.out (grown_set wr sb k (.int .u8 ((y ^^^ z).toNat : Int))) hsw HB7.out.size) 1)
                          clear HS7 HT7 HB7
                          change Exit.inBlock 11 _ _ _ ((wr.setCell ⟨sb, k, none⟩ (.int .u8 ((y ^^^ z).toNat : Int))).drewN 1)
                          generalize (wr.setCell ⟨sb, k, none⟩ (.int .u8 ((y ^^^ z).toNat : Int))).drewN 1 = w9 at *
                          go_wp2
                          have HF : Hid (Pr w9 sb (faN s u x (k + 1))) := by
                            rw [faN, HY.out, HZ.out]
                            exact HS8
                          go_roundw
                          case rel => exact ⟨k + 1, by omega, by go_num, HF, HT8, HB8⟩
                          case measure => simp [intOf]; omega
                      · have hkd : decide ((k : Int) < 16) = false := by rw [decide_eq_false_iff_not]; omega
                        have HSF : Hid (Pr wr sb (stL ks l (r + 1))) := by
                          have h := HS7.out
                          rw [show k = 16 by omega, faN_add HS16.out HU16.out HX16.out, HFIN.out] at h
                          exact Lib.hid h
                        have hni : (n : Int) + 1 = ((r + 1 + 1 : Nat) : Int) := by have := HN.out; omega
                        have HNI := Deep.mk hni
                        clear HS7 HT7 hln hlt hk hni
                        go_wp2
                        go_roundw
                        case rel => exact ⟨r + 1, by omega, by rw [HNI.out], HSF, HB7⟩
                        case measure => have := HN.out; simp [intOf]; omega
                  · obtain ⟨hcl, hr9⟩ := of_decide_eq_true HXD.out.symm
                    obtain ⟨G, hG⟩ : ∃ G, G = mxN (mvL s) c := ⟨_, rfl⟩
                    rw [← hG] at HT5
                    have hGl : G.length = 16 := by rw [hG, mxN_len]; exact mvL_len s
                    obtain ⟨j, hj⟩ : ∃ j, j = 4 * c := ⟨_, rfl⟩
                    have hj12 : j ≤ 12 := by omega
                    have hcj : 4 * (c : Int) = (j : Int) := by omega
                    have k0 := HT5.out.cell (j := j) (by omega)
                    have k1 := HT5.out.cell (j := j + 1) (by omega)
                    have k2 := HT5.out.cell (j := j + 2) (by omega)
                    have k3 := HT5.out.cell (j := j + 3) (by omega)
                    generalize hx0 : G.getD j 0 = x0 at *
                    generalize hx1 : G.getD (j + 1) 0 = x1 at *
                    generalize hx2 : G.getD (j + 2) 0 = x2 at *
                    generalize hx3 : G.getD (j + 3) 0 = x3 at *
                    have X0 := Deep.mk hx0
                    have X1 := Deep.mk hx1
                    have X2 := Deep.mk hx2
                    have X3 := Deep.mk hx3
                    have HGD := Deep.mk hG
                    have HGL := Deep.mk hGl
                    have HJ := Deep.mk hj
                    have HX0 : Deep (bits .xor .u8 (bits .xor .u8 (bits .xor .u8 ((tm 2 x0).toNat : Int) ((tm 3 x1).toNat : Int)) (x2.toNat : Int)) (x3.toNat : Int) = ((mxB x0 x1 x2 x3).toNat : Int)) := ⟨by rw [b_xor, b_xor, b_xor, rx0]⟩
                    have HX1 : Deep (bits .xor .u8 (bits .xor .u8 (bits .xor .u8 (x0.toNat : Int) ((tm 2 x1).toNat : Int)) ((tm 3 x2).toNat : Int)) (x3.toNat : Int) = ((mxB x1 x2 x3 x0).toNat : Int)) := ⟨by rw [b_xor, b_xor, b_xor, rx1]⟩
                    have HX2 : Deep (bits .xor .u8 (bits .xor .u8 (bits .xor .u8 (x0.toNat : Int) (x1.toNat : Int)) ((tm 2 x2).toNat : Int)) ((tm 3 x3).toNat : Int) = ((mxB x2 x3 x0 x1).toNat : Int)) := ⟨by rw [b_xor, b_xor, b_xor, rx2]⟩
                    have HX3 : Deep (bits .xor .u8 (bits .xor .u8 (bits .xor .u8 ((tm 3 x0).toNat : Int) (x1.toNat : Int)) (x2.toNat : Int)) ((tm 2 x3).toNat : Int) = ((mxB x3 x0 x1 x2).toNat : Int)) := ⟨by rw [b_xor, b_xor, b_xor, rx3]⟩
                    have b0 := x0.toNat_lt
                    have b1 := x1.toNat_lt
                    have b2 := x2.toNat_lt
                    have b3 := x3.toNat_lt
                    have e0 : IntKind.i64.wrap (4 * (c : Int)) = (j : Int) := by rw [hcj]; exact IntWalk.i64_in _ (by omega)
                    have e1 : IntKind.i64.wrap ((j : Int) + 1) = (j : Int) + 1 := IntWalk.i64_in _ (by omega)
                    have e2 : IntKind.i64.wrap ((j : Int) + 2) = (j : Int) + 2 := IntWalk.i64_in _ (by omega)
                    have e3 : IntKind.i64.wrap ((j : Int) + 3) = (j : Int) + 3 := IntWalk.i64_in _ (by omega)
                    have p1 : (0 : Int) ≤ (j : Int) + 1 := by omega
                    have p2 : (0 : Int) ≤ (j : Int) + 2 := by omega
                    have p3 : (0 : Int) ≤ (j : Int) + 3 := by omega
                    have q0 : (j : Int) < 16 := by omega
                    have q1 : (j : Int) + 1 < 16 := by omega
                    have q2 : (j : Int) + 2 < 16 := by omega
                    have q3 : (j : Int) + 3 < 16 := by omega
                    have n1 : ((j : Int) + 1).toNat = j + 1 := by omega
                    have n2 : ((j : Int) + 2).toNat = j + 2 := by omega
                    have n3 : ((j : Int) + 3).toNat = j + 3 := by omega
                    clear hx0 hx1 hx2 hx3 hG hGl hj
                    go_wp2_with fail
                    go_quiet (fail)
                    clear e0 e1 e2 e3 p1 p2 p3 q0 q1 q2 q3 n1 n2 n3 k0 k1 k2 k3
                    have HT6 := Lib.hid (HT5.out.drewN nq)
                    have HS6 := Lib.hid (HS5.out.drewN nq)
                    have HB6 := Lib.hid (below_drewN HB5.out nq)
                    clear HT5 HS5 HB5
                    generalize w6.drewN nq = w6 at *
                    obtain ⟨u0, c0⟩ : ∃ u, w6.cell? ⟨tb, j, none⟩ = some (.int .u8 ((u : UInt8).toNat : Int)) := ⟨_, HT6.out.cell (j := j) (by rw [HGL.out]; omega)⟩
                    have f0 := HT6.out.frozen j
                    go_upto_region 22 with (first | (go_at_call 114; first | ((with_reducible refine (times_2 _ _).mono ?_); rintro e w1 ⟨rfl, rfl⟩) | ((with_reducible refine (times_3 _ _).mono ?_); rintro e w1 ⟨rfl, rfl⟩)))
                    rw [HX0.out]
                    have HT7 := Lib.hid (HT6.out.put j (mxB x0 x1 x2 x3))
                    have HS7 := Lib.hid (HS6.out.grown (grown_set w6 tb j (.int .u8 ((mxB x0 x1 x2 x3).toNat : Int))) (by intro e; have := Option.some.inj e; omega))
                    have HB7 := Lib.hid (below_grownA HB6.out (grown_set w6 tb j (.int .u8 ((mxB x0 x1 x2 x3).toNat : Int))) hwtb HB6.out.size)
                    change Code.wp _ _ _ _ (w6.setCell ⟨tb, j, none⟩ (.int .u8 ((mxB x0 x1 x2 x3).toNat : Int)))
                    clear HT6 HS6 HB6 c0 f0
                    generalize w6.setCell ⟨tb, j, none⟩ (.int .u8 ((mxB x0 x1 x2 x3).toNat : Int)) = w7 at *
                    obtain ⟨u1, c1⟩ : ∃ u, w7.cell? ⟨tb, j + 1, none⟩ = some (.int .u8 ((u : UInt8).toNat : Int)) := ⟨_, HT7.out.cell (j := (j + 1)) (by simp only [List.length_set]; rw [HGL.out]; omega)⟩
                    have f1 := HT7.out.frozen (j + 1)
                    go_upto_region 23 with (first | (go_at_call 114; first | ((with_reducible refine (times_2 _ _).mono ?_); rintro e w1 ⟨rfl, rfl⟩) | ((with_reducible refine (times_3 _ _).mono ?_); rintro e w1 ⟨rfl, rfl⟩)))
                    rw [HX1.out]
                    have HT8 := Lib.hid (HT7.out.put (j + 1) (mxB x1 x2 x3 x0))
                    have HS8 := Lib.hid (HS7.out.grown (grown_set w7 tb (j + 1) (.int .u8 ((mxB x1 x2 x3 x0).toNat : Int))) (by intro e; have := Option.some.inj e; omega))
                    have HB8 := Lib.hid (below_grownA HB7.out (grown_set w7 tb (j + 1) (.int .u8 ((mxB x1 x2 x3 x0).toNat : Int))) hwtb HB7.out.size)
                    change Code.wp _ _ _ _ (w7.setCell ⟨tb, j + 1, none⟩ (.int .u8 ((mxB x1 x2 x3 x0).toNat : Int)))
                    clear HT7 HS7 HB7 c1 f1
                    generalize w7.setCell ⟨tb, j + 1, none⟩ (.int .u8 ((mxB x1 x2 x3 x0).toNat : Int)) = w8 at *
                    obtain ⟨u2, c2⟩ : ∃ u, w8.cell? ⟨tb, j + 2, none⟩ = some (.int .u8 ((u : UInt8).toNat : Int)) := ⟨_, HT8.out.cell (j := (j + 2)) (by simp only [List.length_set]; rw [HGL.out]; omega)⟩
                    have f2 := HT8.out.frozen (j + 2)
                    go_upto_region 24 with (first | (go_at_call 114; first | ((with_reducible refine (times_2 _ _).mono ?_); rintro e w1 ⟨rfl, rfl⟩) | ((with_reducible refine (times_3 _ _).mono ?_); rintro e w1 ⟨rfl, rfl⟩)))
                    rw [HX2.out]
                    have HT9 := Lib.hid (HT8.out.put (j + 2) (mxB x2 x3 x0 x1))
                    have HS9 := Lib.hid (HS8.out.grown (grown_set w8 tb (j + 2) (.int .u8 ((mxB x2 x3 x0 x1).toNat : Int))) (by intro e; have := Option.some.inj e; omega))
                    have HB9 := Lib.hid (below_grownA HB8.out (grown_set w8 tb (j + 2) (.int .u8 ((mxB x2 x3 x0 x1).toNat : Int))) hwtb HB8.out.size)
                    change Code.wp _ _ _ _ (w8.setCell ⟨tb, j + 2, none⟩ (.int .u8 ((mxB x2 x3 x0 x1).toNat : Int)))
                    clear HT8 HS8 HB8 c2 f2
                    generalize w8.setCell ⟨tb, j + 2, none⟩ (.int .u8 ((mxB x2 x3 x0 x1).toNat : Int)) = w9 at *
                    obtain ⟨u3, c3⟩ : ∃ u, w9.cell? ⟨tb, j + 3, none⟩ = some (.int .u8 ((u : UInt8).toNat : Int)) := ⟨_, HT9.out.cell (j := (j + 3)) (by simp only [List.length_set]; rw [HGL.out]; omega)⟩
                    have f3 := HT9.out.frozen (j + 3)
                    go_wp2_with (first | (go_at_call 114; first | ((with_reducible refine (times_2 _ _).mono ?_); rintro e w1 ⟨rfl, rfl⟩) | ((with_reducible refine (times_3 _ _).mono ?_); rintro e w1 ⟨rfl, rfl⟩)))
                    rw [HX3.out]
                    have HT10 := Lib.hid (HT9.out.put (j + 3) (mxB x3 x0 x1 x2))
                    have HS10 := Lib.hid (HS9.out.grown (grown_set w9 tb (j + 3) (.int .u8 ((mxB x3 x0 x1 x2).toNat : Int))) (by intro e; have := Option.some.inj e; omega))
                    have HB10 := Lib.hid (below_grownA HB9.out (grown_set w9 tb (j + 3) (.int .u8 ((mxB x3 x0 x1 x2).toNat : Int))) hwtb HB9.out.size)
                    refine ⟨⟨c + 1, by omega, rfl, (fun h => by omega), ?_, HS10, HB10⟩, by simp [intOf]; omega⟩
                    have hfin : mxC G j x0 x1 x2 x3 = mxN (mvL s) (c + 1) := by rw [mxN, ← HJ.out, ← HGD.out, X0.out, X1.out, X2.out, X3.out]
                    rw [← hfin]
                    exact HT10
        · have hr10 : r = 10 := by omega
          have hnd : decide ((n : Int) < 11) = false := by rw [decide_eq_false_iff_not]; omega
          have HSF : Hid (Pr wr sb (seL ks l)) := by
            have h := HS.out
            rw [hr10, stL, if_neg (by omega)] at h
            exact Lib.hid h
          clear HS hr10 hrl hr hn
          go_wp2
          go_ret
          exact ⟨some ⟨sb, 0, none⟩, sc, rfl, Sv.young HSF.out.sl hsw, HBr.out⟩
theorem rseal_any (ks : List (List UInt8)) (l : List UInt8) (Ab Aw Al : Option Addr) (cb cw cl B : Nat) (w : World) (hB : B ≤ w.heap.size) (hk : B11 ks) (hl : l.length = 16) (hsb : Sl w B Ab oT) (hsw : Sl w B Aw ks.flatten) (hsl : Sl w B Al l) :
    Calls Tryd.prog 119 #[.slice Ab 256 cb, .slice Aw 176 cw, .slice Al 16 cl] w fun e w' => ∃ A c, e = .returned (.slice A 16 c) ∧ Sl w' w'.heap.size A (seL ks l) ∧ Below w.heap.size w w' := by
  refine (rseal_young ks l Ab Aw Al cb cw cl B w hB hk hl hsb hsw hsl).mono ?_
  rintro e w' ⟨A, c, rfl, h1, h2⟩
  exact ⟨A, c, rfl, h1.sv, h2⟩
end Go.Proofs.YtblclinfcdalaaaDoor
