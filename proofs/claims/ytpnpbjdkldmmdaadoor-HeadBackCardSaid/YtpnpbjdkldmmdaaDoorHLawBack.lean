/-
  The walk through the statement HeadBack where it asks.
-/
import Derived.Test.YtpnpbjdkldmmdaaDoorHLawBack0
import Derived.Test.YtpnpbjdkldmmdaaDoorStep
import Derived.Deep.RegionWith
import Derived.BigQuiet
import Derived.StillTailTactics
namespace Go.Proofs.YtpnpbjdkldmmdaaDoor
open Go.RowKit
set_option linter.unusedVariables false

/-- The slice at A reads as the values xs, and lies in a block from lo up to hi. -/
def Si (w : World) (lo hi : Nat) (A : Option Addr) (xs : List Value) : Prop :=
  xs ≠ [] → ∃ b off, A = some ⟨b, off, none⟩ ∧ lo ≤ b ∧ b < hi ∧ b < w.heap.size ∧ ∀ i v, xs[i]? = some v → w.cell? ⟨b, off + i, none⟩ = some v

theorem Si.grown {w w' : World} {lo hi : Nat} {row : Option Nat} {A : Option Addr} {xs : List Value} (h : Si w lo hi A xs) (hb : w.grownBy w' row) (hq : ∀ q, row = some q → q < lo ∨ hi ≤ q) : Si w' lo hi A xs := by
  intro hn
  obtain ⟨b, off, rfl, h1, h2, hlt, hc⟩ := h hn
  exact ⟨b, off, rfl, h1, h2, Nat.lt_of_lt_of_le hlt hb.size, fun i v hv => (World.cell?_of_block (hb.block b hlt (fun e => by have := hq b e.symm; omega))).trans (hc i v hv)⟩

theorem Si.of_sy {w : World} {lo : Nat} {A : Option Addr} {xs : List Value} (h : Sy w lo A xs) : Si w lo w.heap.size A xs := by
  intro hn
  obtain ⟨b, off, rfl, h1, hlt, hc⟩ := h hn
  exact ⟨b, off, rfl, h1, hlt, hlt, hc⟩

theorem Si.sv {w : World} {lo hi : Nat} {A : Option Addr} {xs : List Value} (h : Si w lo hi A xs) : Sv w w.heap.size A xs := by
  intro hn
  obtain ⟨b, off, rfl, _, _, hlt, hc⟩ := h hn
  exact ⟨b, off, rfl, hlt, hc⟩

theorem own_ptr {w : World} {base : Nat} {e : TypeId} {A : Option Addr} {n c : Nat} {xs : List Value} (h : w.ownsRow base e 1 (.slice A n c) n xs) (hn : 0 < n) : ∃ g, A = some ⟨g, 0, none⟩ ∧ base ≤ g ∧ g < w.heap.size := by
  rcases h.2 with ⟨_, hz⟩ | ⟨g, cap, cur, hv, hb, hg, _⟩
  · omega
  · simp only [Value.slice.injEq] at hv
    exact ⟨g, hv.1, hb, (Array.getElem?_eq_some_iff.1 hg).1⟩

/-- The datagram under way, the head's box, and the number's bytes. -/
structure BQ (w w2 wx : World) (lo hi : Nat) (R : Array Value) (v : Value) (bb : List UInt8) (AN : Option Addr) (NB : List UInt8) : Prop where
  own : wx.ownsRow w2.heap.size 5 1 v bb.length (bb.map cell8)
  bel : Below w.heap.size w wx
  box : Wh wx w.heap.size 25 R
  num : Si wx lo hi AN (NB.map cell8)
  blk : ∀ q, v.ownBlock = some q → q < lo ∨ hi ≤ q
  hi_ : hi ≤ wx.heap.size

theorem BQ.app {w w2 wx wy : World} {lo hi m : Nat} {R : Array Value} {v v' : Value} {bb d : List UInt8} {AN : Option Addr} {NB : List UInt8} (h : BQ w w2 wx lo hi R v bb AN NB) (hw2 : w.heap.size < w2.heap.size)
    (ho : wy.ownsRow w2.heap.size 5 1 v' (bb.length + m) (bb.map cell8 ++ d.map cell8)) (hm : d.length = m) (hg : wx.grownBy wy v.ownBlock) (ha : v'.ownBlock = v.ownBlock ∨ v'.ownBlock = some wx.heap.size) : BQ w w2 wy lo hi R v' (bb ++ d) AN NB := by
  subst hm
  have hlt : ∀ q, v.ownBlock = some q → w.heap.size < q := fun q hq => Nat.lt_of_lt_of_le hw2 (h.own.lt q hq).1
  refine ⟨by rw [List.length_append, List.map_append]; exact ho, h.bel.grown hg h.bel.size (fun q hq => Nat.le_of_lt (hlt q hq)), h.box.grown hg (fun e => Nat.lt_irrefl _ (hlt _ e.symm)), h.num.grown hg h.blk, fun q hq => ?_, Nat.le_trans h.hi_ hg.size⟩
  rcases ha with e | e
  · exact h.blk q (e ▸ hq)
  · rw [e] at hq
    obtain rfl := Option.some.inj hq
    exact .inr h.hi_

theorem BQ.drew {w w2 wx : World} {lo hi : Nat} {R : Array Value} {v : Value} {bb : List UInt8} {AN : Option Addr} {NB : List UInt8} (h : BQ w w2 wx lo hi R v bb AN NB) : BQ w w2 wx.drew lo hi R v bb AN NB :=
  ⟨own_below h.own (Below.refl _ _).drew, h.bel.drew, h.box.below (Below.refl _ _).drew h.box.lt, h.num.grown (row := none) (grown_below (Below.refl _ _).drew) (by simp), h.blk, h.hi_⟩

/-- The first byte turned. -/
theorem BQ.set {w w2 wx : World} {lo hi g n c : Nat} {R : Array Value} {y x : UInt8} {t : List UInt8} {AN : Option Addr} {NB : List UInt8} (h : BQ w w2 wx lo hi R (.slice (some ⟨g, 0, none⟩) n c) (y :: t) AN NB) (hn : n = t.length + 1) (hw2 : w.heap.size < w2.heap.size) (u : Value) (hu : u = cell8 x) :
    BQ w w2 (wx.setCell ⟨g, 0, none⟩ u) lo hi R (.slice (some ⟨g, 0, none⟩) n c) (x :: t) AN NB := by
  subst hu hn
  have hg : w2.heap.size ≤ g := (h.own.lt g rfl).1
  have ho := h.own.stored 0 (cell8 x)
  exact ⟨ho.1, h.bel.setCell (p := ⟨g, 0, none⟩) (show w.heap.size ≤ g by omega) _, h.box.far (p := ⟨g, 0, none⟩) (by simp; omega) _, h.num.grown (grown_set wx g 0 _) (fun q hq => by obtain rfl := Option.some.inj hq; exact h.blk _ rfl), h.blk, by have := h.hi_; simpa [World.setCell] using this⟩

theorem shl_1 (w : World) : Sem.run Tryd.prog (Op.shift BinOp.shl IntKind.u64 1 IntKind.i64 (IntKind.i64.wrap 8)) w = .ok (.int .u64 256) w := rfl
theorem shl_2 (w : World) : Sem.run Tryd.prog (Op.shift BinOp.shl IntKind.u64 1 IntKind.i64 (IntKind.i64.wrap 16)) w = .ok (.int .u64 65536) w := rfl
theorem shl_3 (w : World) : Sem.run Tryd.prog (Op.shift BinOp.shl IntKind.u64 1 IntKind.i64 (IntKind.i64.wrap 24)) w = .ok (.int .u64 16777216) w := rfl
theorem shl_4 (w : World) : Sem.run Tryd.prog (Op.shift BinOp.shl IntKind.u64 1 IntKind.i64 (IntKind.i64.wrap 32)) w = .ok (.int .u64 4294967296) w := rfl

set_option maxRecDepth 10000 in
set_option maxHeartbeats 1600000 in
theorem hback_main (sp k pn a0 y0 mask : Nat) (dst src tok load behind MID : List UInt8) (ph : Bool) (A1 : Option Addr) (c1 : Nat) (A2 : Option Addr) (c2 : Nat) (A3 : Option Addr) (c3 : Nat) (A4 : Option Addr) (c4 : Nat) (A5 : Option Addr) (c5 : Nat) (w : World) (hT : Tab w)
    (hmay : mayB sp dst.length src.length tok.length ph (pn : Int) (k : Int) = true) (hl : load.length ≤ 2000) (hlb : behind.length ≤ 2000) (ht : tok.length ≤ 3000) (h20 : 20 ≤ k + load.length)
    (h1 : Sl w w.heap.size A1 dst) (h2 : Sl w w.heap.size A2 src) (h3 : Sl w w.heap.size A3 tok) (h4 : Sl w w.heap.size A4 load) (h5 : Sl w w.heap.size A5 behind)
    (hHD : headB sp k dst src tok ph pn load.length = UInt8.ofNat y0 :: (MID ++ be pn k)) (hy : y0 < 256) (hmask : mask < 256) (ha0 : a0 = 1 + MID.length) (hmid : MID.length ≤ 3200)
    (hspl : ∀ (z : Nat) (l : List UInt8), z < 256 → (sp ≠ 2 → z / 16 = y0 / 16) → (sp = 2 → z / 32 = y0 / 32) → l = UInt8.ofNat z :: (MID ++ be pn k ++ load ++ if sp = 2 then [] else behind) →
      ∃ t, splitT l dst.length = some t ∧ splitA l dst.length = some a0 ∧ splitP l dst.length = ⟨sp, dst, src, tok⟩ ∧ a0 + k ≤ t ∧ (l.take t).drop (a0 + k) = load ∧ l.drop t = if sp = 2 then [] else behind)
    (hb3 : bits .and .u8 (y0 : Int) 3 = (k : Int) - 1) (hbr : ∀ b, ((sp : Int) == 2) = b → (bits .and .u8 (y0 : Int) (if b then 24 else 12) != 0) = false) (hbp : (bits .and .u8 (y0 : Int) 4 != 0) = ph) :
    Calls Tryd.prog 3 #[.agg (headOf sp dst src tok ph (pn : Int) (k : Int) A1 c1 A2 c2 A3 c3), .slice A4 load.length c4, .slice A5 behind.length c5, .int .u8 (mask : Int)] w fun e w' => e = .returned (.bool true) ∧ Below w.heap.size w w' := by
  obtain ⟨i0, hi0, hz0, hz1, hz2⟩ := info_parts info8
  have hz : (w.alloc (.cells (headOf sp dst src tok ph (pn : Int) (k : Int) A1 c1 A2 c2 A3 c3) 25)).heap.size = w.heap.size + 1 := by simp
  have hb0 : Below w.heap.size w (w.alloc (.cells (headOf sp dst src tok ph (pn : Int) (k : Int) A1 c1 A2 c2 A3 c3) 25)) := (Below.refl _ _).alloc (Nat.le_refl _) _
  have hW0 : Wh (w.alloc (.cells (headOf sp dst src tok ph (pn : Int) (k : Int) A1 c1 A2 c2 A3 c3) 25)) w.heap.size 25 (headOf sp dst src tok ph (pn : Int) (k : Int) A1 c1 A2 c2 A3 c3) := Wh.new _ _ _
  have HM := Lib.hid (fun w => hmay_any sp dst.length src.length tok.length ph A1 c1 A2 c2 A3 c3 (pn : Int) (k : Int) w)
  have HK := Lib.hid (known_any _ (hT.below hb0 hT.lt))
  have HB0 := Lib.hid hb0
  have HW0 := Lib.hid hW0
  have HT := Lib.hid hT
  have H1 := Lib.hid h1
  have H2 := Lib.hid h2
  have H3 := Lib.hid h3
  have H4 := Lib.hid h4
  have H5 := Lib.hid h5
  obtain ⟨f1, f2, f3, f4, f5, f6, f7, f8, f9⟩ := may_facts hmay
  have hk1 : 1 ≤ k := by omega
  have hk4 : k ≤ 4 := by omega
  have HMAY := Lib.hid hmay
  have HSPL := Lib.hid hspl
  have HBR3 := Lib.hid hb3
  have HBRR := Lib.hid hbr
  have HBRP := Lib.hid hbp
  clear hspl hb3 hbr hbp
  rw [hmay] at HM
  have HPUT := Lib.hid (fun (w' : World) (h : Below w.heap.size w w') => hput_ok sp k load.length pn dst src tok ph A1 c1 A2 c2 A3 c3 w' HMAY.out (by omega) ((H1.out.below h).keep h.size (fun _ _ => rfl)) ((H2.out.below h).keep h.size (fun _ _ => rfl)) ((H3.out.below h).keep h.size (fun _ _ => rfl)) ht (HT.out.below h HT.out.lt) f6 (by omega) f1 f2)
  rw [hHD] at HPUT
  have hNB : (be pn k).length = k := be_length _ _
  generalize hnb : be pn k = NB at *
  have HNBE := Lib.hid hnb
  clear hnb
  have hlenHD : (UInt8.ofNat y0 :: (MID ++ NB)).length = a0 + k := by simp [hNB]; omega
  have HNB := Lib.hid hNB
  have HMID := Lib.hid ha0
  clear hb0 hW0 hT hmay h1 h2 h3 h4 h5 f3 f4 hHD hNB
  have ha1 : 1 ≤ a0 := by omega
  have ha2 : a0 ≤ 3201 := by omega
  clear ha0
  unfold headOf headC
  go_enter Tryd.func3, Tryd.ntmps3
  go_wp2_with fail
  refine HK.out.mono ?_
  rintro e w1 ⟨rfl, hb1⟩
  have HB1 := Lib.hid (HB0.out.trans (hb1.mono (by omega)))
  have hW1 := HW0.out.below hb1 (by omega)
  have e0 := hW1.cell 0
  have e1 := hW1.cell 1
  have e2 := hW1.cell 2
  have e3 := hW1.cell 3
  have e4 := hW1.cell 4
  have e5 := hW1.cell 5
  have e6 := hW1.cell 6
  simp only [headC, List.getElem?_toArray, List.getElem?_cons_zero, List.getElem?_cons_succ] at e0 e1 e2 e3 e4 e5 e6
  have HW1 := Lib.hid hW1
  clear hb1 hW1 HK HB0 HW0
  go_wp2_with fail
  refine (HM.out _).mono ?_
  rintro e w2 ⟨rfl, hb2⟩
  have HB2 := Lib.hid (HB1.out.trans (hb2.mono HB1.out.size))
  have hW2 := HW1.out.below hb2 HW1.out.lt
  clear e0 e1 e2 e3 e4 e5 e6
  have e0 := hW2.cell 0
  have e1 := hW2.cell 1
  have e2 := hW2.cell 2
  have e3 := hW2.cell 3
  have e4 := hW2.cell 4
  have e5 := hW2.cell 5
  have e6 := hW2.cell 6
  simp only [headC, List.getElem?_toArray, List.getElem?_cons_zero, List.getElem?_cons_succ] at e0 e1 e2 e3 e4 e5 e6
  have HW2 := Lib.hid hW2
  clear hb2 hW2 HB1 HW1
  have HP2 := Lib.hid (HPUT.out w2 HB2.out)
  clear HPUT HM
  go_wp2_with fail
  refine HP2.out.mono ?_
  rintro e w3 ⟨A6, c6, rfl, hc6, hm6, hown3, hb3⟩
  rw [hlenHD] at hc6 hown3 ⊢
  have HB3 := Lib.hid (HB2.out.trans (hb3.mono HB2.out.size))
  have HW3 := Lib.hid (HW2.out.below hb3 HW2.out.lt)
  have hs2 := HB2.out.size
  have hs3 := hb3.size
  have hbox2 := HW2.out.lt
  have hbox2x : w.heap.size < w2.heap.size := hbox2
  obtain ⟨g6, hA6, hg6, hg6l⟩ := own_ptr hown3 (by omega)
  subst hA6
  have HO3 := Lib.hid hown3
  clear e0 e1 e2 e3 e4 e5 e6 HP2 hb3 hown3 HW2
  have e6 : w3.cell? ⟨w.heap.size, 6, none⟩ = some (.int .i64 (k : Int)) := HW3.out.cell 6
  go_upto_region 9 with fail
  clear e6
  have hcne : ¬ c6 = a0 := by omega
  have hy0 : w3.cell? ⟨g6, 0, none⟩ = some (.int .u8 (y0 : Int)) := by
    have h := HO3.out.cellAt 0 (by omega)
    rw [h, byte_len y0 (by omega)]
    rfl
  have hslN : Sl w3 w3.heap.size (some ⟨g6, a0, none⟩) NB := by
    have h := (Sv.of_own HO3.out).drop a0
    rw [Nat.zero_add, show ((UInt8.ofNat y0 :: (MID ++ NB)).map cell8).drop a0 = NB.map cell8 by
      rw [HMID.out, Nat.add_comm, ← List.map_drop]
      simp] at h
    exact h
  have hboe : Below w3.heap.size w3 (w3.alloc (.cells #[] 5)).drew := ((Below.refl _ _).alloc (Nat.le_refl _) _).drew
  have HSN := Lib.hid ((hslN.keep (Nat.le_refl _) (fun p hp => hboe.cell hp) : Sl (w3.alloc (.cells #[] 5)).drew w3.heap.size (some ⟨g6, a0, none⟩) NB))
  have HOE := Lib.hid (own_below (World.ownsRow_made (base := w3.heap.size) (e := 5) (size := 1) w3 #[] 0 (Nat.le_refl _) (Nat.zero_le _) rfl) (Below.refl _ _).drew)
  have HBOE := Lib.hid hboe
  have hszo : w3.heap.size ≤ (w3.alloc (.cells #[] 5)).drew.heap.size := HBOE.out.size
  clear hslN hboe
  have hi1 : (0 : Int) < ((a0 + k : Nat) : Int) := by omega
  have hi2 : (0 : Int) < (a0 : Int) + (k : Int) := by omega
  have hi3 : (0 : Int) ≤ (a0 : Int) := by omega
  have hi4 : (a0 : Int) ≤ ((a0 + k : Nat) : Int) := by omega
  have hi5 : (a0 : Int) ≤ (a0 : Int) + (k : Int) := by omega
  have hi6 : (0 : Int) ≤ (k : Int) := by omega
  have hi7 : (a0 : Int) ≤ (c6 : Int) := by omega
  have hi8 : ((a0 + k : Nat) : Int) ≤ (c6 : Int) := by omega
  have hi9 : 0 < a0 + k := by omega
  go_region_held3 (fun w' => w'.cell? ⟨g6, 0, none⟩ = some (.int .u8 (y0 : Int))) (go_keep)
    (first
      | (refine step_app_sv rfl (.tmp 64) (.tmp 67) 22 rfl w3.heap.size 5 i0 _ 1 Tryd.underlying22 hi0 hz0 hz1 hz2 rfl (.slice (some ⟨w3.heap.size, 0, none⟩) 0 0) 0 [] rfl HOE.out w3.heap.size (some ⟨g6, a0, none⟩) k (c6 - a0) (NB.map cell8) rfl HSN.out (by rw [List.length_map]; exact HNB.out) (cell8_one NB) (by unfold maxLen; omega) (by omega) hszo ?_; intro v4 w4 hown4 hg4; have HB34 := Lib.hid (HBOE.out.grown hg4 hszo (fun q hq => by obtain rfl := Option.some.inj hq; exact Nat.le_refl _)); have q0 : w4.cell? ⟨g6, 0, none⟩ = some (.int .u8 (y0 : Int)) := (HB34.out.cell (p := ⟨g6, 0, none⟩) hg6l).trans hy0))
  clear hi1 hi2 hi3 hi4 hi5 hi6 hi7 hi8 hi9 q0 hy0
  rw [Nat.zero_add, List.nil_append] at hown4
  have hownN : w4.ownsRow w3.heap.size 5 1 v4 k (NB.map cell8) := hown4
  obtain ⟨A7, c7, rfl, hc7, hm7⟩ := own_form hownN
  have hBQ4 : BQ w w2 w4 w3.heap.size w4.heap.size (headC sp A1 dst.length c1 A2 src.length c2 A3 tok.length c3 ph (pn : Int) (k : Int)) (.slice (some ⟨g6, 0, none⟩) (a0 + k) c6) (UInt8.ofNat y0 :: (MID ++ NB)) A7 NB :=
    ⟨by rw [hlenHD]; exact own_below HO3.out HB34.out, HB3.out.trans (HB34.out.mono HB3.out.size), HW3.out.below HB34.out HW3.out.lt, Si.of_sy (Sy.of_own hownN (Nat.le_refl _)), fun q hq => by obtain rfl := Option.some.inj hq; exact .inl hg6l, Nat.le_refl _⟩
  have HQ4 := Lib.hid hBQ4
  have HN4 := Lib.hid hownN
  have hs34 := HB34.out.size
  clear hownN hown4 hg4 hBQ4 HO3 HSN HOE HBOE HB34 HW3
  go_upto_region 11 with (at_builtin; refine wpList_append_sv _ rfl _ _ _ rfl w2.heap.size 5 i0 _ 1 Tryd.underlying22 hi0 hz0 hz1 hz2 rfl (.slice (some ⟨g6, 0, none⟩) (a0 + k) c6) _ _ rfl HQ4.out.own w.heap.size _ load.length _ (load.map cell8) rfl (H4.out.below HQ4.out.bel) (by simp) (cell8_one load) (by rw [hlenHD]; unfold maxLen; omega) (by rw [hlenHD]; omega) (by omega) ?_; intro v8 w8 hown8 hg8 hat8)
  have HQ8 := Lib.hid (HQ4.out.app hbox2x (d := load) hown8 rfl hg8 hat8)
  clear hown8 hg8 hat8 HQ4
  generalize hb8 : UInt8.ofNat y0 :: (MID ++ NB) ++ load = b8 at HQ8
  have hl8 : b8.length ≤ 6000 := by rw [← hb8]; simp only [List.length_append, hlenHD]; omega
  have HB8 := Lib.hid hb8
  clear hb8
  have e0 : w8.cell? ⟨w.heap.size, 0, none⟩ = some (.int .u8 (sp : Int)) := HQ8.out.box.cell 0
  go_upto_if 74 with fail
  go_cut [9] (fun v wx => Hid (BQ w w2 wx w3.heap.size w4.heap.size (headC sp A1 dst.length c1 A2 src.length c2 A3 tok.length c3 ph (pn : Int) (k : Int)) v (b8 ++ if sp = 2 then [] else behind) A7 NB))
  case first =>
    by_cases hs2 : sp = 2
    · have hq2 : ((sp : Int) == 2) = true := by rw [hs2]; rfl
      have HS2 := Lib.hid hs2
      clear hs2
      go_wp2_with fail
      go_meet
      rw [if_pos HS2.out, List.append_nil]
      exact HQ8
    · have hq2 : ((sp : Int) == 2) = false := by rw [beq_eq_false_iff_ne]; omega
      have HS2 := Lib.hid hs2
      clear hs2
      go_wp2_with (at_builtin; refine wpList_append_sv _ rfl _ _ _ rfl w2.heap.size 5 i0 _ 1 Tryd.underlying22 hi0 hz0 hz1 hz2 rfl v8 _ _ rfl HQ8.out.own w.heap.size _ behind.length _ (behind.map cell8) rfl (H5.out.below HQ8.out.bel) (by simp) (cell8_one behind) (by unfold maxLen; omega) (by omega) (Nat.le_trans hs3 (Nat.le_trans hs34 HQ8.out.hi_)) ?_; intro v9 w9 hown9 hg9 hat9)
      go_meet
      rw [if_neg HS2.out]
      exact Lib.hid (HQ8.out.app hbox2x (d := behind) hown9 rfl hg9 hat9)
  case rest =>
  clear HQ8 e0
  obtain ⟨tail, htl⟩ : ∃ tail, (b8 ++ if sp = 2 then [] else behind) = UInt8.ofNat y0 :: tail := ⟨MID ++ NB ++ load ++ (if sp = 2 then [] else behind), by rw [← HB8.out]; simp⟩
  rw [htl] at hcut
  have hlt9 : tail.length ≤ 8000 := by
    have h := congrArg List.length htl
    simp only [List.length_append, List.length_cons] at h
    have : (if sp = 2 then [] else behind).length ≤ 2000 := by
      split
      · simp
      · exact hlb
    omega
  have HTL := Lib.hid htl
  clear htl
  obtain ⟨A9, q9, rfl, hq9, hm9⟩ := own_form hcut.out.own
  obtain ⟨g9, hA9, hg9, hg9l⟩ := own_ptr hcut.out.own (by simp)
  subst hA9
  have hy9 : wc.cell? ⟨g9, 0, none⟩ = some (.int .u8 (y0 : Int)) := by
    have h := hcut.out.own.cellAt 0 (by simp)
    rw [h, byte_len y0 (by omega)]
    rfl
  have fy9 : wc.frozen? ⟨g9, 0, none⟩ = false := hcut.out.own.frozenAt 0
  have e0 : wc.cell? ⟨w.heap.size, 0, none⟩ = some (.int .u8 (sp : Int)) := hcut.out.box.cell 0
  rw [show (UInt8.ofNat y0 :: tail).length = tail.length + 1 from rfl] at hcut hq9 ⊢
  obtain ⟨bt, hbt⟩ : ∃ bt, ((sp : Int) == 2) = bt := ⟨_, rfl⟩
  have HBT := Lib.hid (fun w => bits_any sp w bt hbt)
  have HBTE := Lib.hid hbt
  have hxor : ∃ z : Nat, bits .xor .u8 (y0 : Int) (bits .and .u8 (mask : Int) (if bt then 31 else 15)) = (z : Int) ∧ z < 256 ∧ (bt = false → z / 16 = y0 / 16) ∧ (bt = true → z / 32 = y0 / 32) ∧ bits .andNot .u8 (bits .xor .u8 (y0 : Int) (z : Int)) (if bt then 31 else 15) = 0 := by
    cases bt
    · obtain ⟨a1, a2, a3, a4⟩ := xor15 y0 hy (mask % 16) (by omega)
      rw [if_neg (by decide), and15 mask hmask]
      exact ⟨_, a1, a2, (fun _ => a3), (fun h => by cases h), a4⟩
    · obtain ⟨a1, a2, a3, a4⟩ := xor31 y0 hy (mask % 32) (by omega)
      rw [if_pos rfl, and31 mask hmask]
      exact ⟨_, a1, a2, (fun h => by cases h), (fun _ => a3), a4⟩
  obtain ⟨z, hz1', hz2', hz3', hz4', hz5'⟩ := hxor
  obtain ⟨vb, HVB⟩ : ∃ vb : Int, Hid ((if bt then (31 : Int) else 15) = vb) := ⟨_, Lib.hid rfl⟩
  rw [HVB.out] at HBT hz1'
  have HZ1 := Lib.hid hz1'
  have HQo := hcut
  clear hcut
  have HZ3 := Lib.hid hz3'
  have HZ4 := Lib.hid hz4'
  have HZ5 := Lib.hid hz5'
  have hi1 : (0 : Int) < ((tail.length + 1 : Nat) : Int) := by omega
  have hi2 : (0 : Int) < (tail.length : Int) + 1 := by omega
  have hi9 : 0 < tail.length + 1 := by omega
  clear hbt hz3' hz4' hz5'
  go_upto_region 13 with fail
  go_cut [9] (fun v wx => v = .slice (some ⟨g9, 0, none⟩) (tail.length + 1) q9 ∧ Hid (BQ w w2 wx w3.heap.size w4.heap.size (headC sp A1 dst.length c1 A2 src.length c2 A3 tok.length c3 ph (pn : Int) (k : Int)) (.slice (some ⟨g9, 0, none⟩) (tail.length + 1) q9) (UInt8.ofNat z :: tail) A7 NB))
  case first =>
    go_region_with (go_at_call 10; refine (HBT.out _).mono ?_; rintro e w' ⟨rfl, hw'⟩; replace hw' := hw'.symm; subst hw')
    all_goals
      go_wp2_with fail
      go_meet
      exact ⟨rfl, Lib.hid ((HQo.out.set rfl hbox2x (.int .u8 (z : Int)) (byte_len z (by omega))).drew)⟩
  case rest =>
  clear e0 hy9 fy9 HQo hz1'
  obtain ⟨rfl, HQ9⟩ := hcut
  have htail : UInt8.ofNat z :: tail = UInt8.ofNat z :: (MID ++ NB ++ load ++ if sp = 2 then [] else behind) := by
    have h := HTL.out
    rw [← HB8.out] at h
    simp only [List.cons_append, List.cons.injEq, true_and] at h
    rw [← h]
  obtain ⟨t, ht1, ht2, ht3, ht4, ht5, ht6⟩ := HSPL.out z (UInt8.ofNat z :: tail) hz2' (fun h => HZ3.out (by rw [← HBTE.out, beq_eq_false_iff_ne]; omega)) (fun h => HZ4.out (by rw [← HBTE.out, h]; rfl)) htail
  have HSP := Lib.hid (split_ok ht1 ht2 (by omega) (some ⟨g9, 0, none⟩) (tail.length + 1) q9 wc rfl (Sv.of_own HQ9.out.own) hq9 hm9 (by omega))
  rw [ht3] at HSP
  have HT5 := Lib.hid ht5
  have HT6 := Lib.hid ht6
  have e1 : wc.cell? ⟨w.heap.size, 1, none⟩ = some (.slice A1 dst.length c1) := HQ9.out.box.cell 1
  clear ht1 ht2 ht3 ht5 ht6 htail
  have hll : (UInt8.ofNat z :: tail).length = tail.length + 1 := rfl
  go_upto_region 15 with (go_at_call 11; refine HSP.out.mono ?_; rintro e w11 ⟨C1, k1, C2, k2, C3, k3, C4, C5, htl2, rfl, s1, s2, s3, s4, s5, hb11⟩)
  have hbox11 := (HQ9.out.box.below hb11 HQ9.out.box.lt).alloc (.cells #[.int .u8 (sp : Int), .slice C1 dst.length k1, .slice C2 src.length k2, .slice C3 tok.length k3, .int .i64 (a0 : Int), .slice C4 t t] 33)
  have hbel11 := HQ9.out.bel.trans (hb11.mono HQ9.out.bel.size)
  have hbel12 : Below w.heap.size w (w11.alloc (.cells #[.int .u8 (sp : Int), .slice C1 dst.length k1, .slice C2 src.length k2, .slice C3 tok.length k3, .int .i64 (a0 : Int), .slice C4 t t] 33)) := hbel11.alloc hbel11.size _
  have hal : Below w11.heap.size w11 (w11.alloc (.cells #[.int .u8 (sp : Int), .slice C1 dst.length k1, .slice C2 src.length k2, .slice C3 tok.length k3, .int .i64 (a0 : Int), .slice C4 t t] 33)) := (Below.refl _ _).alloc (Nat.le_refl _) _
  have hnum12 := (HQ9.out.num.grown (row := none) (grown_below hb11) (by simp)).grown (row := none) (grown_below hal) (by simp)
  have hP12 := Wh.new w11 33 #[.int .u8 (sp : Int), .slice C1 dst.length k1, .slice C2 src.length k2, .slice C3 tok.length k3, .int .i64 (a0 : Int), .slice C4 t t]
  have HS1 := Lib.hid (s1.keep (w' := (w11.alloc (.cells #[.int .u8 (sp : Int), .slice C1 dst.length k1, .slice C2 src.length k2, .slice C3 tok.length k3, .int .i64 (a0 : Int), .slice C4 t t] 33))) (Nat.le_refl _) (fun p hp => hal.cell hp))
  have HS2 := Lib.hid (s2.keep (w' := (w11.alloc (.cells #[.int .u8 (sp : Int), .slice C1 dst.length k1, .slice C2 src.length k2, .slice C3 tok.length k3, .int .i64 (a0 : Int), .slice C4 t t] 33))) (Nat.le_refl _) (fun p hp => hal.cell hp))
  have HS3 := Lib.hid (s3.keep (w' := (w11.alloc (.cells #[.int .u8 (sp : Int), .slice C1 dst.length k1, .slice C2 src.length k2, .slice C3 tok.length k3, .int .i64 (a0 : Int), .slice C4 t t] 33))) (Nat.le_refl _) (fun p hp => hal.cell hp))
  have HS4 := Lib.hid (s4.keep (w' := (w11.alloc (.cells #[.int .u8 (sp : Int), .slice C1 dst.length k1, .slice C2 src.length k2, .slice C3 tok.length k3, .int .i64 (a0 : Int), .slice C4 t t] 33))) (Nat.le_refl _) (fun p hp => hal.cell hp))
  have HS5 := Lib.hid (s5.keep (w' := (w11.alloc (.cells #[.int .u8 (sp : Int), .slice C1 dst.length k1, .slice C2 src.length k2, .slice C3 tok.length k3, .int .i64 (a0 : Int), .slice C4 t t] 33))) (Nat.le_refl _) (fun p hp => hal.cell hp))
  have hz11 : (w11.alloc (.cells #[.int .u8 (sp : Int), .slice C1 dst.length k1, .slice C2 src.length k2, .slice C3 tok.length k3, .int .i64 (a0 : Int), .slice C4 t t] 33)).heap.size = w11.heap.size + 1 := by simp
  have HBX := Lib.hid hbox11
  have HBL := Lib.hid hbel12
  have HNM := Lib.hid hnum12
  have HPP := Lib.hid hP12
  clear hbox11 hbel11 hbel12 hal hnum12 hP12 s1 s2 s3 s4 s5 hb11 HSP e1
  generalize (w11.alloc (.cells #[.int .u8 (sp : Int), .slice C1 dst.length k1, .slice C2 src.length k2, .slice C3 tok.length k3, .int .i64 (a0 : Int), .slice C4 t t] 33)) = w12 at *
  obtain ⟨n0, hn0⟩ : ∃ n0 : Nat, n0 = a0 + k := ⟨_, rfl⟩
  have hsum : (a0 : Int) + (k : Int) = (n0 : Int) := by omega
  have HT5n : Hid (((UInt8.ofNat z :: tail).take t).drop n0 = load) := by rw [hn0]; exact HT5.out
  have HL0 : Hid (load.length = t - n0) := by
    show _ = _
    have h := congrArg List.length HT5n.out
    rw [List.length_drop, List.length_take] at h
    omega
  obtain ⟨b4, o4, hC4, hb4l, hc4⟩ := Sl.at_ HS4.out (by rw [List.length_take]; omega)
  subst hC4
  have hload : Sl w12 w11.heap.size (some ⟨b4, o4 + n0, none⟩) load := by
    have h := HS4.out.drop n0
    rw [← List.map_drop, HT5n.out] at h
    exact h
  have HLD := Lib.hid hload
  have hz4c : w12.cell? ⟨b4, o4, none⟩ = some (.int .u8 (z : Int)) := by
    have h := hc4 0 (UInt8.ofNat z) (by rw [List.getElem?_take]; rw [if_pos (by omega)]; rfl)
    rw [Nat.add_zero, UInt8.toNat_ofNat', Nat.mod_eq_of_lt (by omega)] at h
    exact h
  have HZC := Lib.hid hz4c
  clear hload hc4 hb4l hz4c
  have hs1 : ∀ m, (convert 22 9 (.slice C1 dst.length k1)).run Tryd.prog (w12.drewN m) = .ok (.string (strB dst)) (w12.drewN m) := fun m => run_string_sl (P := Tryd.prog) (w12.drewN m) 22 9 5 Tryd.underlying22 Tryd.underlying5 Tryd.underlying9 _ C1 dst.length k1 _ ((HS1.out).keep (Nat.le_refl _) (fun p hp => by rw [World.cell?_drewN])) rfl
  have hs2 : ∀ m, (convert 22 9 (.slice C2 src.length k2)).run Tryd.prog (w12.drewN m) = .ok (.string (strB src)) (w12.drewN m) := fun m => run_string_sl (P := Tryd.prog) (w12.drewN m) 22 9 5 Tryd.underlying22 Tryd.underlying5 Tryd.underlying9 _ C2 src.length k2 _ ((HS2.out).keep (Nat.le_refl _) (fun p hp => by rw [World.cell?_drewN])) rfl
  have hs3 : ∀ m, (convert 22 9 (.slice C3 tok.length k3)).run Tryd.prog (w12.drewN m) = .ok (.string (strB tok)) (w12.drewN m) := fun m => run_string_sl (P := Tryd.prog) (w12.drewN m) 22 9 5 Tryd.underlying22 Tryd.underlying5 Tryd.underlying9 _ C3 tok.length k3 _ ((HS3.out).keep (Nat.le_refl _) (fun p hp => by rw [World.cell?_drewN])) rfl
  have hs4 : ∀ m, (convert 22 9 (.slice A1 dst.length c1)).run Tryd.prog (w12.drewN m) = .ok (.string (strB dst)) (w12.drewN m) := fun m => run_string_sl (P := Tryd.prog) (w12.drewN m) 22 9 5 Tryd.underlying22 Tryd.underlying5 Tryd.underlying9 _ A1 dst.length c1 _ ((H1.out.below HBL.out).keep (Nat.le_refl _) (fun p hp => by rw [World.cell?_drewN])) rfl
  have hs5 : ∀ m, (convert 22 9 (.slice A2 src.length c2)).run Tryd.prog (w12.drewN m) = .ok (.string (strB src)) (w12.drewN m) := fun m => run_string_sl (P := Tryd.prog) (w12.drewN m) 22 9 5 Tryd.underlying22 Tryd.underlying5 Tryd.underlying9 _ A2 src.length c2 _ ((H2.out.below HBL.out).keep (Nat.le_refl _) (fun p hp => by rw [World.cell?_drewN])) rfl
  have hs6 : ∀ m, (convert 22 9 (.slice A3 tok.length c3)).run Tryd.prog (w12.drewN m) = .ok (.string (strB tok)) (w12.drewN m) := fun m => run_string_sl (P := Tryd.prog) (w12.drewN m) 22 9 5 Tryd.underlying22 Tryd.underlying5 Tryd.underlying9 _ A3 tok.length c3 _ ((H3.out.below HBL.out).keep (Nat.le_refl _) (fun p hp => by rw [World.cell?_drewN])) rfl
  have hs8 : ∀ m, (convert 22 9 (.slice A4 load.length c4)).run Tryd.prog (w12.drewN m) = .ok (.string (strB load)) (w12.drewN m) := fun m => run_string_sl (P := Tryd.prog) (w12.drewN m) 22 9 5 Tryd.underlying22 Tryd.underlying5 Tryd.underlying9 _ A4 load.length c4 _ ((H4.out.below HBL.out).keep (Nat.le_refl _) (fun p hp => by rw [World.cell?_drewN])) rfl
  have hs7 : ∀ m, (convert 22 9 (.slice (some ⟨b4, o4 + n0, none⟩) (t - n0) (t - n0))).run Tryd.prog (w12.drewN m) = .ok (.string (strB load)) (w12.drewN m) := fun m => run_string_sl (P := Tryd.prog) (w12.drewN m) 22 9 5 Tryd.underlying22 Tryd.underlying5 Tryd.underlying9 _ _ _ _ _ (HLD.out.keep (Nat.le_refl _) (fun p hp => by rw [World.cell?_drewN])) HL0.out
  have e0 : w12.cell? ⟨w.heap.size, 0, none⟩ = some (.int .u8 (sp : Int)) := HBX.out.cell 0
  have e1 : w12.cell? ⟨w.heap.size, 1, none⟩ = some (.slice A1 dst.length c1) := HBX.out.cell 1
  have e2 : w12.cell? ⟨w.heap.size, 2, none⟩ = some (.slice A2 src.length c2) := HBX.out.cell 2
  have e3 : w12.cell? ⟨w.heap.size, 3, none⟩ = some (.slice A3 tok.length c3) := HBX.out.cell 3
  have e6 : w12.cell? ⟨w.heap.size, 6, none⟩ = some (.int .i64 (k : Int)) := HBX.out.cell 6
  have p0 : w12.cell? ⟨w11.heap.size, 0, none⟩ = some (.int .u8 (sp : Int)) := HPP.out.cell 0
  have p1 : w12.cell? ⟨w11.heap.size, 1, none⟩ = some (.slice C1 dst.length k1) := HPP.out.cell 1
  have p2 : w12.cell? ⟨w11.heap.size, 2, none⟩ = some (.slice C2 src.length k2) := HPP.out.cell 2
  have p3 : w12.cell? ⟨w11.heap.size, 3, none⟩ = some (.slice C3 tok.length k3) := HPP.out.cell 3
  have p4 : w12.cell? ⟨w11.heap.size, 4, none⟩ = some (.int .i64 (a0 : Int)) := HPP.out.cell 4
  have p5 : w12.cell? ⟨w11.heap.size, 5, none⟩ = some (.slice (some ⟨b4, o4, none⟩) t t) := HPP.out.cell 5
  have u1 : (n0 : Int) ≤ (t : Int) := by omega
  have u2 : (0 : Int) ≤ (n0 : Int) := by omega
  have u3 : ¬ t = n0 := by have := HL0.out; omega
  have u4 : n0 ≤ t := by omega
  have HN0 := Lib.hid hn0
  clear hn0 ht4
  go_quiet (fail)
  have hdn : Below w12.heap.size w12 (w12.drewN nq) := below_drewN (Below.refl _ _) _
  have HDN := Lib.hid hdn
  clear hs1 hs2 hs3 hs4 hs5 hs6 hs7 hs8 e0 e1 e2 e3 e6 p0 p1 p2 p3 p4 p5 hsum
  go_upto_region 17 with fail
  generalize w12.drewN nq = w13 at *
  have hsz13 := HDN.out.size
  have HBX13 := Lib.hid (HBX.out.below HDN.out HBX.out.lt)
  have HBL13 := Lib.hid (HBL.out.trans (HDN.out.mono HBL.out.size))
  have HPP13 := Lib.hid (HPP.out.below HDN.out HPP.out.lt)
  have hw11l : w11.heap.size ≤ w12.heap.size := by omega
  have HS13 := Lib.hid (HS1.out.below (HDN.out.mono hw11l))
  have HS23 := Lib.hid (HS2.out.below (HDN.out.mono hw11l))
  have HS33 := Lib.hid (HS3.out.below (HDN.out.mono hw11l))
  have HS53 := Lib.hid (HS5.out.below (HDN.out.mono hw11l))
  have HNM13 := Lib.hid (HNM.out.grown (row := none) (grown_below HDN.out) (by simp))
  have HZC13 := Lib.hid ((HDN.out.cell (p := ⟨b4, o4, none⟩) (World.block_lt_of_cell? w12 _ HZC.out)).trans HZC.out)
  have e0 : w13.cell? ⟨w.heap.size, 0, none⟩ = some (.int .u8 (sp : Int)) := HBX13.out.cell 0
  go_cut [171] (fun v wx => v = .bool false ∧ wx = w13)
  case first =>
    have hbt := HBTE.out
    have hlen6 := congrArg List.length HT6.out
    rw [List.length_drop] at hlen6
    cases bt
    · have hsn : ¬ sp = 2 := by intro h; rw [h] at hbt; cases hbt
      have HT6n : Hid ((UInt8.ofNat z :: tail).drop t = behind) := by have h := HT6.out; rw [if_neg hsn] at h; exact h
      rw [if_neg hsn] at hlen6
      have HL6 := Lib.hid hlen6
      have hsi : ¬ ((sp : Nat) : Int) = 2 := by omega
      clear hlen6 hsn hbt
      have hr1 : (convert 22 9 (.slice C5 (tail.length + 1 - t) (tail.length + 1 - t))).run Tryd.prog w13 = .ok (.string (strB behind)) w13 := run_string_sl (P := Tryd.prog) w13 22 9 5 Tryd.underlying22 Tryd.underlying5 Tryd.underlying9 _ C5 _ (tail.length + 1 - t) _ (by have h := HS53.out; rw [HT6n.out] at h; exact h) HL6.out.symm
      have hr2 : (convert 22 9 (.slice A5 behind.length c5)).run Tryd.prog w13 = .ok (.string (strB behind)) w13 := run_string_sl (P := Tryd.prog) w13 22 9 5 Tryd.underlying22 Tryd.underlying5 Tryd.underlying9 _ A5 _ c5 _ (H5.out.below HBL13.out) rfl
      go_wp2_with fail
      all_goals first
        | (exfalso; omega)
        | (go_meet; exact ⟨rfl, rfl⟩)
    · have hs2 : sp = 2 := by have h := eq_of_beq hbt; omega
      rw [if_pos hs2] at hlen6
      have hl6 : tail.length + 1 - t = 0 := hlen6
      have HSI : Hid ((Value.int .u8 2) = (Value.int .u8 ((sp : Nat) : Int))) := by show _ = _; rw [hs2]; rfl
      have HL6 : Hid ((Value.slice C5 0 0) = (Value.slice C5 (tail.length + 1 - t) (tail.length + 1 - t))) := by show _ = _; rw [hl6]
      clear hs2 hlen6
      go_wp2_with fail
      all_goals first
        | (exfalso; have h := eq_of_beq hbt; omega)
        | (rw [HSI.out, HL6.out]; go_meet; exact ⟨rfl, rfl⟩)
  case rest =>
  obtain ⟨rfl, rfl⟩ := hcut
  clear e0
  have hwlt : w11.heap.size < wc.heap.size := by omega
  have hll3 : (UInt8.ofNat z :: tail).length = tail.length + 1 := rfl
  have HBARE := Lib.hid (bare_ok sp k dst src tok NB ph C1 k1 C2 k2 C3 k3 a0 t t b4 o4 (y0 : Int) (z : Int) bt A7 c7 wc HBTE.out HZC13.out (by omega) (by omega) (by rw [HZ5.out]; rfl) HBR3.out hk1 hk4 (HBRR.out bt HBTE.out) HBRP.out HNB.out hc7 hm7
    (HS13.out.keep (by omega) (fun _ _ => rfl)) (HS23.out.keep (by omega) (fun _ _ => rfl)) (HS33.out.keep (by omega) (fun _ _ => rfl)) HNM13.out.sv f1 f2 ht)
  unfold partC at HBARE
  have p0 : wc.cell? ⟨w11.heap.size, 0, none⟩ = some (.int .u8 (sp : Int)) := HPP13.out.cell 0
  have p1 : wc.cell? ⟨w11.heap.size, 1, none⟩ = some (.slice C1 dst.length k1) := HPP13.out.cell 1
  have p2 : wc.cell? ⟨w11.heap.size, 2, none⟩ = some (.slice C2 src.length k2) := HPP13.out.cell 2
  have p3 : wc.cell? ⟨w11.heap.size, 3, none⟩ = some (.slice C3 tok.length k3) := HPP13.out.cell 3
  have p4 : wc.cell? ⟨w11.heap.size, 4, none⟩ = some (.int .i64 (a0 : Int)) := HPP13.out.cell 4
  have p5 : wc.cell? ⟨w11.heap.size, 5, none⟩ = some (.slice (some ⟨b4, o4, none⟩) t t) := HPP13.out.cell 5
  clear hll3
  go_upto_region 20 with (go_at_call 12; refine HBARE.out.mono ?_; rintro e w20 ⟨B1, d1, B2, d2, B3, d3, rfl, s1, s2, s3, hb20⟩; unfold headC)
  have hal20 : Below w20.heap.size w20 (w20.alloc (.cells #[.int .u8 (sp : Int), .slice B1 dst.length d1, .slice B2 src.length d2, .slice B3 tok.length d3, .bool ph, .int .u64 (val 0 NB : Int), .int .i64 (k : Int)] 25)) := (Below.refl _ _).alloc (Nat.le_refl _) _
  have hsz20 := hb20.size
  have HBL20 := Lib.hid (HBL13.out.trans (hb20.mono HBL13.out.size))
  have HBL21 := Lib.hid (HBL20.out.trans (hal20.mono HBL20.out.size))
  have HBX21 := Lib.hid ((HBX13.out.below hb20 HBX13.out.lt).alloc (.cells #[.int .u8 (sp : Int), .slice B1 dst.length d1, .slice B2 src.length d2, .slice B3 tok.length d3, .bool ph, .int .u64 (val 0 NB : Int), .int .i64 (k : Int)] 25))
  have HR21 := Lib.hid (Wh.new w20 25 #[.int .u8 (sp : Int), .slice B1 dst.length d1, .slice B2 src.length d2, .slice B3 tok.length d3, .bool ph, .int .u64 (val 0 NB : Int), .int .i64 (k : Int)])
  have HB21 := Lib.hid hal20
  have HS120 := Lib.hid s1
  have HS220 := Lib.hid s2
  have HS320 := Lib.hid s3
  have hz21 : (w20.alloc (.cells #[.int .u8 (sp : Int), .slice B1 dst.length d1, .slice B2 src.length d2, .slice B3 tok.length d3, .bool ph, .int .u64 (val 0 NB : Int), .int .i64 (k : Int)] 25)).heap.size = w20.heap.size + 1 := by simp
  clear p0 p1 p2 p3 p4 p5 hb20 s1 s2 s3 hal20 HBARE
  generalize (w20.alloc (.cells #[.int .u8 (sp : Int), .slice B1 dst.length d1, .slice B2 src.length d2, .slice B3 tok.length d3, .bool ph, .int .u64 (val 0 NB : Int), .int .i64 (k : Int)] 25)) = w21 at *
  have e0 : w21.cell? ⟨w.heap.size, 0, none⟩ = some (.int .u8 (sp : Int)) := HBX21.out.cell 0
  have e1 : w21.cell? ⟨w.heap.size, 1, none⟩ = some (.slice A1 dst.length c1) := HBX21.out.cell 1
  have e2 : w21.cell? ⟨w.heap.size, 2, none⟩ = some (.slice A2 src.length c2) := HBX21.out.cell 2
  have e3 : w21.cell? ⟨w.heap.size, 3, none⟩ = some (.slice A3 tok.length c3) := HBX21.out.cell 3
  have e4 : w21.cell? ⟨w.heap.size, 4, none⟩ = some (.bool ph) := HBX21.out.cell 4
  have e5 : w21.cell? ⟨w.heap.size, 5, none⟩ = some (.int .u64 (pn : Int)) := HBX21.out.cell 5
  have e6 : w21.cell? ⟨w.heap.size, 6, none⟩ = some (.int .i64 (k : Int)) := HBX21.out.cell 6
  have hzs : w21.heap.size = w20.heap.size + 1 := hz21
  have hz21l : w20.heap.size < w21.heap.size := by omega
  have HZ21 := Lib.hid hz21
  clear hz21 hzs
  go_upto_region 21 with fail
  clear e0 e1 e2 e3 e4 e5 e6
  have hal22 : Below w21.heap.size w21 (w21.alloc (.cells #[.int .u8 (sp : Int), .slice A1 dst.length c1, .slice A2 src.length c2, .slice A3 tok.length c3, .bool ph, .int .u64 (pn : Int), .int .i64 (k : Int)] 25)) := (Below.refl _ _).alloc (Nat.le_refl _) _
  have HB22 := Lib.hid hal22
  have HBL22 := Lib.hid (HBL21.out.trans (hal22.mono HBL21.out.size))
  have HBX22 := Lib.hid (HBX21.out.below hal22 HBX21.out.lt)
  have HR22 := Lib.hid (HR21.out.below hal22 HR21.out.lt)
  have HW22 := Lib.hid (Wh.new w21 25 #[.int .u8 (sp : Int), .slice A1 dst.length c1, .slice A2 src.length c2, .slice A3 tok.length c3, .bool ph, .int .u64 (pn : Int), .int .i64 (k : Int)])
  have hz22 : (w21.alloc (.cells #[.int .u8 (sp : Int), .slice A1 dst.length c1, .slice A2 src.length c2, .slice A3 tok.length c3, .bool ph, .int .u64 (pn : Int), .int .i64 (k : Int)] 25)).heap.size = w21.heap.size + 1 := by simp
  clear hal22
  generalize (w21.alloc (.cells #[.int .u8 (sp : Int), .slice A1 dst.length c1, .slice A2 src.length c2, .slice A3 tok.length c3, .bool ph, .int .u64 (pn : Int), .int .i64 (k : Int)] 25)) = w22 at *
  have hz22l : w21.heap.size < w22.heap.size := by omega
  have hx21 : w.heap.size < w21.heap.size := by have := HBX21.out.lt; omega
  have HZ22 := Lib.hid hz22
  clear hz22
  have g5 : w22.cell? ⟨w21.heap.size, 5, none⟩ = some (.int .u64 (pn : Int)) := HW22.out.cell 5
  have y5 : w22.frozen? ⟨w21.heap.size, 5, none⟩ = false := HW22.out.frozen 5
  have HVL : Hid (val 0 NB = pn % 256 ^ k) := by rw [← HNBE.out]; exact val_low pn k
  have e6 : w22.cell? ⟨w.heap.size, 6, none⟩ = some (.int .i64 (k : Int)) := HBX22.out.cell 6
  obtain rfl | rfl | rfl | rfl : k = 1 ∨ k = 2 ∨ k = 3 ∨ k = 4 := by omega
  · have e6 : w22.cell? ⟨w.heap.size, 6, none⟩ = some (.int .i64 1) := e6
    have hsh := shl_1
    refine wp_region_still_tail 8 (by kernel_rfl) (by kernel_rfl) ?_
    simp only [List.take_succ_cons, List.take_zero, List.drop_succ_cons, List.drop_zero]
    still_step
    still_step
    still_step
    still_step
    still_step
    still_step
    still_step
    still_step
    refine wpStill_nil ?_
    change wpList _ _ _ _ _ w22.drew
    have hd23 : Below w22.heap.size w22 w22.drew := (Below.refl _ _).drew
    have HBL23 := Lib.hid (HBL22.out.trans (hd23.mono HBL22.out.size))
    have HR23 := Lib.hid (HR22.out.below hd23 HR22.out.lt)
    have HW23 := Lib.hid (HW22.out.below hd23 HW22.out.lt)
    have HBB23 := Lib.hid ((HB21.out.trans (HB22.out.mono (Nat.le_of_lt hz21l))).trans (hd23.mono (Nat.le_trans (Nat.le_of_lt hz21l) (Nat.le_of_lt hz22l))))
    have hz23 : w22.heap.size ≤ w22.drew.heap.size := hd23.size
    have y5' : w22.drew.frozen? ⟨w21.heap.size, 5, none⟩ = false := HW23.out.frozen 5
    have g5' : w22.drew.cell? ⟨w21.heap.size, 5, none⟩ = some (.int .u64 (pn : Int)) := HW23.out.cell 5
    clear hd23 e6 g5 y5 hsh
    generalize w22.drew = w23 at *
    go_upto_region 22 with fail
    have hv : (pn : Int) % 256 = (val 0 NB : Int) := by
      have h := HVL.out
      simp only [Nat.reducePow] at h
      omega
    rw [hv]
    clear y5' g5' hv
    have hne : w20.heap.size ≠ w21.heap.size := Nat.ne_of_lt hz21l
    have HR24 := Lib.hid (HR23.out.far (p := ⟨w21.heap.size, 5, none⟩) hne (.int .u64 (val 0 NB : Int)))
    have HW24 := Lib.hid (HW23.out.put 5 (.int .u64 (val 0 NB : Int)))
    have HBL24 := Lib.hid (HBL23.out.setCell (p := ⟨w21.heap.size, 5, none⟩) (Nat.le_of_lt hx21) (.int .u64 (val 0 NB : Int)))
    have HBB24 := Lib.hid (HBB23.out.setCell (p := ⟨w21.heap.size, 5, none⟩) (Nat.le_of_lt hz21l) (.int .u64 (val 0 NB : Int)))
    generalize w23.setCell ⟨w21.heap.size, 5, none⟩ (.int .u64 (val 0 NB : Int)) = w24 at *
    have r0 : w24.cell? ⟨w20.heap.size, 0, none⟩ = some (.int .u8 (sp : Int)) := HR24.out.cell 0
    have r1 : w24.cell? ⟨w20.heap.size, 1, none⟩ = some (.slice B1 dst.length d1) := HR24.out.cell 1
    have r2 : w24.cell? ⟨w20.heap.size, 2, none⟩ = some (.slice B2 src.length d2) := HR24.out.cell 2
    have r3 : w24.cell? ⟨w20.heap.size, 3, none⟩ = some (.slice B3 tok.length d3) := HR24.out.cell 3
    have r4 : w24.cell? ⟨w20.heap.size, 4, none⟩ = some (.bool ph) := HR24.out.cell 4
    have r5 : w24.cell? ⟨w20.heap.size, 5, none⟩ = some (.int .u64 (val 0 NB : Int)) := HR24.out.cell 5
    have r6 : w24.cell? ⟨w20.heap.size, 6, none⟩ = some (.int .i64 1) := HR24.out.cell 6
    have q0 : w24.cell? ⟨w21.heap.size, 0, none⟩ = some (.int .u8 (sp : Int)) := HW24.out.cell 0
    have q1 : w24.cell? ⟨w21.heap.size, 1, none⟩ = some (.slice A1 dst.length c1) := HW24.out.cell 1
    have q2 : w24.cell? ⟨w21.heap.size, 2, none⟩ = some (.slice A2 src.length c2) := HW24.out.cell 2
    have q3 : w24.cell? ⟨w21.heap.size, 3, none⟩ = some (.slice A3 tok.length c3) := HW24.out.cell 3
    have q4 : w24.cell? ⟨w21.heap.size, 4, none⟩ = some (.bool ph) := HW24.out.cell 4
    have q5 : w24.cell? ⟨w21.heap.size, 5, none⟩ = some (.int .u64 (val 0 NB : Int)) := HW24.out.cell 5
    have q6 : w24.cell? ⟨w21.heap.size, 6, none⟩ = some (.int .i64 1) := HW24.out.cell 6
    have HSM := Lib.hid (same_yes sp dst src tok ph (val 0 NB : Int) 1 B1 d1 B2 d2 B3 d3 A1 c1 A2 c2 A3 c3 w24
      ((HS120.out.below HBB24.out).keep HBB24.out.size (fun _ _ => rfl)) ((HS220.out.below HBB24.out).keep HBB24.out.size (fun _ _ => rfl)) ((HS320.out.below HBB24.out).keep HBB24.out.size (fun _ _ => rfl))
      ((H1.out.below HBL24.out).keep HBL24.out.size (fun _ _ => rfl)) ((H2.out.below HBL24.out).keep HBL24.out.size (fun _ _ => rfl)) ((H3.out.below HBL24.out).keep HBL24.out.size (fun _ _ => rfl)))
    unfold headC at HSM
    clear hne
    go_wp2_with (go_at_call 13; refine HSM.out.mono ?_; rintro e w25 ⟨rfl, hb25⟩)
    go_ret
    exact ⟨rfl, HBL24.out.trans (hb25.mono HBL24.out.size)⟩
  · have e6 : w22.cell? ⟨w.heap.size, 6, none⟩ = some (.int .i64 2) := e6
    have hsh := shl_2
    refine wp_region_still_tail 8 (by kernel_rfl) (by kernel_rfl) ?_
    simp only [List.take_succ_cons, List.take_zero, List.drop_succ_cons, List.drop_zero]
    still_step
    still_step
    still_step
    still_step
    still_step
    still_step
    still_step
    still_step
    refine wpStill_nil ?_
    change wpList _ _ _ _ _ w22.drew
    have hd23 : Below w22.heap.size w22 w22.drew := (Below.refl _ _).drew
    have HBL23 := Lib.hid (HBL22.out.trans (hd23.mono HBL22.out.size))
    have HR23 := Lib.hid (HR22.out.below hd23 HR22.out.lt)
    have HW23 := Lib.hid (HW22.out.below hd23 HW22.out.lt)
    have HBB23 := Lib.hid ((HB21.out.trans (HB22.out.mono (Nat.le_of_lt hz21l))).trans (hd23.mono (Nat.le_trans (Nat.le_of_lt hz21l) (Nat.le_of_lt hz22l))))
    have hz23 : w22.heap.size ≤ w22.drew.heap.size := hd23.size
    have y5' : w22.drew.frozen? ⟨w21.heap.size, 5, none⟩ = false := HW23.out.frozen 5
    have g5' : w22.drew.cell? ⟨w21.heap.size, 5, none⟩ = some (.int .u64 (pn : Int)) := HW23.out.cell 5
    clear hd23 e6 g5 y5 hsh
    generalize w22.drew = w23 at *
    go_upto_region 22 with fail
    have hv : (pn : Int) % 65536 = (val 0 NB : Int) := by
      have h := HVL.out
      simp only [Nat.reducePow] at h
      omega
    rw [hv]
    clear y5' g5' hv
    have hne : w20.heap.size ≠ w21.heap.size := Nat.ne_of_lt hz21l
    have HR24 := Lib.hid (HR23.out.far (p := ⟨w21.heap.size, 5, none⟩) hne (.int .u64 (val 0 NB : Int)))
    have HW24 := Lib.hid (HW23.out.put 5 (.int .u64 (val 0 NB : Int)))
    have HBL24 := Lib.hid (HBL23.out.setCell (p := ⟨w21.heap.size, 5, none⟩) (Nat.le_of_lt hx21) (.int .u64 (val 0 NB : Int)))
    have HBB24 := Lib.hid (HBB23.out.setCell (p := ⟨w21.heap.size, 5, none⟩) (Nat.le_of_lt hz21l) (.int .u64 (val 0 NB : Int)))
    generalize w23.setCell ⟨w21.heap.size, 5, none⟩ (.int .u64 (val 0 NB : Int)) = w24 at *
    have r0 : w24.cell? ⟨w20.heap.size, 0, none⟩ = some (.int .u8 (sp : Int)) := HR24.out.cell 0
    have r1 : w24.cell? ⟨w20.heap.size, 1, none⟩ = some (.slice B1 dst.length d1) := HR24.out.cell 1
    have r2 : w24.cell? ⟨w20.heap.size, 2, none⟩ = some (.slice B2 src.length d2) := HR24.out.cell 2
    have r3 : w24.cell? ⟨w20.heap.size, 3, none⟩ = some (.slice B3 tok.length d3) := HR24.out.cell 3
    have r4 : w24.cell? ⟨w20.heap.size, 4, none⟩ = some (.bool ph) := HR24.out.cell 4
    have r5 : w24.cell? ⟨w20.heap.size, 5, none⟩ = some (.int .u64 (val 0 NB : Int)) := HR24.out.cell 5
    have r6 : w24.cell? ⟨w20.heap.size, 6, none⟩ = some (.int .i64 2) := HR24.out.cell 6
    have q0 : w24.cell? ⟨w21.heap.size, 0, none⟩ = some (.int .u8 (sp : Int)) := HW24.out.cell 0
    have q1 : w24.cell? ⟨w21.heap.size, 1, none⟩ = some (.slice A1 dst.length c1) := HW24.out.cell 1
    have q2 : w24.cell? ⟨w21.heap.size, 2, none⟩ = some (.slice A2 src.length c2) := HW24.out.cell 2
    have q3 : w24.cell? ⟨w21.heap.size, 3, none⟩ = some (.slice A3 tok.length c3) := HW24.out.cell 3
    have q4 : w24.cell? ⟨w21.heap.size, 4, none⟩ = some (.bool ph) := HW24.out.cell 4
    have q5 : w24.cell? ⟨w21.heap.size, 5, none⟩ = some (.int .u64 (val 0 NB : Int)) := HW24.out.cell 5
    have q6 : w24.cell? ⟨w21.heap.size, 6, none⟩ = some (.int .i64 2) := HW24.out.cell 6
    have HSM := Lib.hid (same_yes sp dst src tok ph (val 0 NB : Int) 2 B1 d1 B2 d2 B3 d3 A1 c1 A2 c2 A3 c3 w24
      ((HS120.out.below HBB24.out).keep HBB24.out.size (fun _ _ => rfl)) ((HS220.out.below HBB24.out).keep HBB24.out.size (fun _ _ => rfl)) ((HS320.out.below HBB24.out).keep HBB24.out.size (fun _ _ => rfl))
      ((H1.out.below HBL24.out).keep HBL24.out.size (fun _ _ => rfl)) ((H2.out.below HBL24.out).keep HBL24.out.size (fun _ _ => rfl)) ((H3.out.below HBL24.out).keep HBL24.out.size (fun _ _ => rfl)))
    unfold headC at HSM
    clear hne
    go_wp2_with (go_at_call 13; refine HSM.out.mono ?_; rintro e w25 ⟨rfl, hb25⟩)
    go_ret
    exact ⟨rfl, HBL24.out.trans (hb25.mono HBL24.out.size)⟩
  · have e6 : w22.cell? ⟨w.heap.size, 6, none⟩ = some (.int .i64 3) := e6
    have hsh := shl_3
    refine wp_region_still_tail 8 (by kernel_rfl) (by kernel_rfl) ?_
    simp only [List.take_succ_cons, List.take_zero, List.drop_succ_cons, List.drop_zero]
    still_step
    still_step
    still_step
    still_step
    still_step
    still_step
    still_step
    still_step
    refine wpStill_nil ?_
    change wpList _ _ _ _ _ w22.drew
    have hd23 : Below w22.heap.size w22 w22.drew := (Below.refl _ _).drew
    have HBL23 := Lib.hid (HBL22.out.trans (hd23.mono HBL22.out.size))
    have HR23 := Lib.hid (HR22.out.below hd23 HR22.out.lt)
    have HW23 := Lib.hid (HW22.out.below hd23 HW22.out.lt)
    have HBB23 := Lib.hid ((HB21.out.trans (HB22.out.mono (Nat.le_of_lt hz21l))).trans (hd23.mono (Nat.le_trans (Nat.le_of_lt hz21l) (Nat.le_of_lt hz22l))))
    have hz23 : w22.heap.size ≤ w22.drew.heap.size := hd23.size
    have y5' : w22.drew.frozen? ⟨w21.heap.size, 5, none⟩ = false := HW23.out.frozen 5
    have g5' : w22.drew.cell? ⟨w21.heap.size, 5, none⟩ = some (.int .u64 (pn : Int)) := HW23.out.cell 5
    clear hd23 e6 g5 y5 hsh
    generalize w22.drew = w23 at *
    go_upto_region 22 with fail
    have hv : (pn : Int) % 16777216 = (val 0 NB : Int) := by
      have h := HVL.out
      simp only [Nat.reducePow] at h
      omega
    rw [hv]
    clear y5' g5' hv
    have hne : w20.heap.size ≠ w21.heap.size := Nat.ne_of_lt hz21l
    have HR24 := Lib.hid (HR23.out.far (p := ⟨w21.heap.size, 5, none⟩) hne (.int .u64 (val 0 NB : Int)))
    have HW24 := Lib.hid (HW23.out.put 5 (.int .u64 (val 0 NB : Int)))
    have HBL24 := Lib.hid (HBL23.out.setCell (p := ⟨w21.heap.size, 5, none⟩) (Nat.le_of_lt hx21) (.int .u64 (val 0 NB : Int)))
    have HBB24 := Lib.hid (HBB23.out.setCell (p := ⟨w21.heap.size, 5, none⟩) (Nat.le_of_lt hz21l) (.int .u64 (val 0 NB : Int)))
    generalize w23.setCell ⟨w21.heap.size, 5, none⟩ (.int .u64 (val 0 NB : Int)) = w24 at *
    have r0 : w24.cell? ⟨w20.heap.size, 0, none⟩ = some (.int .u8 (sp : Int)) := HR24.out.cell 0
    have r1 : w24.cell? ⟨w20.heap.size, 1, none⟩ = some (.slice B1 dst.length d1) := HR24.out.cell 1
    have r2 : w24.cell? ⟨w20.heap.size, 2, none⟩ = some (.slice B2 src.length d2) := HR24.out.cell 2
    have r3 : w24.cell? ⟨w20.heap.size, 3, none⟩ = some (.slice B3 tok.length d3) := HR24.out.cell 3
    have r4 : w24.cell? ⟨w20.heap.size, 4, none⟩ = some (.bool ph) := HR24.out.cell 4
    have r5 : w24.cell? ⟨w20.heap.size, 5, none⟩ = some (.int .u64 (val 0 NB : Int)) := HR24.out.cell 5
    have r6 : w24.cell? ⟨w20.heap.size, 6, none⟩ = some (.int .i64 3) := HR24.out.cell 6
    have q0 : w24.cell? ⟨w21.heap.size, 0, none⟩ = some (.int .u8 (sp : Int)) := HW24.out.cell 0
    have q1 : w24.cell? ⟨w21.heap.size, 1, none⟩ = some (.slice A1 dst.length c1) := HW24.out.cell 1
    have q2 : w24.cell? ⟨w21.heap.size, 2, none⟩ = some (.slice A2 src.length c2) := HW24.out.cell 2
    have q3 : w24.cell? ⟨w21.heap.size, 3, none⟩ = some (.slice A3 tok.length c3) := HW24.out.cell 3
    have q4 : w24.cell? ⟨w21.heap.size, 4, none⟩ = some (.bool ph) := HW24.out.cell 4
    have q5 : w24.cell? ⟨w21.heap.size, 5, none⟩ = some (.int .u64 (val 0 NB : Int)) := HW24.out.cell 5
    have q6 : w24.cell? ⟨w21.heap.size, 6, none⟩ = some (.int .i64 3) := HW24.out.cell 6
    have HSM := Lib.hid (same_yes sp dst src tok ph (val 0 NB : Int) 3 B1 d1 B2 d2 B3 d3 A1 c1 A2 c2 A3 c3 w24
      ((HS120.out.below HBB24.out).keep HBB24.out.size (fun _ _ => rfl)) ((HS220.out.below HBB24.out).keep HBB24.out.size (fun _ _ => rfl)) ((HS320.out.below HBB24.out).keep HBB24.out.size (fun _ _ => rfl))
      ((H1.out.below HBL24.out).keep HBL24.out.size (fun _ _ => rfl)) ((H2.out.below HBL24.out).keep HBL24.out.size (fun _ _ => rfl)) ((H3.out.below HBL24.out).keep HBL24.out.size (fun _ _ => rfl)))
    unfold headC at HSM
    clear hne
    go_wp2_with (go_at_call 13; refine HSM.out.mono ?_; rintro e w25 ⟨rfl, hb25⟩)
    go_ret
    exact ⟨rfl, HBL24.out.trans (hb25.mono HBL24.out.size)⟩
  · have e6 : w22.cell? ⟨w.heap.size, 6, none⟩ = some (.int .i64 4) := e6
    have hsh := shl_4
    refine wp_region_still_tail 8 (by kernel_rfl) (by kernel_rfl) ?_
    simp only [List.take_succ_cons, List.take_zero, List.drop_succ_cons, List.drop_zero]
    still_step
    still_step
    still_step
    still_step
    still_step
    still_step
    still_step
    still_step
    refine wpStill_nil ?_
    change wpList _ _ _ _ _ w22.drew
    have hd23 : Below w22.heap.size w22 w22.drew := (Below.refl _ _).drew
    have HBL23 := Lib.hid (HBL22.out.trans (hd23.mono HBL22.out.size))
    have HR23 := Lib.hid (HR22.out.below hd23 HR22.out.lt)
    have HW23 := Lib.hid (HW22.out.below hd23 HW22.out.lt)
    have HBB23 := Lib.hid ((HB21.out.trans (HB22.out.mono (Nat.le_of_lt hz21l))).trans (hd23.mono (Nat.le_trans (Nat.le_of_lt hz21l) (Nat.le_of_lt hz22l))))
    have hz23 : w22.heap.size ≤ w22.drew.heap.size := hd23.size
    have y5' : w22.drew.frozen? ⟨w21.heap.size, 5, none⟩ = false := HW23.out.frozen 5
    have g5' : w22.drew.cell? ⟨w21.heap.size, 5, none⟩ = some (.int .u64 (pn : Int)) := HW23.out.cell 5
    clear hd23 e6 g5 y5 hsh
    generalize w22.drew = w23 at *
    go_upto_region 22 with fail
    have hv : (pn : Int) % 4294967296 = (val 0 NB : Int) := by
      have h := HVL.out
      simp only [Nat.reducePow] at h
      omega
    rw [hv]
    clear y5' g5' hv
    have hne : w20.heap.size ≠ w21.heap.size := Nat.ne_of_lt hz21l
    have HR24 := Lib.hid (HR23.out.far (p := ⟨w21.heap.size, 5, none⟩) hne (.int .u64 (val 0 NB : Int)))
    have HW24 := Lib.hid (HW23.out.put 5 (.int .u64 (val 0 NB : Int)))
    have HBL24 := Lib.hid (HBL23.out.setCell (p := ⟨w21.heap.size, 5, none⟩) (Nat.le_of_lt hx21) (.int .u64 (val 0 NB : Int)))
    have HBB24 := Lib.hid (HBB23.out.setCell (p := ⟨w21.heap.size, 5, none⟩) (Nat.le_of_lt hz21l) (.int .u64 (val 0 NB : Int)))
    generalize w23.setCell ⟨w21.heap.size, 5, none⟩ (.int .u64 (val 0 NB : Int)) = w24 at *
    have r0 : w24.cell? ⟨w20.heap.size, 0, none⟩ = some (.int .u8 (sp : Int)) := HR24.out.cell 0
    have r1 : w24.cell? ⟨w20.heap.size, 1, none⟩ = some (.slice B1 dst.length d1) := HR24.out.cell 1
    have r2 : w24.cell? ⟨w20.heap.size, 2, none⟩ = some (.slice B2 src.length d2) := HR24.out.cell 2
    have r3 : w24.cell? ⟨w20.heap.size, 3, none⟩ = some (.slice B3 tok.length d3) := HR24.out.cell 3
    have r4 : w24.cell? ⟨w20.heap.size, 4, none⟩ = some (.bool ph) := HR24.out.cell 4
    have r5 : w24.cell? ⟨w20.heap.size, 5, none⟩ = some (.int .u64 (val 0 NB : Int)) := HR24.out.cell 5
    have r6 : w24.cell? ⟨w20.heap.size, 6, none⟩ = some (.int .i64 4) := HR24.out.cell 6
    have q0 : w24.cell? ⟨w21.heap.size, 0, none⟩ = some (.int .u8 (sp : Int)) := HW24.out.cell 0
    have q1 : w24.cell? ⟨w21.heap.size, 1, none⟩ = some (.slice A1 dst.length c1) := HW24.out.cell 1
    have q2 : w24.cell? ⟨w21.heap.size, 2, none⟩ = some (.slice A2 src.length c2) := HW24.out.cell 2
    have q3 : w24.cell? ⟨w21.heap.size, 3, none⟩ = some (.slice A3 tok.length c3) := HW24.out.cell 3
    have q4 : w24.cell? ⟨w21.heap.size, 4, none⟩ = some (.bool ph) := HW24.out.cell 4
    have q5 : w24.cell? ⟨w21.heap.size, 5, none⟩ = some (.int .u64 (val 0 NB : Int)) := HW24.out.cell 5
    have q6 : w24.cell? ⟨w21.heap.size, 6, none⟩ = some (.int .i64 4) := HW24.out.cell 6
    have HSM := Lib.hid (same_yes sp dst src tok ph (val 0 NB : Int) 4 B1 d1 B2 d2 B3 d3 A1 c1 A2 c2 A3 c3 w24
      ((HS120.out.below HBB24.out).keep HBB24.out.size (fun _ _ => rfl)) ((HS220.out.below HBB24.out).keep HBB24.out.size (fun _ _ => rfl)) ((HS320.out.below HBB24.out).keep HBB24.out.size (fun _ _ => rfl))
      ((H1.out.below HBL24.out).keep HBL24.out.size (fun _ _ => rfl)) ((H2.out.below HBL24.out).keep HBL24.out.size (fun _ _ => rfl)) ((H3.out.below HBL24.out).keep HBL24.out.size (fun _ _ => rfl)))
    unfold headC at HSM
    clear hne
    go_wp2_with (go_at_call 13; refine HSM.out.mono ?_; rintro e w25 ⟨rfl, hb25⟩)
    go_ret
    exact ⟨rfl, HBL24.out.trans (hb25.mono HBL24.out.size)⟩


end Go.Proofs.YtpnpbjdkldmmdaaDoor
