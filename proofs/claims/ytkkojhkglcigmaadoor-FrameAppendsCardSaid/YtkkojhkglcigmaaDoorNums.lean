/-
  The walk through frame.numbers: all numbers of a frame as it is on the wire, a cut ahead of each test.
-/
import Derived.Test.YtkkojhkglcigmaaDoorAckNum
import Derived.Deep.DeepCutAuto
namespace Go.Proofs.YtkkojhkglcigmaaDoor
open Go.RowKit
set_option linter.unusedVariables false

/-- A frame's parts as they are on the wire: a stream that begins at 0 has no offset. -/
def wireP (f : PF) : Nat := if f.kind = 8 ∧ f.off = 0 then (bits .andNot .u16 (partsN 8 : Nat) 4).toNat else partsN f.kind

/-- What a part gives, if it is there. -/
def pn (f : PF) (k : Nat) (l : List Nat) : List Nat := if bt (wireP f) k = true then l else []

/-- All numbers of a frame on the wire. -/
def numsN (f : PF) : List Nat :=
  [wireN f] ++ pn f 2 [f.id] ++ pn f 4 [f.off] ++ pn f 8 [f.code] ++ pn f 16 [f.max] ++ pn f 128 (ackNums f) ++ pn f 256 [f.e0, f.e1, f.e2] ++ pn f 512 [f.data.length] ++ pn f 2048 [f.cid.length]

/-- The numbers so far: own ones, behind the world w1. -/
def NSt (w1 : World) (v : Value) (ns : List Nat) (wx : World) : Prop :=
  wx.ownsRow w1.heap.size 24 1 v ns.length (ns.map cell64) ∧ Below w1.heap.size w1 wx

theorem NSt.one {w1 wx : World} {v : Value} {ns : List Nat} (h : NSt w1 v ns wx) (x : Nat) (o : Obj) {v' : Value} {w' : World}
    (h1 : w'.ownsRow w1.heap.size 24 1 v' (ns.length + 1) (ns.map cell64 ++ [.int .u64 (x : Int)])) (h2 : (wx.alloc o).grownBy w' v.ownBlock) : NSt w1 v' (ns ++ [x]) w' := by
  refine ⟨by rw [List.length_append, List.map_append]; exact h1, ?_⟩
  have hd : Below w1.heap.size w1 (wx.alloc o) := h.2.alloc h.2.size _
  exact hd.grown h2 (by have := h.2.size; simp; omega) (fun g hg => (h.1.lt g hg).1)

theorem NSt.more {w1 wx : World} {v : Value} {ns : List Nat} (h : NSt w1 v ns wx) (l : List Nat) {v' : Value} {w' : World}
    (h1 : w'.ownsRow w1.heap.size 24 1 v' (ns.length + l.length) (ns.map cell64 ++ l.map cell64)) (h2 : wx.grownBy w' v.ownBlock) : NSt w1 v' (ns ++ l) w' := by
  refine ⟨by rw [List.length_append, List.map_append]; exact h1, ?_⟩
  exact h.2.grown h2 h.2.size (fun g hg => (h.1.lt g hg).1)

theorem NSt.below {w1 wx w' : World} {v : Value} {ns : List Nat} (h : NSt w1 v ns wx) (hb : Below wx.heap.size wx w') : NSt w1 v ns w' :=
  ⟨own_below h.1 hb, h.2.trans (hb.mono h.2.size)⟩

theorem lowNums_len (l : List (Nat × Nat)) : ∀ k, (lowNums l k).length = 2 * k
  | 0 => rfl
  | k + 1 => by unfold lowNums; rw [List.length_append, lowNums_len l k]; simp; omega

theorem ackNums_len (f : PF) : (ackNums f).length = 4 + 2 * (f.acks.length - 1) := by
  unfold ackNums
  simp only [List.length_append, lowNums_len]
  rfl

theorem cell64_one (l : List Nat) : ∀ u ∈ l.map cell64, u.oneCell' = true := fun u hu => by
  obtain ⟨n, _, rfl⟩ := List.mem_map.1 hu
  rfl

set_option maxRecDepth 100000 in
set_option maxHeartbeats 4000000 in
theorem numbers_any (R : Array Value) (f : PF) (a : SA) (w : World) (B : Nat) (hR : RowIs R f a) (hf : FrAt w B f a) (hB : B ≤ w.heap.size) (hT : PT w) (hA : bt (wireP f) 128 = true → f.acks ≠ [] ∧ OkR f.acks ∧ f.acks.length ≤ 65536) :
    Calls Tryd.prog 30 #[.agg R] w (NumsGave w (numsN f)) := by
  obtain ⟨i0, hi0, hz0, hz1, hz2⟩ := info_parts info64
  have h0 := hR.kind
  have h2 := hR.off
  have hsz := hR.size
  have HLdata := Lib.hid hf.dl
  have HLcid := Lib.hid hf.cl
  have hw0 : Wh (w.alloc (.cells R 32)) w.heap.size 32 R := Wh.new w _ R
  have hb0 : Below w.heap.size w (w.alloc (.cells R 32)) := (Below.refl _ _).alloc (Nat.le_refl _) _
  have HI : Hid ((Tryd.prog.info? 32).map (·.size) = some R.size) := by rw [hsz]; exact info_frame
  have HP := Lib.hid (partsOf_any f.kind)
  have HT := Lib.hid (hT.below hb0 hT.lt)
  have HWI := Lib.hid (fun w => wire_any R f a w hR)
  have HW := Lib.hid hw0
  have HB := Lib.hid hb0
  have HR := Lib.hid hR
  have HA := Lib.hid hA
  have HNS : Hid (numsN f = [wireN f] ++ pn f 2 [f.id] ++ pn f 4 [f.off] ++ pn f 8 [f.code] ++ pn f 16 [f.max] ++ pn f 128 (ackNums f) ++ pn f 256 [f.e0, f.e1, f.e2] ++ pn f 512 [f.data.length] ++ pn f 2048 [f.cid.length]) := rfl
  have HAK := Lib.hid (fun (wx : World) (h : Below (w.heap.size + 1) (w.alloc (.cells R 32)) wx) (h1 : f.acks ≠ [] ∧ OkR f.acks ∧ f.acks.length ≤ 65536) => ackNums_any R f a wx B hR (hf.below ((hb0.trans (h.mono (Nat.le_succ _))).mono hB)) (Nat.le_trans hB (by have := (hb0.trans (h.mono (Nat.le_succ _))).size; omega)) h1.1 h1.2.1 h1.2.2)
  clear hA
  have HP8 : Hid (wireP f = if f.kind = 8 ∧ f.off = 0 then (bits .andNot .u16 (partsN 8 : Nat) 4).toNat else partsN f.kind) := rfl
  clear hsz hR hf hT hw0 hb0 hB
  go_enter Tryd.func30, Tryd.ntmps30
  go_wp2_with fail
  refine (HP.out _ HT.out).mono ?_
  rintro e w' ⟨rfl, rfl⟩
  go_upto_region 2 with fail
  go_cut [15] (fun v wx => v = .bool (decide (f.kind = 8 ∧ f.off = 0)) ∧ wx = w.alloc (.cells R 32))
  case first =>
    by_cases hk : f.kind = 8
    · have t1 : ((f.kind : Int) == 8) = true := by simp; omega
      by_cases ho : f.off = 0
      · have t2 : ((f.off : Int) == 0) = true := by simp; omega
        have HD : Hid (decide (f.kind = 8 ∧ f.off = 0) = true) := decide_eq_true ⟨hk, ho⟩
        clear hk ho
        go_wp2_with fail
        go_meet
        exact ⟨by rw [HD.out], rfl⟩
      · have t2 : ((f.off : Int) == 0) = false := by simp; omega
        have HD : Hid (decide (f.kind = 8 ∧ f.off = 0) = false) := decide_eq_false (fun h => ho h.2)
        clear hk ho
        go_wp2_with fail
        go_meet
        exact ⟨by rw [HD.out], rfl⟩
    · have t1 : ((f.kind : Int) == 8) = false := by simp; omega
      have HD : Hid (decide (f.kind = 8 ∧ f.off = 0) = false) := decide_eq_false (fun h => hk h.1)
      clear hk
      go_wp2_with fail
      go_meet
      exact ⟨by rw [HD.out], rfl⟩
  case rest =>
  obtain ⟨rfl, rfl⟩ := hcut
  go_upto_if 15 with fail
  go_cut [3] (fun v wx => v = .int .u16 (wireP f : Int) ∧ wx = w.alloc (.cells R 32))
  case first =>
    by_cases hd : f.kind = 8 ∧ f.off = 0
    · have HD : Hid (decide (f.kind = 8 ∧ f.off = 0) = true) := decide_eq_true hd
      have HE : Hid (bits .andNot .u16 (partsN f.kind : Nat) 4 = (wireP f : Int)) := by
        show _ = _
        rw [HP8.out, if_pos hd, hd.1]
        decide
      rw [HD.out]
      clear hd
      go_wp2_with fail
      go_meet
      exact ⟨by rw [HE.out], rfl⟩
    · have HD : Hid (decide (f.kind = 8 ∧ f.off = 0) = false) := decide_eq_false hd
      have HE : Hid (partsN f.kind = wireP f) := by
        show _ = _
        rw [HP8.out, if_neg hd]
      rw [HD.out]
      clear hd
      go_wp2_with fail
      go_meet
      exact ⟨by rw [HE.out], rfl⟩
  case rest =>
  obtain ⟨rfl, rfl⟩ := hcut
  have HLT := Lib.hid HW.out.lt
  have HB1 := Lib.hid HB.out
  have HS : Hid ((w.alloc (.cells R 32)).heap.size = w.heap.size + 1) := by show _ = _; simp
  clear h0 h2
  generalize (w.alloc (.cells R 32)) = w1 at *
  go_wp2_with (refine wpList_load_any 32 (.tmp 1) rfl rfl w.heap.size rfl _ R _ HW.out Tryd.underlying32 rfl HI.out ?_)
  refine (HWI.out _).mono ?_
  rintro e w2 ⟨rfl, hb2⟩
  have HB2 := Lib.hid hb2
  clear hb2
  go_upto_if 23 with fail
  obtain ⟨ns, hns⟩ : ∃ ns, ns = [wireN f] := ⟨_, rfl⟩
  have hnl : ns.length ≤ 1 := by rw [hns]; simp
  have HN : Hid (NSt w1 (.slice (some ⟨w2.heap.size, 0, none⟩) 1 1) ns (w2.alloc (.cells #[.int .u64 (wireN f : Int)] 24))) := by
    show NSt _ _ _ _
    have hs := HB2.out.size
    rw [hns]
    exact ⟨⟨rfl, .inr ⟨w2.heap.size, 1, _, rfl, hs, heap_alloc_new w2 _, Nat.le_refl _, by unfold maxLen; omega, rfl, rfl⟩⟩, HB2.out.alloc hs _⟩
  have HE := Lib.hid hns
  clear hns
  generalize (Value.slice (some ⟨w2.heap.size, 0, none⟩) 1 1) = v2 at *
  generalize (w2.alloc (.cells #[.int .u64 (wireN f : Int)] 24)) = w3 at *
  -- PIECES
  go_cut [4] (fun v wx => ∃ ns : List Nat, Hid (NSt w1 v ns wx) ∧ Hid (ns = [wireN f] ++ pn f 2 [f.id]) ∧ ns.length ≤ 2)
  case first =>
    have HWW := Lib.hid (HW.out.below HN.out.2 HLT.out)
    cases hb : bt (wireP f) 2
    · have hbt : (bits .and .u16 (wireP f : Int) 2 != 0) = false := hb
      have HX : Hid (pn f 2 [f.id] = []) := by show _ = _; unfold pn; rw [hb]; rfl
      clear hb
      go_wp2_with fail
      go_meet
      exact ⟨ns, HN, Lib.hid (by rw [HX.out, List.append_nil]; exact HE.out), by omega⟩
    · have hbt : (bits .and .u16 (wireP f : Int) 2 != 0) = true := hb
      have HX : Hid (pn f 2 [f.id] = [f.id]) := by show _ = _; unfold pn; rw [hb]; rfl
      have c1 := (HWW.out.cell 1).trans HR.out.id
      clear hb
      go_wp2_with (first
        | (at_builtin; refine wpList_append_sv _ rfl (.tmp 24) (.tmp 27) _ rfl w1.heap.size 24 i0 _ 8 Tryd.underlying64 hi0 hz0 hz1 hz2 rfl _ ns.length _ rfl (HN.out.1.alloc _) (_ + 1) _ 1 _ _ rfl (sv_blk _ _ _ _ (Nat.lt_succ_self _)) rfl (fun u hu => by simp at hu; subst hu; rfl) (by unfold maxLen; omega) (by omega) (by have := HN.out.2.size; simp; omega) ?_; intro v6 w6 hown6 hg6 hat6))
      have HN6 := Lib.hid (HN.out.one f.id _ hown6 hg6)
      clear hown6 hg6 hat6
      go_wp2_with fail
      go_meet
      exact ⟨ns ++ [f.id], HN6, Lib.hid (by rw [HX.out, ← HE.out]), by rw [List.length_append]; simp; omega⟩
  case rest =>
  clear HN HE hnl
  obtain ⟨ns, HN, HE, hnl⟩ := hcut
  go_upto_if 31 with fail
  go_cut [4] (fun v wx => ∃ ns : List Nat, Hid (NSt w1 v ns wx) ∧ Hid (ns = [wireN f] ++ pn f 2 [f.id] ++ pn f 4 [f.off]) ∧ ns.length ≤ 3)
  case first =>
    have HWW := Lib.hid (HW.out.below HN.out.2 HLT.out)
    cases hb : bt (wireP f) 4
    · have hbt : (bits .and .u16 (wireP f : Int) 4 != 0) = false := hb
      have HX : Hid (pn f 4 [f.off] = []) := by show _ = _; unfold pn; rw [hb]; rfl
      clear hb
      go_wp2_with fail
      go_meet
      exact ⟨ns, HN, Lib.hid (by rw [HX.out, List.append_nil]; exact HE.out), by omega⟩
    · have hbt : (bits .and .u16 (wireP f : Int) 4 != 0) = true := hb
      have HX : Hid (pn f 4 [f.off] = [f.off]) := by show _ = _; unfold pn; rw [hb]; rfl
      have c1 := (HWW.out.cell 2).trans HR.out.off
      clear hb
      go_wp2_with (first
        | (at_builtin; refine wpList_append_sv _ rfl (.tmp 32) (.tmp 35) _ rfl w1.heap.size 24 i0 _ 8 Tryd.underlying64 hi0 hz0 hz1 hz2 rfl _ ns.length _ rfl (HN.out.1.alloc _) (_ + 1) _ 1 _ _ rfl (sv_blk _ _ _ _ (Nat.lt_succ_self _)) rfl (fun u hu => by simp at hu; subst hu; rfl) (by unfold maxLen; omega) (by omega) (by have := HN.out.2.size; simp; omega) ?_; intro v6 w6 hown6 hg6 hat6))
      have HN6 := Lib.hid (HN.out.one f.off _ hown6 hg6)
      clear hown6 hg6 hat6
      go_wp2_with fail
      go_meet
      exact ⟨ns ++ [f.off], HN6, Lib.hid (by rw [HX.out, ← HE.out]), by rw [List.length_append]; simp; omega⟩
  case rest =>
  clear HN HE hnl
  obtain ⟨ns, HN, HE, hnl⟩ := hcut
  go_upto_if 39 with fail
  go_cut [4] (fun v wx => ∃ ns : List Nat, Hid (NSt w1 v ns wx) ∧ Hid (ns = [wireN f] ++ pn f 2 [f.id] ++ pn f 4 [f.off] ++ pn f 8 [f.code]) ∧ ns.length ≤ 4)
  case first =>
    have HWW := Lib.hid (HW.out.below HN.out.2 HLT.out)
    cases hb : bt (wireP f) 8
    · have hbt : (bits .and .u16 (wireP f : Int) 8 != 0) = false := hb
      have HX : Hid (pn f 8 [f.code] = []) := by show _ = _; unfold pn; rw [hb]; rfl
      clear hb
      go_wp2_with fail
      go_meet
      exact ⟨ns, HN, Lib.hid (by rw [HX.out, List.append_nil]; exact HE.out), by omega⟩
    · have hbt : (bits .and .u16 (wireP f : Int) 8 != 0) = true := hb
      have HX : Hid (pn f 8 [f.code] = [f.code]) := by show _ = _; unfold pn; rw [hb]; rfl
      have c1 := (HWW.out.cell 4).trans HR.out.code
      clear hb
      go_wp2_with (first
        | (at_builtin; refine wpList_append_sv _ rfl (.tmp 40) (.tmp 43) _ rfl w1.heap.size 24 i0 _ 8 Tryd.underlying64 hi0 hz0 hz1 hz2 rfl _ ns.length _ rfl (HN.out.1.alloc _) (_ + 1) _ 1 _ _ rfl (sv_blk _ _ _ _ (Nat.lt_succ_self _)) rfl (fun u hu => by simp at hu; subst hu; rfl) (by unfold maxLen; omega) (by omega) (by have := HN.out.2.size; simp; omega) ?_; intro v6 w6 hown6 hg6 hat6))
      have HN6 := Lib.hid (HN.out.one f.code _ hown6 hg6)
      clear hown6 hg6 hat6
      go_wp2_with fail
      go_meet
      exact ⟨ns ++ [f.code], HN6, Lib.hid (by rw [HX.out, ← HE.out]), by rw [List.length_append]; simp; omega⟩
  case rest =>
  clear HN HE hnl
  obtain ⟨ns, HN, HE, hnl⟩ := hcut
  go_upto_if 47 with fail
  go_cut [4] (fun v wx => ∃ ns : List Nat, Hid (NSt w1 v ns wx) ∧ Hid (ns = [wireN f] ++ pn f 2 [f.id] ++ pn f 4 [f.off] ++ pn f 8 [f.code] ++ pn f 16 [f.max]) ∧ ns.length ≤ 5)
  case first =>
    have HWW := Lib.hid (HW.out.below HN.out.2 HLT.out)
    cases hb : bt (wireP f) 16
    · have hbt : (bits .and .u16 (wireP f : Int) 16 != 0) = false := hb
      have HX : Hid (pn f 16 [f.max] = []) := by show _ = _; unfold pn; rw [hb]; rfl
      clear hb
      go_wp2_with fail
      go_meet
      exact ⟨ns, HN, Lib.hid (by rw [HX.out, List.append_nil]; exact HE.out), by omega⟩
    · have hbt : (bits .and .u16 (wireP f : Int) 16 != 0) = true := hb
      have HX : Hid (pn f 16 [f.max] = [f.max]) := by show _ = _; unfold pn; rw [hb]; rfl
      have c1 := (HWW.out.cell 3).trans HR.out.max
      clear hb
      go_wp2_with (first
        | (at_builtin; refine wpList_append_sv _ rfl (.tmp 48) (.tmp 51) _ rfl w1.heap.size 24 i0 _ 8 Tryd.underlying64 hi0 hz0 hz1 hz2 rfl _ ns.length _ rfl (HN.out.1.alloc _) (_ + 1) _ 1 _ _ rfl (sv_blk _ _ _ _ (Nat.lt_succ_self _)) rfl (fun u hu => by simp at hu; subst hu; rfl) (by unfold maxLen; omega) (by omega) (by have := HN.out.2.size; simp; omega) ?_; intro v6 w6 hown6 hg6 hat6))
      have HN6 := Lib.hid (HN.out.one f.max _ hown6 hg6)
      clear hown6 hg6 hat6
      go_wp2_with fail
      go_meet
      exact ⟨ns ++ [f.max], HN6, Lib.hid (by rw [HX.out, ← HE.out]), by rw [List.length_append]; simp; omega⟩
  case rest =>
  clear HN HE hnl
  obtain ⟨ns, HN, HE, hnl⟩ := hcut
  go_upto_if 55 with fail
  go_cut [4] (fun v wx => ∃ ns : List Nat, Hid (NSt w1 v ns wx) ∧ Hid (ns = [wireN f] ++ pn f 2 [f.id] ++ pn f 4 [f.off] ++ pn f 8 [f.code] ++ pn f 16 [f.max] ++ pn f 128 (ackNums f)) ∧ ns.length ≤ 131100)
  case first =>
    have HWW := Lib.hid (HW.out.below HN.out.2 HLT.out)
    cases hb : bt (wireP f) 128
    · have hbt : (bits .and .u16 (wireP f : Int) 128 != 0) = false := hb
      have HX : Hid (pn f 128 (ackNums f) = []) := by show _ = _; unfold pn; rw [hb]; rfl
      clear hb
      go_wp2_with fail
      go_meet
      exact ⟨ns, HN, Lib.hid (by rw [HX.out, List.append_nil]; exact HE.out), by omega⟩
    · have hbt : (bits .and .u16 (wireP f : Int) 128 != 0) = true := hb
      have HX : Hid (pn f 128 (ackNums f) = (ackNums f)) := by show _ = _; unfold pn; rw [hb]; rfl
      have hq := HA.out hb
      have HQ := Lib.hid hq
      have hqn : (ackNums f).length ≤ 131080 := by rw [ackNums_len]; have := hq.2.2; omega
      clear hb hq
      go_wp2_with (refine wpList_load_any 32 (.tmp 1) rfl rfl w.heap.size rfl _ R _ HWW.out Tryd.underlying32 rfl HI.out ?_)
      refine (HAK.out _ (by have := HN.out.2; rwa [HS.out] at this) HQ.out).mono ?_
      rintro e w5 ⟨A5, c5, rfl, q1, q2, hown5, hb5⟩
      have HN5 := Lib.hid (HN.out.below hb5)
      have HO5 := Lib.hid hown5
      clear hown5 hb5
      go_wp2_with (first
        | (at_builtin; refine wpList_append_sv _ rfl (.tmp 56) (.tmp 58) _ rfl w1.heap.size 24 i0 _ 8 Tryd.underlying64 hi0 hz0 hz1 hz2 rfl _ ns.length _ rfl HN5.out.1 _ _ (ackNums f).length _ _ rfl (Sv.of_own HO5.out) (List.length_map _) (cell64_one _) (by unfold maxLen; omega) (by omega) HN5.out.2.size ?_; intro v6 w6 hown6 hg6 hat6))
      have HN6 := Lib.hid (HN5.out.more (ackNums f) hown6 hg6)
      clear hown6 hg6 hat6
      go_wp2_with fail
      go_meet
      exact ⟨ns ++ (ackNums f), HN6, Lib.hid (by rw [HX.out, ← HE.out]), by rw [List.length_append]; omega⟩
  case rest =>
  clear HN HE hnl
  obtain ⟨ns, HN, HE, hnl⟩ := hcut
  go_upto_if 62 with fail
  go_cut [4] (fun v wx => ∃ ns : List Nat, Hid (NSt w1 v ns wx) ∧ Hid (ns = [wireN f] ++ pn f 2 [f.id] ++ pn f 4 [f.off] ++ pn f 8 [f.code] ++ pn f 16 [f.max] ++ pn f 128 (ackNums f) ++ pn f 256 [f.e0, f.e1, f.e2]) ∧ ns.length ≤ 131103)
  case first =>
    have HWW := Lib.hid (HW.out.below HN.out.2 HLT.out)
    cases hb : bt (wireP f) 256
    · have hbt : (bits .and .u16 (wireP f : Int) 256 != 0) = false := hb
      have HX : Hid (pn f 256 [f.e0, f.e1, f.e2] = []) := by show _ = _; unfold pn; rw [hb]; rfl
      clear hb
      go_wp2_with fail
      go_meet
      exact ⟨ns, HN, Lib.hid (by rw [HX.out, List.append_nil]; exact HE.out), by omega⟩
    · have hbt : (bits .and .u16 (wireP f : Int) 256 != 0) = true := hb
      have HX : Hid (pn f 256 [f.e0, f.e1, f.e2] = [f.e0, f.e1, f.e2]) := by show _ = _; unfold pn; rw [hb]; rfl
      clear hb
      have HSV : Hid (Sv wc w1.heap.size (some ⟨w.heap.size, 27, none⟩) ([f.e0, f.e1, f.e2].map cell64)) := by
        show Sv _ _ _ _
        intro _
        refine ⟨w.heap.size, 27, rfl, HLT.out, fun i v hv => ?_⟩
        match i, hv with
        | 0, hv => obtain rfl := Option.some.inj hv; exact (HWW.out.cell 27).trans HR.out.e0
        | 1, hv => obtain rfl := Option.some.inj hv; exact (HWW.out.cell 28).trans HR.out.e1
        | 2, hv => obtain rfl := Option.some.inj hv; exact (HWW.out.cell 29).trans HR.out.e2
        | _ + 3, hv => simp at hv
      go_wp2_with (first
        | (at_builtin; refine wpList_append_sv _ rfl (.tmp 63) (.tmp 65) _ rfl w1.heap.size 24 i0 _ 8 Tryd.underlying64 hi0 hz0 hz1 hz2 rfl _ ns.length _ rfl HN.out.1 _ _ 3 _ _ rfl HSV.out rfl (cell64_one _) (by unfold maxLen; omega) (by omega) HN.out.2.size ?_; intro v6 w6 hown6 hg6 hat6))
      have HN6 := Lib.hid (HN.out.more [f.e0, f.e1, f.e2] hown6 hg6)
      clear hown6 hg6 hat6
      go_wp2_with fail
      go_meet
      exact ⟨ns ++ [f.e0, f.e1, f.e2], HN6, Lib.hid (by rw [HX.out, ← HE.out]), by rw [List.length_append]; simp; omega⟩
  case rest =>
  clear HN HE hnl
  obtain ⟨ns, HN, HE, hnl⟩ := hcut
  go_upto_if 69 with fail
  go_cut [4] (fun v wx => ∃ ns : List Nat, Hid (NSt w1 v ns wx) ∧ Hid (ns = [wireN f] ++ pn f 2 [f.id] ++ pn f 4 [f.off] ++ pn f 8 [f.code] ++ pn f 16 [f.max] ++ pn f 128 (ackNums f) ++ pn f 256 [f.e0, f.e1, f.e2] ++ pn f 512 [f.data.length]) ∧ ns.length ≤ 131104)
  case first =>
    have HWW := Lib.hid (HW.out.below HN.out.2 HLT.out)
    cases hb : bt (wireP f) 512
    · have hbt : (bits .and .u16 (wireP f : Int) 512 != 0) = false := hb
      have HX : Hid (pn f 512 [f.data.length] = []) := by show _ = _; unfold pn; rw [hb]; rfl
      clear hb
      go_wp2_with fail
      go_meet
      exact ⟨ns, HN, Lib.hid (by rw [HX.out, List.append_nil]; exact HE.out), by omega⟩
    · have hbt : (bits .and .u16 (wireP f : Int) 512 != 0) = true := hb
      have HX : Hid (pn f 512 [f.data.length] = [f.data.length]) := by show _ = _; unfold pn; rw [hb]; rfl
      have c1 := (HWW.out.cell 7).trans HR.out.data
      have q1 := HLdata.out
      have z1 : IntKind.u64.wrap (f.data.length : Int) = (f.data.length : Int) := IntWalk.u64_in _ (by omega)
      clear hb
      go_wp2_with (first
        | (at_builtin; refine wpList_append_sv _ rfl (.tmp 70) (.tmp 75) _ rfl w1.heap.size 24 i0 _ 8 Tryd.underlying64 hi0 hz0 hz1 hz2 rfl _ ns.length _ rfl (HN.out.1.alloc _) (_ + 1) _ 1 _ _ rfl (sv_blk _ _ _ _ (Nat.lt_succ_self _)) rfl (fun u hu => by simp at hu; subst hu; rfl) (by unfold maxLen; omega) (by omega) (by have := HN.out.2.size; simp; omega) ?_; intro v6 w6 hown6 hg6 hat6))
      have HN6 := Lib.hid (HN.out.one f.data.length _ hown6 hg6)
      clear hown6 hg6 hat6
      go_wp2_with fail
      go_meet
      exact ⟨ns ++ [f.data.length], HN6, Lib.hid (by rw [HX.out, ← HE.out]), by rw [List.length_append]; simp; omega⟩
  case rest =>
  clear HN HE hnl
  obtain ⟨ns, HN, HE, hnl⟩ := hcut
  go_upto_if 79 with fail
  go_cut [4] (fun v wx => ∃ ns : List Nat, Hid (NSt w1 v ns wx) ∧ Hid (ns = [wireN f] ++ pn f 2 [f.id] ++ pn f 4 [f.off] ++ pn f 8 [f.code] ++ pn f 16 [f.max] ++ pn f 128 (ackNums f) ++ pn f 256 [f.e0, f.e1, f.e2] ++ pn f 512 [f.data.length] ++ pn f 2048 [f.cid.length]) ∧ ns.length ≤ 131105)
  case first =>
    have HWW := Lib.hid (HW.out.below HN.out.2 HLT.out)
    cases hb : bt (wireP f) 2048
    · have hbt : (bits .and .u16 (wireP f : Int) 2048 != 0) = false := hb
      have HX : Hid (pn f 2048 [f.cid.length] = []) := by show _ = _; unfold pn; rw [hb]; rfl
      clear hb
      go_wp2_with fail
      go_meet
      exact ⟨ns, HN, Lib.hid (by rw [HX.out, List.append_nil]; exact HE.out), by omega⟩
    · have hbt : (bits .and .u16 (wireP f : Int) 2048 != 0) = true := hb
      have HX : Hid (pn f 2048 [f.cid.length] = [f.cid.length]) := by show _ = _; unfold pn; rw [hb]; rfl
      have c1 := (HWW.out.cell 8).trans HR.out.cid
      have q1 := HLcid.out
      have z1 : IntKind.u64.wrap (f.cid.length : Int) = (f.cid.length : Int) := IntWalk.u64_in _ (by omega)
      clear hb
      go_wp2_with (first
        | (at_builtin; refine wpList_append_sv _ rfl (.tmp 80) (.tmp 85) _ rfl w1.heap.size 24 i0 _ 8 Tryd.underlying64 hi0 hz0 hz1 hz2 rfl _ ns.length _ rfl (HN.out.1.alloc _) (_ + 1) _ 1 _ _ rfl (sv_blk _ _ _ _ (Nat.lt_succ_self _)) rfl (fun u hu => by simp at hu; subst hu; rfl) (by unfold maxLen; omega) (by omega) (by have := HN.out.2.size; simp; omega) ?_; intro v6 w6 hown6 hg6 hat6))
      have HN6 := Lib.hid (HN.out.one f.cid.length _ hown6 hg6)
      clear hown6 hg6 hat6
      go_wp2_with fail
      go_meet
      exact ⟨ns ++ [f.cid.length], HN6, Lib.hid (by rw [HX.out, ← HE.out]), by rw [List.length_append]; simp; omega⟩
  case rest =>
  clear HN HE hnl
  obtain ⟨ns, HN, HE, hnl⟩ := hcut
  go_wp2
  go_ret
  have hnf : ns = numsN f := HE.out.trans HNS.out.symm
  rw [← hnf]
  obtain ⟨A9, c9, rfl, q1, q2⟩ := own_form HN.out.1
  have hle := HLT.out
  exact ⟨A9, c9, rfl, q1, q2, own_mono HN.out.1 (by omega), HB1.out.trans (HN.out.2.mono (by omega))⟩

end Go.Proofs.YtkkojhkglcigmaaDoor
