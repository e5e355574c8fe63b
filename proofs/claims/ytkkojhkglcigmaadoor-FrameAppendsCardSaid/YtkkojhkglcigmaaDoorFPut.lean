/-
  The walk through frame.put: the bytes of a frame behind those of a row of our own.
-/
import Derived.Test.YtkkojhkglcigmaaDoorNumsMay
import Derived.Test.YtkkojhkglcigmaaDoorZeros
import Derived.Test.YtkkojhkglcigmaaDoorAppend
namespace Go.Proofs.YtkkojhkglcigmaaDoor
open Go.RowKit
set_option linter.unusedVariables false

/-- A frame's bytes. -/
def bytesF (f : PF) : List UInt8 := if f.kind = 0 then List.replicate f.n 0 else encs (numsN f) ++ f.data ++ f.cid ++ (if bt (partsN f.kind) 2048 = true then f.token else [])

/-- The bytes so far, in a row of our own; the box of the frame beside it. -/
def PSt (w : World) (base g : Nat) (R : Array Value) (v : Value) (l : List UInt8) (wx : World) : Prop :=
  wx.ownsRow base 5 1 v l.length (l.map cell8) ∧ Below base w wx ∧ Wh wx g 32 R ∧ v.ownBlock ≠ some g

theorem PSt.more {w wx : World} {base g : Nat} {R : Array Value} {v : Value} {l : List UInt8} (h : PSt w base g R v l wx) (hb : base ≤ w.heap.size) (m : List UInt8) {v' : Value} {w' : World}
    (h1 : w'.ownsRow base 5 1 v' (l.length + m.length) (l.map cell8 ++ m.map cell8)) (h2 : wx.grownBy w' v.ownBlock) (h3 : v'.ownBlock = v.ownBlock ∨ v'.ownBlock = some wx.heap.size) : PSt w base g R v' (l ++ m) w' := by
  have hs := h.2.1.size
  refine ⟨by rw [List.length_append, List.map_append]; exact h1, h.2.1.grown h2 (by omega) (fun q hq => (h.1.lt q hq).1), h.2.2.1.grown h2 (fun e => h.2.2.2 e.symm), fun e => ?_⟩
  rcases h3 with h3 | h3
  · exact h.2.2.2 (h3 ▸ e)
  · rw [h3] at e
    have := h.2.2.1.lt
    have := Option.some.inj e
    omega

/-- What put leaves. -/
def PutGave (w : World) (base : Nat) (l : List UInt8) (e : Ending) (w' : World) : Prop :=
  ∃ v', e = .returned v' ∧ w'.ownsRow base 5 1 v' l.length (l.map cell8) ∧ Below base w w'

set_option maxRecDepth 100000 in
set_option maxHeartbeats 4000000 in
theorem fput_any (R : Array Value) (f : PF) (a : SA) (w : World) (B base : Nat) (v : Value) (b : List UInt8) (hR : RowIs R f a) (hf : FrAt w B f a) (hB : B ≤ base) (hbase : base ≤ w.heap.size)
    (hown : w.ownsRow base 5 1 v b.length (b.map cell8)) (hT : PT w) (hTb : 0 < base) (hTab : Tab w) (hm : MayF f) (hl : f.acks.length ≤ 4000) (hbl : b.length ≤ 1099511627776) (hdl : f.data.length + f.cid.length ≤ 1099511627776) :
    Calls Tryd.prog 32 #[v, .agg R] w (PutGave w base (b ++ bytesF f)) := by
  obtain ⟨i0, hi0, hz0, hz1, hz2⟩ := info_parts info8
  have h0 := hR.kind
  have h5 := hR.n
  have h7 := hR.data
  have h8 := hR.cid
  have hsz := hR.size
  have hvb : ∀ g, v.ownBlock = some g → base ≤ g ∧ g < w.heap.size := fun g hg => hown.lt g hg
  have hw0 : Wh (w.alloc (.cells R 32)) w.heap.size 32 R := Wh.new w _ R
  have hb0 : Below w.heap.size w (w.alloc (.cells R 32)) := (Below.refl _ _).alloc (Nat.le_refl _) _
  have HI : Hid ((Tryd.prog.info? 32).map (·.size) = some R.size) := by rw [hsz]; exact info_frame
  have HBF : Hid (bytesF f = if f.kind = 0 then List.replicate f.n 0 else encs (numsN f) ++ f.data ++ f.cid ++ (if bt (partsN f.kind) 2048 = true then f.token else [])) := rfl
  have HO0 := Lib.hid (hown.alloc (.cells R 32))
  have HOW := Lib.hid hown
  have HVB := Lib.hid hvb
  have HB := Lib.hid hb0
  have HW := Lib.hid hw0
  have HR := Lib.hid hR
  have HF := Lib.hid hf
  have HT := Lib.hid hT
  have HTAB := Lib.hid hTab
  have HMF := Lib.hid hm
  clear hown hvb hw0 hb0 hR hf hT hTab hm hsz
  by_cases hk : f.kind = 0
  · have t1 : ((f.kind : Int) == 0) = true := by simp; omega
    have hn : 1 ≤ f.n ∧ f.n ≤ 65536 := HMF.out.2.2.2.1 hk
    have HS : Hid (bytesF f = List.replicate f.n 0) := HBF.out.trans (if_pos hk)
    have HSB : Hid (w.heap.size ≤ (w.alloc (.cells R 32)).heap.size) := HB.out.size
    clear hk h7 h8
    go_enter Tryd.func32, Tryd.ntmps32
    obtain ⟨v2, w2, hrun, hown2, hg2⟩ := run_append_zeros_own (P := Tryd.prog) (w.alloc (.cells R 32)) base 22 24 22 5 i0 _ (.int .u8 0) .u64 .u64 Tryd.underlying22 Tryd.underlying24 hi0 hz0 hz1 hz2 rfl rfl v b.length _ HO0.out f.n hn.1 (by unfold maxLen; omega) (by omega) (by have := HSB.out; omega)
    have HRUN := Lib.hid hrun
    clear hrun
    go_wp2_with (first
      | (at_builtin; refine Lib.wpList_append_run _ rfl (.tmp 10) (.tmp 12) _ _ rfl _ _ rfl rfl _ _ HRUN.out ?_))
    go_ret
    refine ⟨v2, rfl, ?_, ?_⟩
    · rw [HS.out, List.length_append, List.map_append, List.length_replicate, List.map_replicate]
      exact hown2
    · exact (HB.out.mono hbase).grown hg2 (by have := HSB.out; omega) (fun g hg => (HVB.out g hg).1)
  · have t1 : ((f.kind : Int) == 0) = false := by rw [beq_eq_false_iff_ne]; omega
    have HS : Hid (bytesF f = encs (numsN f) ++ f.data ++ f.cid ++ (if bt (partsN f.kind) 2048 = true then f.token else [])) := HBF.out.trans (if_neg hk)
    have HNU := Lib.hid (numbers_any R f a (w.alloc (.cells R 32)) B HR.out (HF.out.below (HB.out.mono (Nat.le_trans hB hbase))) (Nat.le_trans (Nat.le_trans hB hbase) HB.out.size) (HT.out.below HB.out HT.out.lt) (may_acks HMF.out (by omega)))
    have HSM := Lib.hid (nums_small HMF.out (by omega) HF.out.cl).may
    have hnl := numsN_len2 hl
    have hsum := sumSz_le (numsN f)
    have HEL := Lib.hid (encs_length (numsN f))
    clear hk h5 h7 h8
    generalize numsN f = ns at *
    go_enter Tryd.func32, Tryd.ntmps32
    go_wp2_with (refine wpList_load_any 32 (.tmp 3) rfl rfl w.heap.size rfl _ R _ HW.out Tryd.underlying32 rfl HI.out ?_)
    refine HNU.out.mono ?_
    rintro e w2 ⟨A2, c2, rfl, q1, q2, hown2, hb2⟩
    have HB2 := Lib.hid (HB.out.trans (hb2.mono HB.out.size))
    have HW2 := Lib.hid (HW.out.below hb2 HW.out.lt)
    have HN2 := Lib.hid (show Sn w2 w2.heap.size A2 ns from Sv.of_own hown2)
    clear hown2 hb2 q1 q2
    have HT2 := Lib.hid (HTAB.out.below HB2.out HTAB.out.lt)
    go_wp2_with fail
    refine (append_ok none 0 0 A2 ns.length c2 [] ns w2 w2.heap.size rfl (Sv.nil _ _ _) rfl HN2.out (Nat.le_refl _) (by omega) (by omega) HSM.out HT2.out).mono ?_
    rintro e w3 ⟨A3, c3, rfl, q1, q2, hown3, hb3⟩
    rw [List.nil_append] at hown3 q1 ⊢
    have hlg : (encs ns).length ≤ 64160 := by have := HEL.out; omega
    have HB3 := Lib.hid (HB2.out.trans (hb3.mono HB2.out.size))
    have HW3 := Lib.hid (HW2.out.below hb3 HW2.out.lt)
    have HG3 := Lib.hid (show Sl w3 w3.heap.size A3 (encs ns) from Sv.of_own hown3)
    have HP3 : Hid (PSt w base w.heap.size R v b w3) := ⟨own_below HOW.out HB3.out, HB3.out.mono hbase, HW3.out, fun e => by have := HVB.out _ e; omega⟩
    clear hown3 hb3 q1 q2
    generalize encs ns = g at *
    go_wp2_with (first
      | (at_builtin; refine wpList_append_sv _ rfl (.tmp 20) (.tmp 21) _ rfl base 5 i0 _ 1 Tryd.underlying22 hi0 hz0 hz1 hz2 rfl v (b).length ((b).map cell8) rfl HP3.out.1 w3.heap.size A3 (g).length _ ((g).map cell8) rfl HG3.out (List.length_map _) (cell8_one _) (by (try simp only [List.length_append]); unfold maxLen; omega) (by (try simp only [List.length_append]); omega) (Nat.le_trans hbase HP3.out.2.1.size) ?_; intro v4 w4 hown4 hg4 hat4; have HP4 := Lib.hid (HP3.out.more hbase (g) hown4 hg4 hat4); clear hown4 hg4 hat4; have c7 := (HP4.out.2.2.1.cell 7).trans HR.out.data)
      | (at_builtin; refine wpList_append_sv _ rfl (.tmp 23) (.tmp 25) _ rfl base 5 i0 _ 1 Tryd.underlying22 hi0 hz0 hz1 hz2 rfl v4 (b ++ g).length ((b ++ g).map cell8) rfl HP4.out.1 B a.dA (f.data).length a.dc ((f.data).map cell8) rfl (HF.out.data.below (HP4.out.2.1.mono hB)) (List.length_map _) (cell8_one _) (by (try simp only [List.length_append]); unfold maxLen; omega) (by (try simp only [List.length_append]); omega) (Nat.le_trans hbase HP4.out.2.1.size) ?_; intro v5 w5 hown5 hg5 hat5; have HP5 := Lib.hid (HP4.out.more hbase (f.data) hown5 hg5 hat5); clear hown5 hg5 hat5; clear c7; have c8 := (HP5.out.2.2.1.cell 8).trans HR.out.cid)
      | (at_builtin; refine wpList_append_sv _ rfl (.tmp 27) (.tmp 29) _ rfl base 5 i0 _ 1 Tryd.underlying22 hi0 hz0 hz1 hz2 rfl v5 (b ++ g ++ f.data).length ((b ++ g ++ f.data).map cell8) rfl HP5.out.1 B a.cA (f.cid).length a.cc ((f.cid).map cell8) rfl (HF.out.cid.below (HP5.out.2.1.mono hB)) (List.length_map _) (cell8_one _) (by (try simp only [List.length_append]); unfold maxLen; omega) (by (try simp only [List.length_append]); omega) (Nat.le_trans hbase HP5.out.2.1.size) ?_; intro v6 w6 hown6 hg6 hat6; have HP6 := Lib.hid (HP5.out.more hbase (f.cid) hown6 hg6 hat6); clear hown6 hg6 hat6; clear c8; have c0 := (HP6.out.2.2.1.cell 0).trans HR.out.kind)
      | fail)
    refine (partsOf_any f.kind w6 (HT.out.below HP6.out.2.1 hTb)).mono ?_
    rintro e w' ⟨rfl, rfl⟩
    have HTL := Lib.hid HF.out.tok
    have HSV : Hid (Sv w6 (w.heap.size + 1) (some ⟨w.heap.size, 9, none⟩) (f.token.map cell8)) := by
      show Sv _ _ _ _
      intro _
      exact ⟨w.heap.size, 9, rfl, Nat.lt_succ_self _, fun i v hv => (HP6.out.2.2.1.cell (9 + i)).trans (HR.out.tok i v hv)⟩
    clear c0
    cases hb : bt (partsN f.kind) 2048
    · have hbt : (bits .and .u16 (partsN f.kind : Int) 2048 != 0) = false := hb
      have HQ : Hid (bytesF f = g ++ f.data ++ f.cid) := by show _ = _; rw [HS.out, hb]; simp
      clear hb
      go_wp2
      go_ret
      refine ⟨v6, rfl, ?_, HP6.out.2.1⟩
      rw [HQ.out, ← List.append_assoc, ← List.append_assoc]
      exact HP6.out.1
    · have hbt : (bits .and .u16 (partsN f.kind : Int) 2048 != 0) = true := hb
      have HQ : Hid (bytesF f = g ++ f.data ++ f.cid ++ f.token) := by show _ = _; rw [HS.out, hb]; rfl
      clear hb
      go_wp2_with (first
        | (at_builtin; refine wpList_append_sv _ rfl (.tmp 36) (.tmp 38) _ rfl base 5 i0 _ 1 Tryd.underlying22 hi0 hz0 hz1 hz2 rfl v6 (b ++ g ++ f.data ++ f.cid).length ((b ++ g ++ f.data ++ f.cid).map cell8) rfl HP6.out.1 (w.heap.size + 1) _ 16 _ (f.token.map cell8) rfl HSV.out ((List.length_map _).trans HTL.out) (cell8_one _) (by (try simp only [List.length_append]); unfold maxLen; omega) (by (try simp only [List.length_append]); omega) (Nat.le_trans hbase HP6.out.2.1.size) ?_; intro v7 w7 hown7 hg7 hat7; have HP7 := Lib.hid (HP6.out.more hbase f.token (by rw [HTL.out]; exact hown7) hg7 hat7); clear hown7 hg7 hat7)
        | fail)
      go_ret
      refine ⟨v7, rfl, ?_, HP7.out.2.1⟩
      rw [HQ.out, ← List.append_assoc, ← List.append_assoc, ← List.append_assoc]
      exact HP7.out.1

end Go.Proofs.YtkkojhkglcigmaaDoor
