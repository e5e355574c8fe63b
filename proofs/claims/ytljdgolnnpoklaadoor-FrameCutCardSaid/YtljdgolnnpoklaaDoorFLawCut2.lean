/-
  How many bytes a frame has that is not great. Plain mathematics.
  The walk through the statement FrameCut.
  The walk through the statement FrameCut where it asks.
-/
import Derived.Test.YtljdgolnnpoklaaDoorGreat
import Derived.Test.YtljdgolnnpoklaaDoorFKnown
namespace Go.Proofs.YtljdgolnnpoklaaDoor

section
set_option linter.unusedVariables false

theorem lowNums_lenF (l : List (Nat × Nat)) : ∀ k, (lowNums l k).length = 2 * k
  | 0 => rfl
  | k + 1 => by
    unfold lowNums
    rw [List.length_append, lowNums_lenF l k]
    simp
    omega

theorem pn_lenF (f : PF) (k : Nat) (l : List Nat) : (pn f k l).length ≤ l.length := by
  unfold pn
  split
  · exact Nat.le_refl _
  · exact Nat.zero_le _

theorem numsN_lenF (f : PF) : (numsN f).length ≤ 14 + 2 * f.acks.length := by
  have h : (ackNums f).length ≤ 4 + 2 * f.acks.length := by
    unfold ackNums
    simp only [List.length_append, List.length_cons, List.length_nil, lowNums_lenF]
    omega
  have h1 := pn_lenF f 2 [f.id]
  have h2 := pn_lenF f 4 [f.off]
  have h3 := pn_lenF f 8 [f.code]
  have h4 := pn_lenF f 16 [f.max]
  have h5 := pn_lenF f 128 (ackNums f)
  have h6 := pn_lenF f 256 [f.e0, f.e1, f.e2]
  have h7 := pn_lenF f 512 [f.data.length]
  have h8 := pn_lenF f 2048 [f.cid.length]
  unfold numsN
  simp only [List.length_append, List.length_cons, List.length_nil] at *
  omega

theorem size_small {f : PF} (h0 : f.kind ≠ 0) : sizeF f ≤ f.data.length + f.cid.length + 16 * f.acks.length + 128 := by
  have h1 := sumSz_le (numsN f)
  have h2 := numsN_lenF f
  unfold sizeF
  rw [if_neg h0]
  split <;> omega

/-- One frame that is not great. -/
theorem one_small {f : PF} {a : SA} (h : ¬ 4000 < greatN 0 [(f, a)]) : f.acks.length ≤ 4000 ∧ f.data.length + f.cid.length ≤ 64016 := by
  have e : greatN 0 [(f, a)] = 0 + wtF f := by
    show (if 0 ≤ 4000 then greatN (0 + wtF f) [] else 0) = _
    rw [if_pos (by omega)]
    rfl
  rw [e] at h
  unfold wtF at h
  split at h <;> omega
end

section
open Go.RowKit
set_option linter.unusedVariables false

theorem wpList_build_one {P : Program} {ops : Array Oper} {o : Oper} {a : Act} {w : World} {Q : Exit → Act → World → Prop} {rest : List Oper} (hgd : o.guard = none) (t e : TypeId) (x : Operand) (ho : o.op = .buildSlice t 1 #[(0, x)])
    (R : Array Value) (n : Nat) (hx : a.eval x = .agg R) (hR : R.size = n) (hn : 0 < n) (hn2 : n ≤ 1000) (ie : TypeInfo) (z : Value) (hu : P.underlying t = some (.slice e)) (hie : P.info? e = some ie) (hz : ie.zero = some z) (hs : ie.size = n)
    (h : wpList P ops Q rest (a.put o.dst (.slice (some ⟨w.heap.size, 0, none⟩) 1 1)) (w.alloc (.cells R e))) : wpList P ops Q (o :: rest) a w :=
  wpList_step fun K hK => step_build_one hgd t e x ho R n hx hR hn hn2 ie z hu hie hz hs (hK _ _ h)

theorem FrAt.up {w w' : World} {B B' : Nat} {f : PF} {a : SA} (h : FrAt w B f a) (hb : Below B w w') (hB : B ≤ B') : FrAt w' B' f a := by
  have hf := h.below hb
  exact { hf with data := hf.data.keep hB (fun _ _ => rfl), cid := hf.cid.keep hB (fun _ _ => rfl), acks := hf.acks.keep hB (fun _ _ => rfl) }

theorem sf_one {w : World} {g : Nat} {t : TypeId} {R : Array Value} {f : PF} {a : SA} (h : Wh w g t R) (hR : R = (rowF f a).toArray) (hf : FrAt w w.heap.size f a) : Sf w w.heap.size (some ⟨g, 0, none⟩) [(f, a)] :=
  sf_blk h (by rw [hR]; simp) (fun x hx => by rw [List.mem_singleton.1 hx]; exact hf)

/-- Where it has nothing to ask. -/
def CutFree (f : PF) (a : SA) (len : Nat) : Prop := 4000 < greatN 0 [(f, a)] ∨ ¬ MayF f ∨ f.kind = 0 ∨ 1000 < len

set_option maxRecDepth 100000 in
set_option maxHeartbeats 3200000 in
theorem fcut_free (R : Array Value) (f : PF) (a : SA) (A : Option Addr) (len c : Nat) (cut : Int) (w : World) (hT : PT w) (hR : R = (rowF f a).toArray) (hf : FrAt w w.heap.size f a) (hfree : CutFree f a len) :
    Calls Tryd.prog 5 #[.agg R, .int .i64 cut, .slice A len c] w fun e w' => e = .returned (.bool true) ∧ Below w.heap.size w w' := by
  obtain ⟨ie, hie, hzse⟩ := Option.map_eq_some_iff.1 info_frame2
  simp only [Prod.mk.injEq, Option.map_eq_some_iff] at hzse
  obtain ⟨hse, _, ze, hze, _⟩ := hzse
  have hi := rowF_is (f := f) a hf.tok
  rw [← hR] at hi
  have HI : Hid ((Tryd.prog.info? 32).map (·.size) = some R.size) := by show _ = _; rw [hi.size]; exact info_frame
  have HIS := Lib.hid hi
  have hb0 : Below w.heap.size w (w.alloc (.cells R 32)) := (Below.refl _ _).alloc (Nat.le_refl _) _
  have HW0 := Lib.hid (Wh.new w 32 R)
  have HK := Lib.hid (fknown_any _ (hT.below hb0 hT.lt))
  have HB0 := Lib.hid hb0
  have HT := Lib.hid hT
  have HR := Lib.hid hR
  have HF := Lib.hid hf
  have hlt0 : w.heap.size < (w.alloc (.cells R 32)).heap.size := by simp
  clear hT hR hf hi hb0
  go_enter Tryd.func5, Tryd.ntmps5
  go_upto_region 1 with fail
  generalize w.alloc (.cells R 32) = w0 at *
  go_wp2_with fail
  refine HK.out.mono ?_
  rintro e w1 ⟨rfl, hb1⟩
  have HB1 := Lib.hid (HB0.out.trans (hb1.mono HB0.out.size))
  have HW1 := Lib.hid (HW0.out.below hb1 hlt0)
  have HW2 := Lib.hid (Wh.new w1 32 R)
  have hb2 : Below w1.heap.size w1 (w1.alloc (.cells R 32)) := (Below.refl _ _).alloc (Nat.le_refl _) _
  have HB2 := Lib.hid (HB1.out.trans (hb2.mono HB1.out.size))
  have HW3 := Lib.hid (HW1.out.below hb2 HW1.out.lt)
  have HG := Lib.hid (great_any (some ⟨w1.heap.size, 0, none⟩) 1 1 [(f, a)] _ _ rfl (sf_one HW2.out HR.out (HF.out.up HB2.out HB2.out.size)) (Nat.le_refl _) (by omega))
  clear hb1 hb2 HK HB0 HW0 HW2
  go_wp2_with (first
    | (refine wpList_load_any 32 (.tmp 3) rfl rfl w.heap.size rfl _ R _ HW1.out Tryd.underlying32 rfl HI.out ?_)
    | (refine wpList_build_one rfl 23 32 (.tmp 13) rfl R 30 rfl HIS.out.size (by omega) (by omega) ie ze Tryd.underlying23 hie hze hse ?_))
  generalize w1.alloc (.cells R 32) = w2 at *
  refine HG.out.mono ?_
  rintro e w3 ⟨rfl, hb3⟩
  have HB3 := Lib.hid (HB2.out.trans (hb3.mono HB2.out.size))
  have HW4 := Lib.hid (HW3.out.below hb3 HW3.out.lt)
  clear hb3 HG HW3
  by_cases hg : 4000 < greatN 0 [(f, a)]
  · have d1 : decide (4000 < greatN 0 [(f, a)]) = true := decide_eq_true hg
    go_wp2_with fail
    go_ret
    exact ⟨rfl, HB3.out⟩
  · have d1 : decide (4000 < greatN 0 [(f, a)]) = false := decide_eq_false hg
    have HM := Lib.hid (may_any R f a w3 w3.heap.size HIS.out (HF.out.up HB3.out HB3.out.size) (Nat.le_refl _) (HT.out.below HB3.out HT.out.lt))
    go_wp2_with (refine wpList_load_any 32 (.tmp 3) rfl rfl w.heap.size rfl _ R _ HW4.out Tryd.underlying32 rfl HI.out ?_)
    refine HM.out.mono ?_
    rintro e w4 ⟨hy, hn, hb4⟩
    have HB4 := Lib.hid (HB3.out.trans (hb4.mono HB3.out.size))
    have HW5 := Lib.hid (HW4.out.below hb4 HW4.out.lt)
    clear hb4 HM HW4
    by_cases hm : MayF f
    · obtain rfl := hy hm
      have HMM := Lib.hid hm
      clear hy hn hm
      have c0 := (HW5.out.cell 0).trans HIS.out.kind
      by_cases hk : f.kind = 0
      · rw [hk] at c0
        go_wp2_with fail
        go_ret
        exact ⟨rfl, HB4.out⟩
      · have d2 : ((f.kind : Int) == 0) = false := by rw [beq_eq_false_iff_ne]; omega
        by_cases hl : 1000 < len
        · have d3 : decide ((len : Int) > 1000) = true := decide_eq_true (by omega)
          have d4 : decide ((1000 : Int) < (len : Int)) = true := decide_eq_true (by omega)
          go_wp2_with fail
          go_ret
          exact ⟨rfl, HB4.out⟩
        · rcases hfree with h | h | h | h
          · exact absurd h hg
          · exact absurd HMM.out h
          · exact absurd h hk
          · exact absurd h hl
    · obtain rfl := hn hm
      clear hy hn
      go_wp2_with fail
      go_ret
      exact ⟨rfl, HB4.out⟩
end

section
open Go.RowKit
set_option linter.unusedVariables false

set_option maxRecDepth 100000 in
set_option maxHeartbeats 3200000 in
theorem fcut_main (R : Array Value) (f : PF) (a : SA) (A : Option Addr) (len c : Nat) (cut : Int) (w : World) (hT : PT w) (hR : R = (rowF f a).toArray) (hf : FrAt w w.heap.size f a) (hTab : Tab w) (behind : List UInt8) (hbl : behind.length = len) (hbs : Sl w w.heap.size A behind) (hlc : len ≤ c) (hcm : c ≤ maxLen) (hg : ¬ 4000 < greatN 0 [(f, a)]) (hm : MayF f) (hk : f.kind ≠ 0) (hl : len ≤ 1000) :
    Calls Tryd.prog 5 #[.agg R, .int .i64 cut, .slice A len c] w fun e w' => e = .returned (.bool true) ∧ Below w.heap.size w w' := by
  obtain ⟨i0, hi0, hz0, hz1, hz2⟩ := info_parts info8
  have HTab := Lib.hid hTab
  have HBS := Lib.hid hbs
  have HBL := Lib.hid hbl
  have HMAY := Lib.hid hm
  have hsm := one_small hg
  have hsz := size_small hk
  have hac : f.acks.length ≤ 4000 := hsm.1
  have hdc : f.data.length + f.cid.length ≤ 64016 := hsm.2
  have hz200 : sizeF f ≤ 200000 := by omega
  have HNB := Lib.hid (frame_back hm hk hf.tok (by omega) behind)
  have HNC := Lib.hid (frame_cut hm hk hf.tok (by omega))
  have HBLN := Lib.hid (bytesF_length hf.tok)
  clear hTab hbs hbl hsm hsz
  obtain ⟨ie, hie, hzse⟩ := Option.map_eq_some_iff.1 info_frame2
  simp only [Prod.mk.injEq, Option.map_eq_some_iff] at hzse
  obtain ⟨hse, _, ze, hze, _⟩ := hzse
  have hi := rowF_is (f := f) a hf.tok
  rw [← hR] at hi
  have HI : Hid ((Tryd.prog.info? 32).map (·.size) = some R.size) := by show _ = _; rw [hi.size]; exact info_frame
  have HIS := Lib.hid hi
  have hb0 : Below w.heap.size w (w.alloc (.cells R 32)) := (Below.refl _ _).alloc (Nat.le_refl _) _
  have HW0 := Lib.hid (Wh.new w 32 R)
  have HK := Lib.hid (fknown_any _ (hT.below hb0 hT.lt))
  have HB0 := Lib.hid hb0
  have HT := Lib.hid hT
  have HR := Lib.hid hR
  have HF := Lib.hid hf
  have hlt0 : w.heap.size < (w.alloc (.cells R 32)).heap.size := by simp
  clear hT hR hf hi hb0
  go_enter Tryd.func5, Tryd.ntmps5
  go_upto_region 1 with fail
  generalize w.alloc (.cells R 32) = w0 at *
  go_wp2_with fail
  refine HK.out.mono ?_
  rintro e w1 ⟨rfl, hb1⟩
  have HB1 := Lib.hid (HB0.out.trans (hb1.mono HB0.out.size))
  have HW1 := Lib.hid (HW0.out.below hb1 hlt0)
  have HW2 := Lib.hid (Wh.new w1 32 R)
  have hb2 : Below w1.heap.size w1 (w1.alloc (.cells R 32)) := (Below.refl _ _).alloc (Nat.le_refl _) _
  have HB2 := Lib.hid (HB1.out.trans (hb2.mono HB1.out.size))
  have HW3 := Lib.hid (HW1.out.below hb2 HW1.out.lt)
  have HG := Lib.hid (great_any (some ⟨w1.heap.size, 0, none⟩) 1 1 [(f, a)] _ _ rfl (sf_one HW2.out HR.out (HF.out.up HB2.out HB2.out.size)) (Nat.le_refl _) (by omega))
  clear hb1 hb2 HK HB0 HW0 HW2
  go_wp2_with (first
    | (refine wpList_load_any 32 (.tmp 3) rfl rfl w.heap.size rfl _ R _ HW1.out Tryd.underlying32 rfl HI.out ?_)
    | (refine wpList_build_one rfl 23 32 (.tmp 13) rfl R 30 rfl HIS.out.size (by omega) (by omega) ie ze Tryd.underlying23 hie hze hse ?_))
  generalize w1.alloc (.cells R 32) = w2 at *
  refine HG.out.mono ?_
  rintro e w3 ⟨rfl, hb3⟩
  have HB3 := Lib.hid (HB2.out.trans (hb3.mono HB2.out.size))
  have HW4 := Lib.hid (HW3.out.below hb3 HW3.out.lt)
  clear hb3 HG HW3
  have d1 : decide (4000 < greatN 0 [(f, a)]) = false := decide_eq_false hg
  have HM := Lib.hid (may_any R f a w3 w3.heap.size HIS.out (HF.out.up HB3.out HB3.out.size) (Nat.le_refl _) (HT.out.below HB3.out HT.out.lt))
  go_wp2_with (refine wpList_load_any 32 (.tmp 3) rfl rfl w.heap.size rfl _ R _ HW4.out Tryd.underlying32 rfl HI.out ?_)
  refine HM.out.mono ?_
  rintro e w4 ⟨hy, hn, hb4⟩
  have HB4 := Lib.hid (HB3.out.trans (hb4.mono HB3.out.size))
  have HW5 := Lib.hid (HW4.out.below hb4 HW4.out.lt)
  obtain rfl := hy hm
  clear hb4 HM HW4 hy hn hm
  have c0 := (HW5.out.cell 0).trans HIS.out.kind
  have d2 : ((f.kind : Int) == 0) = false := by rw [beq_eq_false_iff_ne]; omega
  have d4 : decide ((1000 : Int) < (len : Int)) = false := decide_eq_false (by omega)
  go_upto_region 5 with fail
  have HX2 := Lib.hid (Wh.new w4 32 R)
  have hb5 : Below w4.heap.size w4 (w4.alloc (.cells R 32)) := (Below.refl _ _).alloc (Nat.le_refl _) _
  have HB5 := Lib.hid (HB4.out.trans (hb5.mono HB4.out.size))
  have HW6 := Lib.hid (HW5.out.below hb5 HW5.out.lt)
  have hFA := fappend_any none 0 (some ⟨w4.heap.size, 0, none⟩) 1 1 [] [(f, a)] _ _ (Sv.nil _ _ _) rfl (sf_one HX2.out HR.out (HF.out.up HB5.out HB5.out.size)) (Nat.le_refl _) (HT.out.below HB5.out HT.out.lt) (HTab.out.below HB5.out HTab.out.lt) (by omega) (by simp)
    (fun x hx => by rw [List.mem_singleton.1 hx]; exact hac) (fun x hx => by rw [List.mem_singleton.1 hx]; show f.data.length + f.cid.length ≤ _; omega) (fun k _ => by
      match k with
      | 0 => exact Nat.zero_le _
      | k + 1 =>
        have e : sumF (List.take (k + 1) [(f, a)]) = sizeF f := by simp [sumF]
        rw [e]
        omega)
  have HFA := Lib.hid hFA
  clear hb5 hFA HX2
  go_wp2_with (first
    | (refine wpList_load_any 32 (.tmp 3) rfl rfl w.heap.size rfl _ R _ HW5.out Tryd.underlying32 rfl HI.out ?_)
    | (refine wpList_build_one rfl 23 32 (.tmp 32) rfl R 30 rfl HIS.out.size (by omega) (by omega) ie ze Tryd.underlying23 hie hze hse ?_))
  generalize w4.alloc (.cells R 32) = w5 at *
  refine HFA.out.mono ?_
  rintro e w6 ⟨hyes, _, hb6⟩
  obtain ⟨A6, c6, rfl, hnc6, hcm6, hown6⟩ := hyes (fun x hx => by rw [List.mem_singleton.1 hx]; exact HMAY.out)
  have hbb : [] ++ bytesL [(f, a)] = bytesF f := by simp [bytesL]
  rw [hbb] at hown6 hnc6
  obtain ⟨bs, hbs⟩ : ∃ bs, bs = bytesF f := ⟨_, rfl⟩
  rw [hbb, ← hbs]
  rw [← hbs] at hown6 hnc6
  have hbn : bs.length = sizeF f := by rw [hbs]; exact HBLN.out
  have HEB := Lib.hid hbs
  have HBN := Lib.hid hbn
  have hb200 : bs.length ≤ 200000 := by omega
  have HB6 := Lib.hid (HB5.out.trans (hb6.mono HB5.out.size))
  have HW7 := Lib.hid (HW6.out.below hb6 HW6.out.lt)
  have HO6 := Lib.hid hown6
  have HSB := Lib.hid (Sv.of_own hown6)
  clear hown6 hyes hb6 hbb hbs hbn HFA HW6 HBLN
  have HSZ := Lib.hid (fsize_any R f a w6 w6.heap.size HIS.out (HF.out.up HB6.out HB6.out.size) (Nat.le_refl _) (HT.out.below HB6.out HT.out.lt) (by omega))
  go_wp2_with (refine wpList_load_any 32 (.tmp 3) rfl rfl w.heap.size rfl _ R _ HW7.out Tryd.underlying32 rfl HI.out ?_)
  refine HSZ.out.mono ?_
  rintro e w7 ⟨hy, _, hb7⟩
  obtain rfl := hy HMAY.out
  rw [← HBN.out]
  have HB7 := Lib.hid (HB6.out.trans (hb7.mono HB6.out.size))
  have HW8 := Lib.hid (HW7.out.below hb7 HW7.out.lt)
  have HS7 : Hid (Sl w7 w7.heap.size A6 bs) := Sv.keep (Sv.below HSB.out hb7) hb7.size (fun _ _ => rfl)
  clear hy hb7 HSZ HW7 HO6 HSB
  go_upto_region 8 with fail
  have hzr : (#[.int .u64 0, .int .u64 0, .int .u64 0, .int .u64 0, .int .u64 0, .int .u64 0, .bool false, .slice none 0 0, .slice none 0 0, .int .u8 0, .int .u8 0, .int .u8 0, .int .u8 0, .int .u8 0, .int .u8 0, .int .u8 0, .int .u8 0, .int .u8 0, .int .u8 0, .int .u8 0, .int .u8 0, .int .u8 0, .int .u8 0, .int .u8 0, .int .u8 0, .slice none 0 0, .int .u64 0, .int .u64 0, .int .u64 0, .int .u64 0] : Array Value) = zRow 0 := rfl
  go_wp2_with (first
    | (at_builtin; refine wpList_append_sv _ rfl (.tmp 47) (.tmp 48) _ rfl w7.heap.size 5 i0 _ 1 Tryd.underlying22 hi0 hz0 hz1 hz2 rfl (.slice (some ⟨w7.heap.size, 0, none⟩) 0 0) 0 [] rfl (World.ownsRow_made w7 #[] 0 (Nat.le_refl _) (Nat.zero_le _) rfl) w7.heap.size _ _ _ (bs.map cell8) rfl (Sv.keep HS7.out (Nat.le_refl _) (fun p hp => World.cell?_alloc_lt w7 _ p hp)) (List.length_map _) (cell8_one _) (by unfold maxLen; omega) (by omega) (by simp) ?_; intro v8 w8 hown8 hg8 _; rw [Nat.zero_add, List.nil_append] at hown8; have HB8 := Lib.hid (HB7.out.trans ((((Below.refl _ _).alloc (Nat.le_refl _) _).grown hg8 (by simp) (fun q hq => by simp [Value.ownBlock] at hq; omega) : Below w7.heap.size w7 w8).mono HB7.out.size)); have HB78 : Hid (Below w7.heap.size w7 w8) := (((Below.refl _ _).alloc (Nat.le_refl _) _).grown hg8 (by simp) (fun q hq => by simp [Value.ownBlock] at hq; omega) : Below w7.heap.size w7 w8))
    | (at_builtin; refine wpList_append_sv _ rfl (.tmp 49) (.tmp 50) _ rfl w7.heap.size 5 i0 _ 1 Tryd.underlying22 hi0 hz0 hz1 hz2 rfl v8 bs.length (bs.map cell8) rfl hown8 w.heap.size A len c (behind.map cell8) rfl (Sv.below HBS.out HB8.out) ((List.length_map _).trans HBL.out) (cell8_one _) (by unfold maxLen; omega) (by omega) HB78.out.size ?_; intro v9 w9 hown9 hg9 _; have HB9 : Hid (Below w.heap.size w w9) := HB8.out.grown hg9 HB8.out.size (fun q hq => Nat.le_trans HB7.out.size (hown8.lt q hq).1); have HB79 : Hid (Below w7.heap.size w7 w9) := HB78.out.grown hg9 HB78.out.size (fun q hq => (hown8.lt q hq).1)))
  rw [← List.map_append] at hown9
  rw [show bs.length + len = (bs ++ behind).length by rw [List.length_append, HBL.out]] at hown9
  obtain ⟨A9, c9, rfl, q1, q2⟩ := own_form hown9
  have HS9 : Hid (Sl w9 w9.heap.size A9 (bs ++ behind)) := Sv.of_own hown9
  have HTK := Lib.hid (take_any (bs ++ behind) A9 (bs ++ behind).length c9 w9 rfl HS9.out q1 q2 (HT.out.below HB9.out HT.out.lt) (by rw [List.length_append, HBL.out]; omega))
  clear hown9 hown8 hg8 hg9
  have HN9 : Hid (Below w9.heap.size w9 w9) := Below.refl _ _
  have hfb : frame_ (bs ++ behind) = some (f, behind) := by rw [HEB.out]; exact HNB.out
  refine HTK.out.mono ?_
  rintro e w10 ⟨hb10, hgv⟩
  rw [hfb] at hgv
  obtain ⟨a2, rfl, hf2⟩ := hgv
  have hnum : (((bs ++ behind).length : Int) - (behind.length : Int)) = (bs.length : Int) := by rw [List.length_append]; omega
  rw [hnum]
  obtain ⟨R2, hR2⟩ : ∃ R2, R2 = (rowF f a2).toArray := ⟨_, rfl⟩
  rw [← hR2]
  have HR2 := Lib.hid hR2
  have hi2 := rowF_is (f := f) a2 hf2.tok
  rw [← hR2] at hi2
  have HIS2 := Lib.hid hi2
  have HRO2 : Hid (R2.all (·.oneCell') = true) := by show _ = _; rw [hR2]; exact rowF_one f a2
  have HI2 : Hid ((Tryd.prog.info? 32).map (·.size) = some R2.size) := by show _ = _; rw [hi2.size]; exact info_frame
  have HF2 := Lib.hid hf2
  have HB10 := Lib.hid (HB9.out.trans (hb10.mono HB9.out.size))
  have HB710 := Lib.hid (HB79.out.trans (hb10.mono HB79.out.size))
  have hb11 : Below w10.heap.size w10 (w10.alloc (.cells R2 32)) := (Below.refl _ _).alloc (Nat.le_refl _) _
  have HB11 := Lib.hid (HB10.out.trans (hb11.mono HB10.out.size))
  have HB711 := Lib.hid (HB710.out.trans (hb11.mono HB710.out.size))
  have HW11 := Lib.hid (Wh.new w10 32 R2)
  have HW12 := Lib.hid (HW8.out.below HB711.out HW8.out.lt)
  have HSM := Lib.hid (samef_yes f a a2 R R2 _ HR.out HR2.out (HF.out.up HB11.out HB11.out.size) (HF2.out.up hb11 hb11.size))
  clear hb10 hb11 hf2 hR2 hi2 hfb hnum HTK HS9 HN9
  go_upto_region 9 with (refine wpList_store_row rfl 32 (.tmp 9) (.tmp 53) rfl w10.heap.size R2 rfl rfl _ _ (heap_alloc_new w10 (.cells (zRow 0) 32)) HI2.out (by rw [HIS2.out.size]; rfl) HRO2.out ?_; rw [World.setRow_alloc_new])
  go_wp2_with (first
    | (refine wpList_load_any 32 (.tmp 3) rfl rfl w.heap.size rfl _ R _ HW12.out Tryd.underlying32 rfl HI.out ?_)
    | (refine wpList_load_any 32 (.tmp 9) rfl rfl w10.heap.size rfl _ R2 _ HW11.out Tryd.underlying32 rfl HI2.out ?_))
  generalize w10.alloc (.cells R2 32) = w11 at *
  refine HSM.out.mono ?_
  rintro e w12 ⟨rfl, hb12⟩
  have HB12 := Lib.hid (HB11.out.trans (hb12.mono HB11.out.size))
  have HB712 := Lib.hid (HB711.out.trans (hb12.mono HB711.out.size))
  clear hb12 HSM
  by_cases h0 : cut < 0
  · have d5 : decide (cut < 0) = true := decide_eq_true h0
    go_wp2_with fail
    go_ret
    exact ⟨rfl, HB12.out⟩
  have d5 : decide (cut < 0) = false := decide_eq_false h0
  by_cases h1 : cut < (bs.length : Int)
  · obtain ⟨k, rfl⟩ : ∃ k : Nat, cut = (k : Int) := ⟨cut.toNat, by omega⟩
    have hkb : k < bs.length := by omega
    have d6 : decide ((bs.length : Int) ≤ (k : Int)) = false := decide_eq_false (by omega)
    have hfn : frame_ (bs.take k) = none := by rw [HEB.out]; exact HNC.out k (by rw [← HEB.out]; exact hkb)
    obtain ⟨b6, o6, rfl, _, _⟩ := HS7.out (by intro e; have := congrArg List.length e; rw [List.length_map, List.length_nil] at this; omega)
    have hst : Sl w7 w7.heap.size (some ⟨b6, o6, none⟩) (bs.take k) := by
      have h := Sv.take HS7.out k
      rwa [← List.map_take] at h
    have hs12 : Sl w12 w12.heap.size (some ⟨b6, o6, none⟩) (bs.take k) := Sv.keep (Sv.below hst HB712.out) HB712.out.size (fun _ _ => rfl)
    have hTK := take_any (bs.take k) (some ⟨b6, o6, none⟩) k c6 w12 (by rw [List.length_take]; omega) hs12 (by omega) hcm6 (HT.out.below HB12.out HT.out.lt) (by rw [List.length_take]; omega)
    rw [hfn] at hTK
    have HTK := Lib.hid hTK
    clear hs12 hst hfn hTK
    unfold maxLen at hcm6
    go_wp2_with fail
    refine HTK.out.mono ?_
    rintro e w13 ⟨hb13, rfl⟩
    have HB13 := Lib.hid (HB12.out.trans (hb13.mono HB12.out.size))
    clear hb13 HTK
    go_wp2_with fail
    go_ret
    exact ⟨rfl, HB13.out⟩
  · have d6 : decide ((bs.length : Int) ≤ cut) = true := decide_eq_true (by omega)
    go_wp2_with fail
    go_ret
    exact ⟨rfl, HB12.out⟩

theorem fcut_any (R : Array Value) (f : PF) (a : SA) (A : Option Addr) (len c : Nat) (cut : Int) (w : World) (hT : PT w) (hR : R = (rowF f a).toArray) (hf : FrAt w w.heap.size f a) (hTab : Tab w) (behind : List UInt8) (hbl : behind.length = len) (hbs : Sl w w.heap.size A behind) (hlc : len ≤ c) (hcm : c ≤ maxLen) :
    Calls Tryd.prog 5 #[.agg R, .int .i64 cut, .slice A len c] w fun e w' => e = .returned (.bool true) ∧ Below w.heap.size w w' := by
  by_cases hg : 4000 < greatN 0 [(f, a)]
  · exact fcut_free R f a A len c cut w hT hR hf (.inl hg)
  by_cases hm : MayF f
  · by_cases hk : f.kind = 0
    · exact fcut_free R f a A len c cut w hT hR hf (.inr (.inr (.inl hk)))
    by_cases hl : 1000 < len
    · exact fcut_free R f a A len c cut w hT hR hf (.inr (.inr (.inr hl)))
    exact fcut_main R f a A len c cut w hT hR hf hTab behind hbl hbs hlc hcm hg hm hk (by omega)
  · exact fcut_free R f a A len c cut w hT hR hf (.inr (.inl hm))
end

end Go.Proofs.YtljdgolnnpoklaaDoor
