/-
  The walk through span.those: a sweep over the ends of two lists.
-/
import Derived.Test.YtaemfoelhijbjaaSpOf
import Derived.Test.YtaemfoelhijbjaaSpEnds
namespace Go.Proofs.Ytaemfoelhijbjaa
open Go.RowKit
set_option linter.unusedVariables false

/-- A function that chooses. -/
structure Picks (gw : Nat) (f : Bool → Bool → Bool) : Prop where
  enters : ∀ args w, (callFunc gw args).run Try.prog w = .ok (.enter gw args) w
  calls : ∀ (a b : Bool) (w : World), Calls Try.prog gw #[.bool a, .bool b] w fun e w' => e = .returned (.bool (f a b)) ∧ w = w'
  none : f false false = false

/-- A neat list in memory of the call's own, of the numbers of which W is true, of at most N ranges. -/
def Makes (N : Nat) (W : Nat → Bool) (w : World) (e : Ending) (w' : World) : Prop :=
  ∃ v l, e = .returned v ∧ OwR w.heap.size w' v l ∧ NeatL l ∧ FitL l ∧ (∀ n, inB l n = W n) ∧ l.length ≤ N ∧ Below w.heap.size w w'

/-- What a sweep's next end is. -/
theorem sweep_next {nl no : List (Nat × Nat)} (f : Bool → Bool → Bool) (h1 : NeatL nl) (h2 : NeatL no) (f1 : FitL nl) (f2 : FitL no) {x : Nat} (hx : x < topN) :
    x < min (lookL nl x).2 (lookL no x).2 ∧ min (lookL nl x).2 (lookL no x).2 ≤ topN ∧
    (∀ n, x ≤ n → n < min (lookL nl x).2 (lookL no x).2 → f (inB nl n) (inB no n) = f (inB nl x) (inB no x)) ∧
    (min (lookL nl x).2 (lookL no x).2 < topN → endsAbove nl (min (lookL nl x).2 (lookL no x).2) + endsAbove no (min (lookL nl x).2 (lookL no x).2) + 1 ≤ endsAbove nl x + endsAbove no x) := by
  obtain ⟨a1, a2, a3⟩ := lookL_end h1 f1 x hx
  obtain ⟨b1, b2, b3⟩ := lookL_end h2 f2 x hx
  have a4 := ea_look h1 x a1
  have b4 := ea_look h2 x b1
  generalize (lookL nl x).2 = e1 at *
  generalize (lookL no x).2 = e2 at *
  refine ⟨by omega, by omega, fun n n1 n2 => by rw [a3 n n1 (by omega), b3 n n1 (by omega)], fun ht => ?_⟩
  by_cases hle : e1 ≤ e2
  · rw [Nat.min_eq_left hle] at ht ⊢
    have := a4 ht
    have := ea_mono no (show x ≤ e1 by omega)
    omega
  · rw [Nat.min_eq_right (by omega)] at ht ⊢
    have := b4 ht
    have := ea_mono nl (show x ≤ e2 by omega)
    omega

/-- The sweep's state at the head of a round. -/
def ThAt (f : Bool → Bool → Bool) (nl no : List (Nat × Nat)) (base g1 g2 : Nat) (S1 S2 : Nat → Prop) (w wr : World) (v : Value) (op : Bool) (x : Nat) : Prop :=
  ∃ out r1 r2, x ≤ topN ∧ Sweep (fun n => f (inB nl n) (inB no n)) out op x ∧ OwR base wr v out ∧ EndsAt wr S1 g1 r1 ∧ EndsAt wr S2 g2 r2 ∧ (∀ y, x ≤ y → lookL r1 y = lookL nl y) ∧ (∀ y, x ≤ y → lookL r2 y = lookL no y) ∧
    Below w.heap.size w wr ∧ base ≤ wr.heap.size ∧ (out.length + endsAbove nl x + endsAbove no x ≤ 2 * (nl.length + no.length) ∨ x = topN ∧ out.length ≤ 2 * (nl.length + no.length) + 1)

/-- .. behind the turn. -/
def ThMid (f : Bool → Bool → Bool) (nl no : List (Nat × Nat)) (base g1 g2 : Nat) (S1 S2 : Nat → Prop) (w wr : World) (v : Value) (x : Nat) : Prop :=
  ∃ out r1 r2, x ≤ topN ∧ Swept (fun n => f (inB nl n) (inB no n)) out (f (inB nl x) (inB no x)) x ∧ OwR base wr v out ∧ EndsAt wr S1 g1 r1 ∧ EndsAt wr S2 g2 r2 ∧ (∀ y, x ≤ y → lookL r1 y = lookL nl y) ∧ (∀ y, x ≤ y → lookL r2 y = lookL no y) ∧
    Below w.heap.size w wr ∧ base ≤ wr.heap.size ∧ (x < topN → out.length + endsAbove nl x + endsAbove no x ≤ 2 * (nl.length + no.length) + 1) ∧ out.length ≤ 2 * (nl.length + no.length) + 2

theorem ThMid.next {f : Bool → Bool → Bool} {nl no : List (Nat × Nat)} {base g1 g2 : Nat} {S1 S2 : Nat → Prop} {w wr : World} {v : Value} {x : Nat} (h : ThMid f nl no base g1 g2 S1 S2 w wr v x) (h1 : NeatL nl) (h2 : NeatL no) (f1 : FitL nl) (f2 : FitL no) (hx : x < topN) :
    ThAt f nl no base g1 g2 S1 S2 w wr v (f (inB nl x) (inB no x)) (min (lookL nl x).2 (lookL no x).2) := by
  obtain ⟨out, r1, r2, _, a2, a3, a4, a5, a6, a7, a8, a9, a10, _⟩ := h
  obtain ⟨b1, b2, b3, b4⟩ := sweep_next f h1 h2 f1 f2 hx
  refine ⟨out, r1, r2, b2, Swept.on (W := fun n => f (inB nl n) (inB no n)) a2 b1 b3, a3, a4, a5, fun y hy => a6 y (by omega), fun y hy => a7 y (by omega), a8, a9, ?_⟩
  have := a10 hx
  generalize min (lookL nl x).2 (lookL no x).2 = e at *
  by_cases he : e < topN
  · have := b4 he
    exact .inl (by omega)
  · have e1 : endsAbove nl e ≤ endsAbove nl x := ea_mono nl (by omega)
    exact .inr ⟨by omega, by omega⟩

theorem ThMid.done {f : Bool → Bool → Bool} {nl no : List (Nat × Nat)} {base g1 g2 : Nat} {S1 S2 : Nat → Prop} {w wr : World} {v : Value} (h : ThMid f nl no base g1 g2 S1 S2 w wr v topN) (f1 : FitL nl) (f2 : FitL no) (h0 : f false false = false) (hb : w.heap.size ≤ base) :
    ∃ l, OwR w.heap.size wr v l ∧ NeatL l ∧ FitL l ∧ (∀ n, inB l n = f (inB nl n) (inB no n)) ∧ l.length ≤ 2 * (nl.length + no.length) + 2 ∧ Below w.heap.size w wr := by
  obtain ⟨out, r1, r2, _, a2, a3, a4, a5, a6, a7, a8, a9, a10, a11⟩ := h
  have hout : ∀ n, topN ≤ n → f (inB nl n) (inB no n) = false := by
    intro n hn
    have e1 : inB nl n = false := by
      cases hc : inB nl n with
      | false => rfl
      | true => have := fit_in f1 hc; omega
    have e2 : inB no n = false := by
      cases hc : inB no n with
      | false => rfl
      | true => have := fit_in f2 hc; omega
    rw [e1, e2, h0]
  rw [hout topN (Nat.le_refl _)] at a2
  obtain ⟨b1, b2⟩ := a2.done hout
  refine ⟨out, a3.base hb, b1, fit_of b1 (fun n hn => ?_), b2, a11, a8⟩
  rcases Nat.lt_or_ge n topN with h | h
  · exact h
  · have := b2 n
    simp only [hout n h] at this
    rw [this] at hn
    cases hn

set_option maxRecDepth 10000 in
set_option maxHeartbeats 4000000 in
theorem those_any (gw : Nat) (f : Bool → Bool → Bool) (hp : Picks gw f) (A1 A2 : Option Addr) (n1 c1 n2 c2 : Nat) (l o : List (Nat × Nat)) (w : World) (B : Nat) (hB : B ≤ w.heap.size)
    (hl : l.length = n1) (ho : o.length = n2) (hn1 : n1 ≤ 1000000) (hn2 : n2 ≤ 1000000) (hr1 : Rs w B A1 l) (hr2 : Rs w B A2 o) (hc1 : n1 ≤ c1) (hc2 : n2 ≤ c2) (hm1 : c1 ≤ maxLen) (hm2 : c2 ≤ maxLen) (hf1 : FitL l) (hf2 : FitL o) :
    Calls Try.prog 24 #[.slice A1 n1 c1, .slice A2 n2 c2, .func (.func gw) #[] #[]] w (Makes (2 * (n1 + n2) + 2) (fun n => f (inB l n) (inB o n)) w) := by
  have eg := hp.enters
  have HP := Lib.hid hp
  have HN1 := Lib.hid (neatOf_any A1 n1 c1 l w B hl (by omega) hr1 hB hc1 hm1 hf1)
  have HN2 := Lib.hid (fun w' (hb : Below w.heap.size w w') => neatOf_any A2 n2 c2 o w' B ho (by omega) (hr2.below (hb.mono hB)) (Nat.le_trans hB hb.size) hc2 hm2 hf2)
  have HL := Lib.hid hl
  have HO := Lib.hid ho
  clear hl ho hr1 hr2 hm1 hm2 hf1 hf2 hp
  go_enter Try.func24, Try.ntmps24
  go_wp2_with fail
  refine HN1.out.mono ?_
  rintro e w1 ⟨A1', c1', nl, rfl, hc1', hm1', hs1, hnl, hfl, hin1, hlen1, hb1⟩
  go_wp2_with fail
  refine (ends_any A1' nl.length c1' w1).mono ?_
  rintro e w2 ⟨rfl, hw2⟩
  have hE1 : EndsAt w2 (fun b => b < B ∨ w.heap.size ≤ b ∧ b < w1.heap.size) w1.heap.size nl := by
    rw [hw2]
    refine ⟨A1', nl.length, c1', Wh.new w1 _ _, rfl, hc1', hm1', (hs1.mono (fun b h hb => ?_)).below ((Below.refl _ _).alloc (Nat.le_refl _) _), ?_⟩
    · rcases h with h | h
      · exact .inl h
      · exact .inr ⟨h, hb⟩
    · have := hb1.size
      omega
  have hb2 : Below w.heap.size w w2 := by rw [hw2]; exact hb1.alloc hb1.size _
  have hz2 : w2.heap.size = w1.heap.size + 1 := by rw [hw2]; simp
  have hg1 : w.heap.size ≤ w1.heap.size := hb1.size
  clear hw2 hs1 hc1' hm1' hb1
  generalize w1.heap.size = g1 at *
  have HE1 := Lib.hid hE1
  have HB2 := Lib.hid hb2
  have HNL := Lib.hid hnl
  have HFL := Lib.hid hfl
  have HI1 := Lib.hid hin1
  clear hE1 hb2 hnl hfl hin1 HN1
  go_wp2_with fail
  refine (HN2.out w2 HB2.out).mono ?_
  rintro e w3 ⟨A2', c2', no, rfl, hc2', hm2', hs2, hno, hfo, hin2, hlen2, hb3⟩
  go_wp2_with fail
  refine (ends_any A2' no.length c2' w3).mono ?_
  rintro e w4 ⟨rfl, hw4⟩
  have hE2 : EndsAt w4 (fun b => b < B ∨ g1 < b ∧ b < w3.heap.size) w3.heap.size no := by
    rw [hw4]
    refine ⟨A2', no.length, c2', Wh.new w3 _ _, rfl, hc2', hm2', (hs2.mono (fun b h hb => ?_)).below ((Below.refl _ _).alloc (Nat.le_refl _) _), ?_⟩
    · rcases h with h | h
      · exact .inl h
      · exact .inr ⟨by omega, hb⟩
    · have := hb3.size
      omega
  have hb34 : Below w2.heap.size w2 w4 := by rw [hw4]; exact hb3.alloc hb3.size _
  have hE1' := HE1.out.below hb34
  have hb4 : Below w.heap.size w w4 := HB2.out.trans (hb34.mono HB2.out.size)
  have hz4 : w4.heap.size = w3.heap.size + 1 := by rw [hw4]; simp
  have hg12 : g1 < w3.heap.size := by have := hb3.size; omega
  clear hw4 hs2 hc2' hm2' hb3 HE1 HB2 HN2 hb34
  generalize w3.heap.size = g2 at *
  have HN := Lib.hid hz4
  have HNO := Lib.hid hno
  have HFO := Lib.hid hfo
  have HI2 := Lib.hid hin2
  have hbg : g2 < w4.heap.size := by omega
  have HAT : Hid (ThAt f nl no w4.heap.size g1 g2 (fun b => b < B ∨ w.heap.size ≤ b ∧ b < g1) (fun b => b < B ∨ g1 < b ∧ b < g2) w w4 (.slice none 0 0) false 0) :=
    Lib.hid ⟨[], nl, no, by simp [topN], sweep_start _, OwR.nil _ _, hE1', hE2, fun _ _ => rfl, fun _ _ => rfl, hb4, Nat.le_refl _, .inl (by have := ea_le nl 0; have := ea_le no 0; simp; omega)⟩
  have HLEN : Hid (nl.length + no.length ≤ n1 + n2) := Lib.hid (by rw [HL.out] at hlen1; rw [HO.out] at hlen2; omega)
  have hbase : w.heap.size ≤ w4.heap.size := hb4.size
  clear hE1' hE2 hb4 hz4 hno hfo hin2 hlen1 hlen2 hz2
  generalize hbs : w4.heap.size = base at *
  clear hbs
  go_wp2
  go_loopw [7, 10, 11] (fun s7 s10 s11 wr => ∃ (v : Value) (op : Bool) (x : Nat), s7 = v ∧ s10 = .bool op ∧ s11 = .int .u64 x ∧ Hid (ThAt f nl no base g1 g2 (fun b => b < B ∨ w.heap.size ≤ b ∧ b < g1) (fun b => b < B ∨ g1 < b ∧ b < g2) w wr v op x)) (fun _ _ s11 _ => topN - (intOf s11).toNat)
  case atStart => exact ⟨_, false, 0, rfl, rfl, rfl, HAT⟩
  case round =>
    obtain ⟨v, op, x, rfl, rfl, rfl, hat⟩ := hrel
    clear HAT
    obtain ⟨out, r1, r2, hx, hsw, hown, he1, he2, hk1, hk2, hbw, hbs, hbd⟩ := hat.out
    have hc1 := look_any x r1 wr _ g1 he1
    unfold LookGave at hc1
    rw [hk1 x (Nat.le_refl _), lookL_in HNL.out x] at hc1
    have hc2 := fun w' (h : EndsAt w' (fun b => b < B ∨ g1 < b ∧ b < g2) g2 r2) => look_any x r2 w' _ g2 h
    unfold LookGave at hc2
    rw [hk2 x (Nat.le_refl _), lookL_in HNO.out x] at hc2
    obtain ⟨e1, hE1⟩ : ∃ e, e = (lookL nl x).2 := ⟨_, rfl⟩
    obtain ⟨e2, hE2⟩ : ∃ e, e = (lookL no x).2 := ⟨_, rfl⟩
    obtain ⟨a, ha⟩ : ∃ a, a = inB nl x := ⟨_, rfl⟩
    obtain ⟨b, hb⟩ : ∃ b, b = inB no x := ⟨_, rfl⟩
    rw [← hE1, ← ha] at hc1
    rw [← hE2, ← hb] at hc2
    have HC2 := Lib.hid hc2
    have HA := Lib.hid ha
    have HBB := Lib.hid hb
    have HE1 := Lib.hid hE1
    have HE2 := Lib.hid hE2
    have HSW := Lib.hid hsw
    have HOW := Lib.hid hown
    have HEN1 := Lib.hid he1
    have HEN2 := Lib.hid he2
    have HK1 := Lib.hid hk1
    have HK2 := Lib.hid hk2
    have HBW := Lib.hid hbw
    have HBD := Lib.hid hbd
    clear hat hc2 ha hb hE1 hE2 hsw hown he1 he2 hk1 hk2 hbw hbd
    go_wp2_with fail
    refine hc1.mono ?_
    rintro e wa ⟨rfl, ⟨r1', hea, hka⟩, hga⟩
    clear hc1
    have he2a := HEN2.out.grown hga (by simp; omega) (fun k hk => by obtain rfl := Option.some.inj hk; intro h; rcases h with h | h <;> omega)
    have howa := HOW.out.grown hga (fun k hk e => by obtain rfl := Option.some.inj hk; have := (HOW.out.ge e).1; omega)
    have hbwa := HBW.out.grown hga HBW.out.size (fun k hk => by obtain rfl := Option.some.inj hk; omega)
    have HKA := Lib.hid (fun y (hy : x ≤ y) => (hka y hy).trans (HK1.out y hy))
    have hsa := hga.size
    clear hka hga HEN2 HEN1 HOW HBW HK1
    go_wp2_with fail
    refine (HC2.out wa he2a).mono ?_
    rintro e wb ⟨rfl, ⟨r2', heb, hkb⟩, hgb⟩
    have he1b := hea.grown hgb (by simp; omega) (fun k hk => by obtain rfl := Option.some.inj hk; intro h; rcases h with h | h <;> omega)
    have howb := howa.grown hgb (fun k hk e => by obtain rfl := Option.some.inj hk; have := (howa.ge e).1; omega)
    have hbwb := hbwa.grown hgb hbwa.size (fun k hk => by obtain rfl := Option.some.inj hk; omega)
    have HKB := Lib.hid (fun y (hy : x ≤ y) => (hkb y hy).trans (HK2.out y hy))
    have hsb := hgb.size
    have HE1B := Lib.hid he1b
    have HEB := Lib.hid heb
    have HOB := Lib.hid howb
    have HBB2 := Lib.hid hbwb
    clear he2a hea howa hbwa hkb hgb he1b heb howb hbwb HK2 HC2
    go_wp2_with fail
    refine (HP.out.calls a b wb).mono ?_
    rintro e wq ⟨rfl, rfl⟩
    obtain ⟨q, hq⟩ : ∃ q, q = f a b := ⟨_, rfl⟩
    rw [← hq]
    have HQ := Lib.hid hq
    clear hq
    cases q <;> cases op
    · have HMID : Hid (ThMid f nl no base g1 g2 (fun b => b < B ∨ w.heap.size ≤ b ∧ b < g1) (fun b => b < B ∨ g1 < b ∧ b < g2) w wb u7 x) := Lib.hid
        ⟨out, r1', r2', hx, by rw [← HA.out, ← HBB.out, ← HQ.out]; exact HSW.out.same, HOB.out, HE1B.out, HEB.out, HKA.out, HKB.out, HBB2.out, by omega, fun hx => (by rcases HBD.out with h | ⟨h, _⟩ <;> omega), by have := HBD.out; omega⟩
      by_cases hxt : x < topN
      · have t9 : ((x : Int) == 18446744073709551615) = false := by
          have : x < 18446744073709551615 := hxt
          rw [beq_eq_false_iff_ne]
          omega
        have hat := HMID.out.next HNL.out HNO.out HFL.out HFO.out hxt
        have hgt := (sweep_next f HNL.out HNO.out HFL.out HFO.out hxt).1
        rw [← HA.out, ← HBB.out, ← HQ.out, ← HE1.out, ← HE2.out] at hat
        rw [← HE1.out, ← HE2.out] at hgt
        have HAT := Lib.hid hat
        clear hat
        have HT := Lib.hid hxt
        have HGT := Lib.hid hgt
        clear hxt hgt
        go_wp2
        go_roundw
        case rel => exact ⟨_, _, min e1 e2, rfl, rfl, by rw [show ((min e1 e2 : Nat) : Int) = min (e1 : Int) (e2 : Int) by omega], HAT⟩
        case measure =>
          have h1 := HT.out
          have h2 := HGT.out
          have h3 : (intOf (Value.int .u64 (min (e1 : Int) (e2 : Int)))).toNat = min e1 e2 := by simp [intOf]; omega
          have h4 : (intOf (Value.int .u64 (x : Int))).toNat = x := by simp [intOf]
          rw [h3, h4]
          omega
      · have hxe : x = topN := by omega
        have t9 : ((x : Int) == 18446744073709551615) = true := by
          have : x = 18446744073709551615 := hxe
          rw [beq_iff_eq]
          omega
        have hmm := HMID.out
        rw [hxe] at hmm
        have HDN := Lib.hid (hmm.done HFL.out HFO.out HP.out.none hbase)
        clear hmm hxe hxt
        go_wp2
        go_ret
        obtain ⟨ll, d1, d2, d3, d4, d6, d5⟩ := HDN.out
        exact ⟨_, ll, rfl, d1, d2, d3, fun n => by rw [d4, HI1.out, HI2.out], by have := HLEN.out; omega, d5⟩
    · obtain ⟨oo, fr, hoo, hsws⟩ := HSW.out.shuts
      have HSS := Lib.hid hsws
      have hob := HOB.out
      rw [hoo] at hob
      have HOO := Lib.hid hob
      have HLO : Hid (oo.length ≤ 4000001) := Lib.hid (by have h1 := HBD.out; have h2 := HLEN.out; rw [hoo] at h1; simp at h1; omega)
      have HLB : Hid (out.length = oo.length + 1) := Lib.hid (by rw [hoo]; simp)
      clear hoo hsws hob
      go_wp2_with fail
      refine (turnShut_any base u7 oo fr x wb HOO.out (by have := HLO.out; omega)).mono ?_
      rintro e wt ⟨vt, rfl, hot, hgt0, hat0⟩
      have HMID : Hid (ThMid f nl no base g1 g2 (fun b => b < B ∨ w.heap.size ≤ b ∧ b < g1) (fun b => b < B ∨ g1 < b ∧ b < g2) w wt vt x) := Lib.hid
        ⟨(oo ++ [(fr, x)]), r1', r2', hx, by rw [← HA.out, ← HBB.out, ← HQ.out]; exact HSS.out, hot, HE1B.out.grown hgt0 (fun e => by have := (HOB.out.ge e.symm).1; omega) (fun k hk h => by have := (HOB.out.ge hk).1; rcases h with h | h <;> omega),
          HEB.out.grown hgt0 (fun e => by have := (HOB.out.ge e.symm).1; omega) (fun k hk h => by have := (HOB.out.ge hk).1; rcases h with h | h <;> omega), HKA.out, HKB.out,
          HBB2.out.grown hgt0 HBB2.out.size (fun k hk => by have := (HOB.out.ge hk).1; omega), by have := hgt0.size; omega, fun hx => (by have h1 := HLB.out; rcases HBD.out with h | ⟨h, _⟩ <;> simp <;> omega), by have h1 := HLB.out; have := HBD.out; simp; omega⟩
      clear hot hgt0 hat0
      by_cases hxt : x < topN
      · have t9 : ((x : Int) == 18446744073709551615) = false := by
          have : x < 18446744073709551615 := hxt
          rw [beq_eq_false_iff_ne]
          omega
        have hat := HMID.out.next HNL.out HNO.out HFL.out HFO.out hxt
        have hgt := (sweep_next f HNL.out HNO.out HFL.out HFO.out hxt).1
        rw [← HA.out, ← HBB.out, ← HQ.out, ← HE1.out, ← HE2.out] at hat
        rw [← HE1.out, ← HE2.out] at hgt
        have HAT := Lib.hid hat
        clear hat
        have HT := Lib.hid hxt
        have HGT := Lib.hid hgt
        clear hxt hgt
        go_wp2
        go_roundw
        case rel => exact ⟨_, _, min e1 e2, rfl, rfl, by rw [show ((min e1 e2 : Nat) : Int) = min (e1 : Int) (e2 : Int) by omega], HAT⟩
        case measure =>
          have h1 := HT.out
          have h2 := HGT.out
          have h3 : (intOf (Value.int .u64 (min (e1 : Int) (e2 : Int)))).toNat = min e1 e2 := by simp [intOf]; omega
          have h4 : (intOf (Value.int .u64 (x : Int))).toNat = x := by simp [intOf]
          rw [h3, h4]
          omega
      · have hxe : x = topN := by omega
        have t9 : ((x : Int) == 18446744073709551615) = true := by
          have : x = 18446744073709551615 := hxe
          rw [beq_iff_eq]
          omega
        have hmm := HMID.out
        rw [hxe] at hmm
        have HDN := Lib.hid (hmm.done HFL.out HFO.out HP.out.none hbase)
        clear hmm hxe hxt
        go_wp2
        go_ret
        obtain ⟨ll, d1, d2, d3, d4, d6, d5⟩ := HDN.out
        exact ⟨_, ll, rfl, d1, d2, d3, fun n => by rw [d4, HI1.out, HI2.out], by have := HLEN.out; omega, d5⟩
    · have HLO : Hid (out.length ≤ 4000001) := Lib.hid (by have h1 := HBD.out; have h2 := HLEN.out; omega)
      go_wp2_with fail
      refine (turnOpen_any base u7 out x wb HOB.out (by omega) (by have := HLO.out; omega)).mono ?_
      rintro e wt ⟨vt, rfl, hot, hgt0, hat0⟩
      have HMID : Hid (ThMid f nl no base g1 g2 (fun b => b < B ∨ w.heap.size ≤ b ∧ b < g1) (fun b => b < B ∨ g1 < b ∧ b < g2) w wt vt x) := Lib.hid
        ⟨(out ++ [(x, 0)]), r1', r2', hx, by rw [← HA.out, ← HBB.out, ← HQ.out]; exact HSW.out.opens, hot, HE1B.out.grown hgt0 (fun e => by have := (HOB.out.ge e.symm).1; omega) (fun k hk h => by have := (HOB.out.ge hk).1; rcases h with h | h <;> omega),
          HEB.out.grown hgt0 (fun e => by have := (HOB.out.ge e.symm).1; omega) (fun k hk h => by have := (HOB.out.ge hk).1; rcases h with h | h <;> omega), HKA.out, HKB.out,
          HBB2.out.grown hgt0 HBB2.out.size (fun k hk => by have := (HOB.out.ge hk).1; omega), by have := hgt0.size; omega, fun hx => (by rcases HBD.out with h | ⟨h, _⟩ <;> simp <;> omega), by have := HBD.out; simp; omega⟩
      clear hot hgt0 hat0
      by_cases hxt : x < topN
      · have t9 : ((x : Int) == 18446744073709551615) = false := by
          have : x < 18446744073709551615 := hxt
          rw [beq_eq_false_iff_ne]
          omega
        have hat := HMID.out.next HNL.out HNO.out HFL.out HFO.out hxt
        have hgt := (sweep_next f HNL.out HNO.out HFL.out HFO.out hxt).1
        rw [← HA.out, ← HBB.out, ← HQ.out, ← HE1.out, ← HE2.out] at hat
        rw [← HE1.out, ← HE2.out] at hgt
        have HAT := Lib.hid hat
        clear hat
        have HT := Lib.hid hxt
        have HGT := Lib.hid hgt
        clear hxt hgt
        go_wp2
        go_roundw
        case rel => exact ⟨_, _, min e1 e2, rfl, rfl, by rw [show ((min e1 e2 : Nat) : Int) = min (e1 : Int) (e2 : Int) by omega], HAT⟩
        case measure =>
          have h1 := HT.out
          have h2 := HGT.out
          have h3 : (intOf (Value.int .u64 (min (e1 : Int) (e2 : Int)))).toNat = min e1 e2 := by simp [intOf]; omega
          have h4 : (intOf (Value.int .u64 (x : Int))).toNat = x := by simp [intOf]
          rw [h3, h4]
          omega
      · have hxe : x = topN := by omega
        exfalso
        have h1 := HQ.out
        rw [HA.out, HBB.out, hxe, show inB nl topN = false by (cases hc : inB nl topN with | false => rfl | true => have := fit_in HFL.out hc; omega), show inB no topN = false by (cases hc : inB no topN with | false => rfl | true => have := fit_in HFO.out hc; omega), HP.out.none] at h1
        cases h1
    · have HMID : Hid (ThMid f nl no base g1 g2 (fun b => b < B ∨ w.heap.size ≤ b ∧ b < g1) (fun b => b < B ∨ g1 < b ∧ b < g2) w wb u7 x) := Lib.hid
        ⟨out, r1', r2', hx, by rw [← HA.out, ← HBB.out, ← HQ.out]; exact HSW.out.same, HOB.out, HE1B.out, HEB.out, HKA.out, HKB.out, HBB2.out, by omega, fun hx => (by rcases HBD.out with h | ⟨h, _⟩ <;> omega), by have := HBD.out; omega⟩
      by_cases hxt : x < topN
      · have t9 : ((x : Int) == 18446744073709551615) = false := by
          have : x < 18446744073709551615 := hxt
          rw [beq_eq_false_iff_ne]
          omega
        have hat := HMID.out.next HNL.out HNO.out HFL.out HFO.out hxt
        have hgt := (sweep_next f HNL.out HNO.out HFL.out HFO.out hxt).1
        rw [← HA.out, ← HBB.out, ← HQ.out, ← HE1.out, ← HE2.out] at hat
        rw [← HE1.out, ← HE2.out] at hgt
        have HAT := Lib.hid hat
        clear hat
        have HT := Lib.hid hxt
        have HGT := Lib.hid hgt
        clear hxt hgt
        go_wp2
        go_roundw
        case rel => exact ⟨_, _, min e1 e2, rfl, rfl, by rw [show ((min e1 e2 : Nat) : Int) = min (e1 : Int) (e2 : Int) by omega], HAT⟩
        case measure =>
          have h1 := HT.out
          have h2 := HGT.out
          have h3 : (intOf (Value.int .u64 (min (e1 : Int) (e2 : Int)))).toNat = min e1 e2 := by simp [intOf]; omega
          have h4 : (intOf (Value.int .u64 (x : Int))).toNat = x := by simp [intOf]
          rw [h3, h4]
          omega
      · have hxe : x = topN := by omega
        exfalso
        have h1 := HQ.out
        rw [HA.out, HBB.out, hxe, show inB nl topN = false by (cases hc : inB nl topN with | false => rfl | true => have := fit_in HFL.out hc; omega), show inB no topN = false by (cases hc : inB no topN with | false => rfl | true => have := fit_in HFO.out hc; omega), HP.out.none] at h1
        cases h1

end Go.Proofs.Ytaemfoelhijbjaa
