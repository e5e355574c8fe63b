/-
  The walk through hostlerlaw11.SpanSets: made by tools/gen_splaws.py.
-/
import Derived.Test.YtkmnhlcjeebejaaSpWorks
namespace Go.Proofs.Ytkmnhlcjeebejaa
open Go.RowKit
set_option linter.unusedVariables false

/-- What is added one by one, from the last on. -/
def OneAt (b : List (Nat × Nat)) (n2 : Nat) (w : World) (v : Value) (j : Int) : Prop :=
  ∃ A n c l, v = .slice A n c ∧ Live w A n c l ∧ NeatL l ∧ (∀ x, inB l x = inB (b.drop (j + 1).toNat) x) ∧ n ≤ 30000
theorem OneAt.start (w : World) (b : List (Nat × Nat)) (n2 : Nat) (hb : b.length = n2) : OneAt b n2 w (.slice none 0 0) ((n2 : Int) - 1) :=
  ⟨none, 0, 0, [], rfl, Live.nil w, neat_nil, fun x => by rw [show (((n2 : Int) - 1) + 1).toNat = n2 by omega, List.drop_eq_nil_of_le (by omega)], Nat.zero_le _⟩
theorem one_end {b l : List (Nat × Nat)} {n2 : Nat} (hb : b.length = n2) (h : ∀ x, inB l x = inB (b.drop ((-1 : Int) + 1).toNat) x) : ∀ x, inB l x = inB b x := fun x => by
  rw [h x]
  rfl
theorem one_lit (w : World) (r : Nat × Nat) (hf : r.1 ≤ topN ∧ r.2 ≤ topN) : Live (w.alloc (.cells #[.int .u64 (r.1 : Int), .int .u64 (r.2 : Int)] 37)) (some ⟨w.heap.size, 0, none⟩) 1 1 [r] :=
  ⟨rfl, by omega, by simpa using rs_new w r, Nat.le_refl _, by unfold maxLen; omega, fun s hs => by simp at hs; subst hs; exact hf⟩
/-- A neat list of few numbers' ranges is no longer than the list that it was made of. -/
theorem neat_short {l m : List (Nat × Nat)} (hl : NeatL l) (h : ∀ x, inB l x = inB m x) : l.length ≤ m.length := by
  have key : ∀ (l m : List (Nat × Nat)), NeatL l → (∀ r ∈ l, ∃ s ∈ m, s.1 ≤ r.1 ∧ r.1 < s.2 ∧ s.2 ≤ r.2) → l.length ≤ m.length := by
    intro l
    induction l with
    | nil => intro m _ _; exact Nat.zero_le _
    | cons r l ih =>
      intro m hn hs
      obtain ⟨h1, h2, h3⟩ := neat_cons.1 hn
      obtain ⟨s, hs1, s1, s2, s3⟩ := hs r (by simp)
      have := ih (m.erase s) h3 (fun q hq => by
        obtain ⟨t, ht, t1, t2, t3⟩ := hs q (by simp [hq])
        refine ⟨t, (List.mem_erase_of_ne ?_).2 ht, t1, t2, t3⟩
        rintro rfl
        have := h2 q hq
        omega)
      have hpos : 0 < m.length := List.length_pos_of_mem hs1
      rw [List.length_erase_of_mem hs1] at this
      simp
      omega
  refine key l m hl fun r hr => ?_
  have hin : inB l r.1 = true := inB_iff.2 ⟨r, hr, Nat.le_refl _, hl.1 r hr⟩
  rw [h] at hin
  obtain ⟨s, hs, s1, s2⟩ := inB_iff.1 hin
  refine ⟨s, hs, s1, s2, ?_⟩
  rcases Nat.lt_or_ge r.2 s.2 with h3 | h3
  · exfalso
    have : inB m r.2 = true := inB_iff.2 ⟨s, hs, by have := hl.1 r hr; omega, h3⟩
    rw [← h] at this
    obtain ⟨q, hq, q1, q2⟩ := inB_iff.1 this
    obtain ⟨i, hi⟩ := List.mem_iff_getElem?.1 hr
    obtain ⟨j, hj⟩ := List.mem_iff_getElem?.1 hq
    rcases Nat.lt_trichotomy i j with h4 | h4 | h4
    · have := neat_lt hl hi hj h4
      omega
    · subst h4
      rw [hi] at hj
      obtain rfl := Option.some.inj hj
      omega
    · have := neat_lt hl hj hi h4
      have := hl.1 r hr
      omega
  · exact h3
theorem OneAt.step {b : List (Nat × Nat)} {n2 k : Nat} {w w' : World} {v : Value} {r : Nat × Nat} {A : Option Addr} {n c : Nat} {l lo : List (Nat × Nat)} (hr : b[k]? = some r) (hk : k < n2) (h : OneAt b n2 w v k)
    (h1 : Live w' A n c l) (h2 : NeatL l) (h3 : ∀ x, inB l x = (inB lo x || inB [r] x)) (h4 : b.length ≤ 30000) (h5 : ∀ x, inB lo x = inB (b.drop ((k : Int) + 1).toNat) x) : OneAt b n2 w' (.slice A n c) ((k : Int) - 1) := by
  have hd : b.drop k = r :: b.drop (k + 1) := by
    have hl := (List.getElem?_eq_some_iff.1 hr)
    rw [List.drop_eq_getElem_cons hl.1, hl.2]
  have hi : ∀ x, inB l x = inB (b.drop (((k : Int) - 1) + 1).toNat) x := fun x => by
    rw [h3, h5, show (((k : Int) - 1) + 1).toNat = k by omega, show ((k : Int) + 1).toNat = k + 1 by omega, hd, inB_one r x, inB_cons r (b.drop (k + 1)) x, Bool.or_comm]
  refine ⟨A, n, c, l, rfl, h1, h2, hi, ?_⟩
  have := neat_short h2 hi
  rw [h1.len] at this
  simp at this
  omega

set_option maxRecDepth 10000 in
set_option maxHeartbeats 8000000 in
theorem sets_any (A1 A2 : Option Addr) (n1 c1 n2 c2 : Nat) (a b : List (Nat × Nat)) (w : World) (ha : a.length = n1) (hb : b.length = n2) (hr1 : Rs w w.heap.size A1 a) (hr2 : Rs w w.heap.size A2 b)
    (hc1 : a.length ≤ c1) (hc2 : b.length ≤ c2) (hm1 : c1 ≤ maxLen) (hm2 : c2 ≤ maxLen) (hf1 : FitL a) (hf2 : FitL b) :
    Calls Try.prog 6 #[.slice A1 n1 c1, .slice A2 n2 c2] w (Says true w) := by
  have hnm1 : n1 ≤ 9223372036854775807 := by unfold maxLen at hm1; omega
  have hnm2 : n2 ≤ 9223372036854775807 := by unfold maxLen at hm2; omega
  by_cases h1 : n1 ≤ 60
  rotate_left
  · have d1 : decide ((n1 : Int) > 60) = true := decide_eq_true (by omega)
    clear ha hb hr1 hr2 hc1 hc2 hm1 hm2 hf1 hf2
    go_enter Try.func6, Try.ntmps6
    go_wp2_with (go_at_call 8; refine (works_any _).mono ?_; rintro e w1 ⟨rfl, hb1⟩)
    go_ret
    exact ⟨rfl, hb1⟩
  have d1 : decide ((n1 : Int) > 60) = false := decide_eq_false (by omega)
  by_cases h2 : n2 ≤ 60
  rotate_left
  · have d2 : decide ((n2 : Int) > 60) = true := decide_eq_true (by omega)
    clear ha hb hr1 hr2 hc1 hc2 hm1 hm2 hf1 hf2
    go_enter Try.func6, Try.ntmps6
    go_wp2_with (go_at_call 8; refine (works_any _).mono ?_; rintro e w1 ⟨rfl, hb1⟩)
    go_ret
    exact ⟨rfl, hb1⟩
  have d2 : decide ((n2 : Int) > 60) = false := decide_eq_false (by omega)
  have La : Hid (Live w A1 n1 c1 a) := Lib.hid ⟨ha, by omega, hr1, by omega, hm1, hf1⟩
  have Lb : Hid (Live w A2 n2 c2 b) := Lib.hid ⟨hb, by omega, hr2, by omega, hm2, hf2⟩
  clear ha hb hr1 hr2 hc1 hc2 hm1 hm2 hf1 hf2
  have HB := Lib.hid (Below.refl w.heap.size w)
  go_enter Try.func6, Try.ntmps6
  go_wp2_with fail
  refine (add_h La.out Lb.out (by omega) (by omega)).mono ?_
  rintro e w1 ⟨As, ns, cs, ls, rfl, hl, hq, hi, hns, hb⟩
  dsimp only at hi
  have Ls := Lib.hid hl
  have Ns := Lib.hid hq
  have Is := Lib.hid hi
  clear hl hq hi
  replace La := Lib.hid (La.out.on hb)
  replace Lb := Lib.hid (Lb.out.on hb)
  replace HB := Lib.hid (HB.out.trans (hb.mono HB.out.size))
  clear hb
  go_wp2_with fail
  refine (cut_h La.out Lb.out (by omega) (by omega)).mono ?_
  rintro e w2 ⟨Ac, nc, cc, lc, rfl, hl, hq, hi, hnc, hb⟩
  dsimp only at hi
  have Lc := Lib.hid hl
  have Nc := Lib.hid hq
  have Ic := Lib.hid hi
  clear hl hq hi
  replace La := Lib.hid (La.out.on hb)
  replace Lb := Lib.hid (Lb.out.on hb)
  replace Ls := Lib.hid (Ls.out.on hb)
  replace HB := Lib.hid (HB.out.trans (hb.mono HB.out.size))
  clear hb
  go_wp2_with fail
  refine (both_h La.out Lb.out (by omega) (by omega)).mono ?_
  rintro e w3 ⟨Ad, nd, cd, ld, rfl, hl, hq, hi, hnd, hb⟩
  dsimp only at hi
  have Ld := Lib.hid hl
  have Nd := Lib.hid hq
  have Id := Lib.hid hi
  clear hl hq hi
  replace La := Lib.hid (La.out.on hb)
  replace Lb := Lib.hid (Lb.out.on hb)
  replace Ls := Lib.hid (Ls.out.on hb)
  replace Lc := Lib.hid (Lc.out.on hb)
  replace HB := Lib.hid (HB.out.trans (hb.mono HB.out.size))
  clear hb
  go_wp2_with fail
  refine (neat_yes Ls.out Ns.out).mono ?_
  rintro e w4 ⟨rfl, hb⟩
  replace La := Lib.hid (La.out.on hb)
  replace Lb := Lib.hid (Lb.out.on hb)
  replace Ls := Lib.hid (Ls.out.on hb)
  replace Lc := Lib.hid (Lc.out.on hb)
  replace Ld := Lib.hid (Ld.out.on hb)
  replace HB := Lib.hid (HB.out.trans (hb.mono HB.out.size))
  clear hb
  go_wp2_with fail
  refine (neat_yes Lc.out Nc.out).mono ?_
  rintro e w5 ⟨rfl, hb⟩
  replace La := Lib.hid (La.out.on hb)
  replace Lb := Lib.hid (Lb.out.on hb)
  replace Ls := Lib.hid (Ls.out.on hb)
  replace Lc := Lib.hid (Lc.out.on hb)
  replace Ld := Lib.hid (Ld.out.on hb)
  replace HB := Lib.hid (HB.out.trans (hb.mono HB.out.size))
  clear hb
  go_wp2_with fail
  refine (neat_yes Ld.out Nd.out).mono ?_
  rintro e w6 ⟨rfl, hb⟩
  replace La := Lib.hid (La.out.on hb)
  replace Lb := Lib.hid (Lb.out.on hb)
  replace Ls := Lib.hid (Ls.out.on hb)
  replace Lc := Lib.hid (Lc.out.on hb)
  replace Ld := Lib.hid (Ld.out.on hb)
  replace HB := Lib.hid (HB.out.trans (hb.mono HB.out.size))
  clear hb
  go_wp2_with fail
  refine (add_h Lb.out La.out (by omega) (by omega)).mono ?_
  rintro e w7 ⟨Ae1, ne1, ce1, le1, rfl, hl, hq, hi, hne1, hb⟩
  dsimp only at hi
  have Le1 := Lib.hid hl
  have Ne1 := Lib.hid hq
  have Ie1 := Lib.hid hi
  clear hl hq hi
  replace La := Lib.hid (La.out.on hb)
  replace Lb := Lib.hid (Lb.out.on hb)
  replace Ls := Lib.hid (Ls.out.on hb)
  replace Lc := Lib.hid (Lc.out.on hb)
  replace Ld := Lib.hid (Ld.out.on hb)
  replace HB := Lib.hid (HB.out.trans (hb.mono HB.out.size))
  clear hb
  go_wp2_with fail
  refine (same_yes Ls.out Le1.out (neat_unique Ns.out Ne1.out fun x => (Is.out x).trans ((Ie1.out x).trans (Bool.or_comm _ _)).symm)).mono ?_
  rintro e w8 ⟨rfl, hb⟩
  replace La := Lib.hid (La.out.on hb)
  replace Lb := Lib.hid (Lb.out.on hb)
  replace Ls := Lib.hid (Ls.out.on hb)
  replace Lc := Lib.hid (Lc.out.on hb)
  replace Ld := Lib.hid (Ld.out.on hb)
  replace Le1 := Lib.hid (Le1.out.on hb)
  replace HB := Lib.hid (HB.out.trans (hb.mono HB.out.size))
  clear hb
  clear Le1
  clear Ne1 Ie1
  go_wp2_with fail
  refine (add_h Ls.out La.out (by omega) (by omega)).mono ?_
  rintro e w9 ⟨Ae2, ne2, ce2, le2, rfl, hl, hq, hi, hne2, hb⟩
  dsimp only at hi
  have Le2 := Lib.hid hl
  have Ne2 := Lib.hid hq
  have Ie2 := Lib.hid hi
  clear hl hq hi
  replace La := Lib.hid (La.out.on hb)
  replace Lb := Lib.hid (Lb.out.on hb)
  replace Ls := Lib.hid (Ls.out.on hb)
  replace Lc := Lib.hid (Lc.out.on hb)
  replace Ld := Lib.hid (Ld.out.on hb)
  replace HB := Lib.hid (HB.out.trans (hb.mono HB.out.size))
  clear hb
  go_wp2_with fail
  refine (same_yes Ls.out Le2.out (neat_unique Ns.out Ne2.out fun x => by rw [Is.out, Ie2.out, Is.out]; cases inB a x <;> cases inB b x <;> rfl)).mono ?_
  rintro e w10 ⟨rfl, hb⟩
  replace La := Lib.hid (La.out.on hb)
  replace Lb := Lib.hid (Lb.out.on hb)
  replace Ls := Lib.hid (Ls.out.on hb)
  replace Lc := Lib.hid (Lc.out.on hb)
  replace Ld := Lib.hid (Ld.out.on hb)
  replace Le2 := Lib.hid (Le2.out.on hb)
  replace HB := Lib.hid (HB.out.trans (hb.mono HB.out.size))
  clear hb
  clear Le2
  clear Ne2 Ie2
  go_wp2
  go_loopw [8, 9] (fun s8 s9 wr => ∃ (v : Value) (j : Int), s8 = v ∧ s9 = .int .i64 j ∧ -1 ≤ j ∧ j < (n2 : Int) ∧ Hid (OneAt b n2 wr v j) ∧ Hid (Below w10.heap.size w10 wr)) (fun _ s9 _ => (intOf s9 + 1).toNat)
  case atStart => exact ⟨_, _, rfl, rfl, by omega, by omega, Lib.hid (OneAt.start w10 b n2 Lb.out.len), Lib.hid (Below.refl _ _)⟩
  case round =>
    obtain ⟨v, j, rfl, rfl, hj1, hj2, hone, hbw⟩ := hrel
    obtain ⟨Ao, no, co, lo, hvo, hlo, hno, hio, hko⟩ := hone.out
    subst hvo
    have LO := Lib.hid hlo
    have NO := Lib.hid hno
    have IO := Lib.hid hio
    clear hlo hno hio hone
    by_cases hj0 : 0 ≤ j
    · obtain ⟨k, rfl⟩ : ∃ k : Nat, j = (k : Int) := ⟨j.toNat, by omega⟩
      have hk2 : k < n2 := by omega
      obtain ⟨r, hr⟩ : ∃ r, b[k]? = some r := ⟨_, List.getElem?_eq_getElem (by rw [Lb.out.len]; exact hk2)⟩
      obtain ⟨g, off, rfl, hg, hcc⟩ := Lb.out.reads.at_ (by rw [Lb.out.len]; omega)
      have hx1 := (hbw.out.cell (p := ⟨g, off + k * 2, none⟩) hg).trans (hcc k r hr).1
      have hx2 := (hbw.out.cell (p := ⟨g, off + k * 2 + 1, none⟩) hg).trans (hcc k r hr).2
      have hge : (k : Int) ≥ 0 := by omega
      have HR := Lib.hid hr
      have HRL := Lib.hid (one_lit wr r (Lb.out.fit r (List.mem_of_getElem? hr)))
      have HLA := Lib.hid (LO.out.alloc (.cells #[.int .u64 (r.1 : Int), .int .u64 (r.2 : Int)] 37))
      clear hcc hr
      go_wp2_with fail
      refine (add_h HLA.out HRL.out (by omega) (by omega)).mono ?_
      rintro e w8 ⟨A8, n8, c8, l8, rfl, hl8, hq8, hi8, hn8, hb8⟩
      have HO8 := Lib.hid (OneAt.step HR.out hk2 ⟨Ao, no, co, lo, rfl, LO.out, NO.out, IO.out, hko⟩ hl8 hq8 hi8 (by rw [Lb.out.len]; omega) IO.out)
      have HB8 := Lib.hid (hbw.out.trans ((((Below.refl _ wr).alloc (Nat.le_refl _) (.cells #[.int .u64 (r.1 : Int), .int .u64 (r.2 : Int)] 37)).trans (hb8.mono (by simp))).mono hbw.out.size))
      clear hl8 hq8 hi8 hb8
      go_wp2
      go_roundw
      case rel => exact ⟨_, (k : Int) - 1, rfl, rfl, by omega, by omega, HO8, HB8⟩
      case measure => simp [intOf]
    · have hj0' : decide (j ≥ 0) = false := decide_eq_false (by omega)
      obtain rfl : j = -1 := by omega
      have Lo : Hid (Live wr Ao no co lo) := LO
      have No := NO
      have hko2 : no ≤ 30000 := hko
      replace La := Lib.hid (La.out.on hbw.out)
      replace Lb := Lib.hid (Lb.out.on hbw.out)
      replace Ls := Lib.hid (Ls.out.on hbw.out)
      replace Lc := Lib.hid (Lc.out.on hbw.out)
      replace Ld := Lib.hid (Ld.out.on hbw.out)
      replace HB := Lib.hid (HB.out.trans (hbw.out.mono HB.out.size))
      have IO2 : Hid (∀ x, inB lo x = inB b x) := Lib.hid (one_end Lb.out.len IO.out)
      clear hbw IO LO NO
      go_wp2_with fail
      refine (add_h Lo.out La.out (by omega) (by omega)).mono ?_
      rintro e w21 ⟨Af, nf, cf, lf, rfl, hl, hq, hi, hnf, hb⟩
      dsimp only at hi
      have Lf := Lib.hid hl
      have Nf := Lib.hid hq
      have If := Lib.hid hi
      clear hl hq hi
      replace La := Lib.hid (La.out.on hb)
      replace Lb := Lib.hid (Lb.out.on hb)
      replace Ls := Lib.hid (Ls.out.on hb)
      replace Lc := Lib.hid (Lc.out.on hb)
      replace Ld := Lib.hid (Ld.out.on hb)
      replace Lo := Lib.hid (Lo.out.on hb)
      replace HB := Lib.hid (HB.out.trans (hb.mono HB.out.size))
      clear hb
      go_wp2_with fail
      refine (same_yes Lf.out Ls.out (neat_unique Nf.out Ns.out fun x => by rw [If.out, Is.out, IO2.out]; exact Bool.or_comm _ _)).mono ?_
      rintro e w22 ⟨rfl, hb⟩
      replace La := Lib.hid (La.out.on hb)
      replace Lb := Lib.hid (Lb.out.on hb)
      replace Ls := Lib.hid (Ls.out.on hb)
      replace Lc := Lib.hid (Lc.out.on hb)
      replace Ld := Lib.hid (Ld.out.on hb)
      replace Lo := Lib.hid (Lo.out.on hb)
      replace Lf := Lib.hid (Lf.out.on hb)
      replace HB := Lib.hid (HB.out.trans (hb.mono HB.out.size))
      clear hb
      clear Lf Lo
      clear Nf If IO2 No
      go_wp2_with fail
      refine (both_h Lb.out La.out (by omega) (by omega)).mono ?_
      rintro e w23 ⟨Ag, ng, cg, lg, rfl, hl, hq, hi, hng, hb⟩
      dsimp only at hi
      have Lg := Lib.hid hl
      have Ng := Lib.hid hq
      have Ig := Lib.hid hi
      clear hl hq hi
      replace La := Lib.hid (La.out.on hb)
      replace Lb := Lib.hid (Lb.out.on hb)
      replace Ls := Lib.hid (Ls.out.on hb)
      replace Lc := Lib.hid (Lc.out.on hb)
      replace Ld := Lib.hid (Ld.out.on hb)
      replace HB := Lib.hid (HB.out.trans (hb.mono HB.out.size))
      clear hb
      go_wp2_with fail
      refine (same_yes Lg.out Ld.out (neat_unique Ng.out Nd.out fun x => by rw [Ig.out, Id.out]; exact Bool.and_comm _ _)).mono ?_
      rintro e w24 ⟨rfl, hb⟩
      replace La := Lib.hid (La.out.on hb)
      replace Lb := Lib.hid (Lb.out.on hb)
      replace Ls := Lib.hid (Ls.out.on hb)
      replace Lc := Lib.hid (Lc.out.on hb)
      replace Ld := Lib.hid (Ld.out.on hb)
      replace Lg := Lib.hid (Lg.out.on hb)
      replace HB := Lib.hid (HB.out.trans (hb.mono HB.out.size))
      clear hb
      clear Lg
      clear Ng Ig
      have Lz := Lib.hid (Live.nil w24)
      go_wp2_with fail
      refine (add_h La.out Lz.out (by omega) (by omega)).mono ?_
      rintro e w25 ⟨Ah, nh, ch, lh, rfl, hl, hq, hi, hnh, hb⟩
      dsimp only at hi
      have Lh := Lib.hid hl
      have Nh := Lib.hid hq
      have Ih := Lib.hid hi
      clear hl hq hi
      replace La := Lib.hid (La.out.on hb)
      replace Lb := Lib.hid (Lb.out.on hb)
      replace Ls := Lib.hid (Ls.out.on hb)
      replace Lc := Lib.hid (Lc.out.on hb)
      replace Ld := Lib.hid (Ld.out.on hb)
      replace Lz := Lib.hid (Lz.out.on hb)
      replace HB := Lib.hid (HB.out.trans (hb.mono HB.out.size))
      clear hb
      clear Lz
      go_wp2_with fail
      refine (add_h Lc.out Ld.out (by omega) (by omega)).mono ?_
      rintro e w26 ⟨Ai, ni, ci, li, rfl, hl, hq, hi, hni, hb⟩
      dsimp only at hi
      have Li := Lib.hid hl
      have Ni := Lib.hid hq
      have Ii := Lib.hid hi
      clear hl hq hi
      replace La := Lib.hid (La.out.on hb)
      replace Lb := Lib.hid (Lb.out.on hb)
      replace Ls := Lib.hid (Ls.out.on hb)
      replace Lc := Lib.hid (Lc.out.on hb)
      replace Ld := Lib.hid (Ld.out.on hb)
      replace Lh := Lib.hid (Lh.out.on hb)
      replace HB := Lib.hid (HB.out.trans (hb.mono HB.out.size))
      clear hb
      go_wp2_with fail
      refine (same_yes Li.out Lh.out (neat_unique Ni.out Nh.out fun x => by rw [Ii.out, Ih.out, Ic.out, Id.out]; cases inB a x <;> cases inB b x <;> rfl)).mono ?_
      rintro e w27 ⟨rfl, hb⟩
      replace La := Lib.hid (La.out.on hb)
      replace Lb := Lib.hid (Lb.out.on hb)
      replace Ls := Lib.hid (Ls.out.on hb)
      replace Lc := Lib.hid (Lc.out.on hb)
      replace Ld := Lib.hid (Ld.out.on hb)
      replace Lh := Lib.hid (Lh.out.on hb)
      replace Li := Lib.hid (Li.out.on hb)
      replace HB := Lib.hid (HB.out.trans (hb.mono HB.out.size))
      clear hb
      clear Li
      clear Ni Ii
      go_wp2_with fail
      refine (both_h Lc.out Ld.out (by omega) (by omega)).mono ?_
      rintro e w28 ⟨Aj, nj, cj, lj, rfl, hl, hq, hi, hnj, hb⟩
      dsimp only at hi
      have Lj := Lib.hid hl
      have Nj := Lib.hid hq
      have Ij := Lib.hid hi
      clear hl hq hi
      replace La := Lib.hid (La.out.on hb)
      replace Lb := Lib.hid (Lb.out.on hb)
      replace Ls := Lib.hid (Ls.out.on hb)
      replace Lc := Lib.hid (Lc.out.on hb)
      replace Ld := Lib.hid (Ld.out.on hb)
      replace Lh := Lib.hid (Lh.out.on hb)
      replace HB := Lib.hid (HB.out.trans (hb.mono HB.out.size))
      clear hb
      have hj0n : nj = 0 := by
        have : lj = [] := neat_unique Nj.out neat_nil fun x => by rw [Ij.out, Ic.out, Id.out]; cases inB a x <;> cases inB b x <;> rfl
        rw [← Lj.out.len, this]
        rfl
      subst hj0n
      clear Lj
      clear Nj Ij
      go_wp2_with fail
      refine (count_h Lc.out Nc.out (fun x => rfl)).mono ?_
      rintro e w29 ⟨rfl, hb⟩
      replace La := Lib.hid (La.out.on hb)
      replace Lb := Lib.hid (Lb.out.on hb)
      replace Ls := Lib.hid (Ls.out.on hb)
      replace Lc := Lib.hid (Lc.out.on hb)
      replace Ld := Lib.hid (Ld.out.on hb)
      replace Lh := Lib.hid (Lh.out.on hb)
      replace HB := Lib.hid (HB.out.trans (hb.mono HB.out.size))
      clear hb
      go_wp2_with fail
      refine (count_h Ld.out Nd.out (fun x => rfl)).mono ?_
      rintro e w30 ⟨rfl, hb⟩
      replace La := Lib.hid (La.out.on hb)
      replace Lb := Lib.hid (Lb.out.on hb)
      replace Ls := Lib.hid (Ls.out.on hb)
      replace Lc := Lib.hid (Lc.out.on hb)
      replace Ld := Lib.hid (Ld.out.on hb)
      replace Lh := Lib.hid (Lh.out.on hb)
      replace HB := Lib.hid (HB.out.trans (hb.mono HB.out.size))
      clear hb
      go_wp2_with fail
      refine (count_h Lh.out Nh.out (fun x => rfl)).mono ?_
      rintro e w31 ⟨rfl, hb⟩
      replace La := Lib.hid (La.out.on hb)
      replace Lb := Lib.hid (Lb.out.on hb)
      replace Ls := Lib.hid (Ls.out.on hb)
      replace Lc := Lib.hid (Lc.out.on hb)
      replace Ld := Lib.hid (Ld.out.on hb)
      replace Lh := Lib.hid (Lh.out.on hb)
      replace HB := Lib.hid (HB.out.trans (hb.mono HB.out.size))
      clear hb
      have HTA := Lib.hid (total_add Nc.out Nd.out Nh.out Lc.out.fit Ld.out.fit Lh.out.fit (fun x => by rw [Ic.out, Id.out]; cases inB a x <;> cases inB b x <;> rfl) (fun x => by rw [Ih.out, Ic.out, Id.out]; cases inB a x <;> cases inB b x <;> rfl))
      have htl : totalL lh ≤ topN := total_le Nh.out Lh.out.fit
      generalize totalL lc = tc at *
      generalize totalL ld = td at *
      generalize totalL lh = th at *
      have hta := HTA.out
      have hwr : IntKind.u64.wrap ((tc : Int) + (td : Int)) = (th : Int) := by rw [IntKind.wrap_u64]; unfold topN at htl; omega
      clear hta htl HTA
      go_wp2_with fail
      refine (cut_h Ls.out Lb.out (by omega) (by omega)).mono ?_
      rintro e w32 ⟨Ak, nk, ck, lk, rfl, hl, hq, hi, hnk, hb⟩
      dsimp only at hi
      have Lk := Lib.hid hl
      have Nk := Lib.hid hq
      have Ik := Lib.hid hi
      clear hl hq hi
      replace La := Lib.hid (La.out.on hb)
      replace Lb := Lib.hid (Lb.out.on hb)
      replace Ls := Lib.hid (Ls.out.on hb)
      replace Lc := Lib.hid (Lc.out.on hb)
      replace Ld := Lib.hid (Ld.out.on hb)
      replace Lh := Lib.hid (Lh.out.on hb)
      replace HB := Lib.hid (HB.out.trans (hb.mono HB.out.size))
      clear hb
      go_wp2_with fail
      refine (same_yes Lk.out Lc.out (neat_unique Nk.out Nc.out fun x => by rw [Ik.out, Ic.out, Is.out]; cases inB a x <;> cases inB b x <;> rfl)).mono ?_
      rintro e w33 ⟨rfl, hb⟩
      replace La := Lib.hid (La.out.on hb)
      replace Lb := Lib.hid (Lb.out.on hb)
      replace Ls := Lib.hid (Ls.out.on hb)
      replace Lc := Lib.hid (Lc.out.on hb)
      replace Ld := Lib.hid (Ld.out.on hb)
      replace Lh := Lib.hid (Lh.out.on hb)
      replace Lk := Lib.hid (Lk.out.on hb)
      replace HB := Lib.hid (HB.out.trans (hb.mono HB.out.size))
      clear hb
      clear Lk
      clear Nk Ik
      go_wp2_with fail
      refine (works_any _).mono ?_
      rintro e w34 ⟨rfl, hb⟩
      replace La := Lib.hid (La.out.on hb)
      replace Lb := Lib.hid (Lb.out.on hb)
      replace Ls := Lib.hid (Ls.out.on hb)
      replace Lc := Lib.hid (Lc.out.on hb)
      replace Ld := Lib.hid (Ld.out.on hb)
      replace Lh := Lib.hid (Lh.out.on hb)
      replace HB := Lib.hid (HB.out.trans (hb.mono HB.out.size))
      clear hb
      go_wp2
      go_ret
      exact ⟨rfl, HB.out⟩

end Go.Proofs.Ytkmnhlcjeebejaa
