/-
  What is told of a way: Pto, Loss.
-/
import Derived.Test.YtoahannfpnkpkaaRtSmall
namespace Go.Proofs.Ytoahannfpnkpkaa
open Go.RowKit
set_option linter.unusedVariables false

theorem doubled_at (w : World) (z : Int) (t k : Nat) (ht : t < 2 ^ 43) (hz : z = (t : Int)) :
    Calls Try.prog 13 #[.int .u64 z, .int .u64 (k : Int)] w fun e w' => e = .returned (.int .u64 (dblN t k : Int)) ∧ w = w' := by
  subst hz
  exact doubled_any w t k ht

/-- What Pto tells where nothing is known. -/
theorem pto_new (w : World) (d k : Nat) (p : Option Addr) (s : RS) (hs : s.has = false) (hd : d ≤ 18446744073709551615) (hk : Calls Try.prog 12 #[.pointer p] w fun e w' => e = .returned (.bool false) ∧ w = w') :
    Calls Try.prog 8 #[.pointer p, .int .u64 (d : Int), .int .u64 (k : Int)] w fun e w' => e = .returned (.int .u64 (ptoN s d k : Int)) ∧ w = w' := by
  have HK := Lib.hid hk
  have HD := Lib.hid (fun z (hz : z = (sumN s d : Int)) => doubled_at w z (sumN s d) k (sum_top _ _) hz)
  have HS : Hid ((sumN s d : Int) = 999000 + min (d : Int) 1099511627776) := Lib.hid (by unfold sumN mT; rw [hs]; simp only [Bool.false_eq_true, if_false]; omega)
  have HP : Hid (ptoN s d k = dblN (sumN s d) k) := Lib.hid rfl
  generalize ptoN s d k = r at *
  generalize sumN s d = t at *
  generalize dblN t k = z at *
  clear hk hs
  go_enter Try.func8, Try.ntmps8
  go_upto_region 4 with (go_at_call 12; refine HK.out.mono ?_; rintro e w1 ⟨rfl, rfl⟩)
  go_wp2_with (go_at_call 13; refine (HD.out _ (by rw [HS.out]; omega)).mono ?_; rintro e w1 ⟨rfl, rfl⟩)
  all_goals
    go_ret
    exact ⟨by rw [HP.out]; rfl, rfl⟩

theorem pto_has (w : World) (g d k : Nat) (s : RS) (h : RAt w g s) (hs : s.has = true) (hd : d ≤ 18446744073709551615) :
    Calls Try.prog 8 #[.pointer (some ⟨g, 0, none⟩), .int .u64 (d : Int), .int .u64 (k : Int)] w fun e w' => e = .returned (.int .u64 (ptoN s d k : Int)) ∧ Below w.heap.size w w' := by
  have HK := Lib.hid (rknown_any w g s h)
  rw [hs] at HK
  have HD := Lib.hid (fun w2 z (hz : z = (sumN s d : Int)) => doubled_at w2 z (sumN s d) k (sum_top _ _) hz)
  have HS : Hid ((sumN s d : Int) = ((min s.sm mT : Nat) : Int) + max (4 * ((min s.va mT : Nat) : Int)) 1000 + min (d : Int) 1099511627776) := Lib.hid (by unfold sumN mT; rw [hs]; simp only [if_true]; omega)
  have HP : Hid (ptoN s d k = dblN (sumN s d) k) := Lib.hid rfl
  have h3 := h.c3
  have h4 := h.c4
  have HA : Hid ((if (1099511627776 : Int) < (s.sm : Int) then (1099511627776 : Int) else (s.sm : Int)) = ((min s.sm mT : Nat) : Int)) := Lib.hid (by unfold mT; split <;> omega)
  have HB : Hid ((if (1099511627776 : Int) < (s.va : Int) then (1099511627776 : Int) else (s.va : Int)) = ((min s.va mT : Nat) : Int)) := Lib.hid (by unfold mT; split <;> omega)
  have ha : ((min s.sm mT : Nat) : Int) ≤ 1099511627776 := by unfold mT; omega
  have hb : ((min s.va mT : Nat) : Int) ≤ 1099511627776 := by unfold mT; omega
  have ha0 : 0 ≤ ((min s.sm mT : Nat) : Int) := by omega
  have hb0 : 0 ≤ ((min s.va mT : Nat) : Int) := by omega
  clear h hs
  go_enter Try.func8, Try.ntmps8
  go_upto_region 3 with (go_at_call 12; refine HK.out.mono ?_; rintro e w1 ⟨rfl, rfl⟩)
  go_quiet (fail)
  rw [HA.out, HB.out]
  have HW := Lib.hid (below_drewN (Below.refl w.heap.size w) nq)
  clear HA HB h3 h4 HK
  generalize sumN s d = t at *
  generalize dblN t k = z at *
  generalize ((min s.sm mT : Nat) : Int) = a at *
  generalize ((min s.va mT : Nat) : Int) = b at *
  generalize w.drewN nq = w2 at *
  go_wp2_with (go_at_call 13; refine (HD.out _ _ (by rw [HS.out]; omega)).mono ?_; rintro e w1 ⟨rfl, rfl⟩)
  all_goals
    go_ret
    exact ⟨by rw [HP.out]; rfl, HW.out⟩

theorem pto_any (w : World) (g d k : Nat) (s : RS) (h : RAt w g s) (hd : d ≤ 18446744073709551615) :
    Calls Try.prog 8 #[.pointer (some ⟨g, 0, none⟩), .int .u64 (d : Int), .int .u64 (k : Int)] w fun e w' => e = .returned (.int .u64 (ptoN s d k : Int)) ∧ Below w.heap.size w w' := by
  rcases hs : s.has with _ | _
  · have hk := rknown_any w g s h
    rw [hs] at hk
    refine (pto_new w d k _ s hs hd hk).mono ?_
    rintro e w' ⟨h1, rfl⟩
    exact ⟨h1, Below.refl _ _⟩
  · exact pto_has w g d k s h hs hd
theorem pto_nil (w : World) (d k : Nat) (hd : d ≤ 18446744073709551615) :
    Calls Try.prog 8 #[.pointer none, .int .u64 (d : Int), .int .u64 (k : Int)] w fun e w' => e = .returned (.int .u64 (ptoN RS.new d k : Int)) ∧ w = w' :=
  pto_new w d k none RS.new rfl hd (rknown_nil w)

theorem loss_new (w : World) (p : Option Addr) (s : RS) (hs : s.has = false) (hk : Calls Try.prog 12 #[.pointer p] w fun e w' => e = .returned (.bool false) ∧ w = w') :
    Calls Try.prog 9 #[.pointer p] w fun e w' => e = .returned (.int .u64 (lossN s : Int)) ∧ w = w' := by
  have HK := Lib.hid hk
  have HS : Hid (lossN s = 374625) := Lib.hid (by unfold lossN wayN; rw [hs]; simp only [Bool.false_eq_true, if_false]; decide)
  clear hk hs
  go_enter Try.func9, Try.ntmps9
  go_wp2_with (go_at_call 12; refine HK.out.mono ?_; rintro e w1 ⟨rfl, rfl⟩)
  all_goals
    go_ret
    exact ⟨by rw [HS.out]; rfl, rfl⟩

theorem loss_has (w : World) (g : Nat) (s : RS) (h : RAt w g s) (hs : s.has = true) (h1 : s.la ≤ 18446744073709551615) (h2 : s.sm ≤ 18446744073709551615) :
    Calls Try.prog 9 #[.pointer (some ⟨g, 0, none⟩)] w fun e w' => e = .returned (.int .u64 (lossN s : Int)) ∧ Below w.heap.size w w' := by
  have HK := Lib.hid (rknown_any w g s h)
  rw [hs] at HK
  have HS : Hid (lossN s = max 1000 (wayN s + min (wayN s / 8) (18446744073709551615 - wayN s))) := Lib.hid rfl
  have hw : wayN s ≤ 18446744073709551615 := by unfold wayN; rw [hs]; simp only [if_true]; omega
  have h3 := h.c1
  have h4 := h.c3
  have HA : Hid ((if s.la < s.sm then (s.sm : Int) else (s.la : Int)) = (wayN s : Int)) := Lib.hid (by unfold wayN; rw [hs]; simp only [if_true]; split <;> omega)
  clear h hs h1 h2
  go_enter Try.func9, Try.ntmps9
  go_upto_region 3 with (go_at_call 12; refine HK.out.mono ?_; rintro e w1 ⟨rfl, rfl⟩)
  go_quiet (fail)
  rw [HA.out]
  have HW := Lib.hid (below_drewN (Below.refl w.heap.size w) nq)
  clear HA h3 h4 HK
  generalize wayN s = x at *
  generalize w.drewN nq = w2 at *
  go_wp2
  all_goals
    go_ret
    refine ⟨congrArg (fun z => Ending.returned (Value.int IntKind.u64 z)) (?_ : (_ : Int) = _), HW.out⟩
    rw [HS.out]
    clear HS HW
    omega

theorem loss_any (w : World) (g : Nat) (s : RS) (h : RAt w g s) (h1 : s.la ≤ 18446744073709551615) (h2 : s.sm ≤ 18446744073709551615) :
    Calls Try.prog 9 #[.pointer (some ⟨g, 0, none⟩)] w fun e w' => e = .returned (.int .u64 (lossN s : Int)) ∧ Below w.heap.size w w' := by
  rcases hs : s.has with _ | _
  · have hk := rknown_any w g s h
    rw [hs] at hk
    refine (loss_new w _ s hs hk).mono ?_
    rintro e w' ⟨h1, rfl⟩
    exact ⟨h1, Below.refl _ _⟩
  · exact loss_has w g s h hs h1 h2
theorem loss_nil (w : World) :
    Calls Try.prog 9 #[.pointer none] w fun e w' => e = .returned (.int .u64 (lossN RS.new : Int)) ∧ w = w' :=
  loss_new w none RS.new rfl (rknown_nil w)

end Go.Proofs.Ytoahannfpnkpkaa
