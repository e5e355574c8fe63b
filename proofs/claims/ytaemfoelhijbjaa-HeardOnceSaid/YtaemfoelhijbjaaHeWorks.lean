/-
  The walk through hostlerlaw12.works.
-/
import Derived.Test.YtaemfoelhijbjaaHeAck
import Derived.Test.YtaemfoelhijbjaaHeAdd
import Derived.Test.YtaemfoelhijbjaaHeForget
namespace Go.Proofs.Ytaemfoelhijbjaa
open Go.RowKit
set_option linter.unusedVariables false

theorem hadd_lit {w : World} {g n c pn now delay : Nat} {wants : Bool} {A : Option Addr} {s : HS} (h : HAt w g A n c s) (ho : s.Ok) (s' : HS) (L : List (Nat × Nat)) (hc : cameS s pn = false) (hp : pn < topN) (hn : now ≤ topN)
    (hL : NeatL L) (hi : ∀ x, inB L x = (inB s.l x || decide (x = pn))) (he : addedS s pn wants now delay L = s') :
    Calls Try.prog 5 #[.pointer (some ⟨g, 0, none⟩), .int .u64 (pn : Int), .bool wants, .int .u64 (now : Int), .int .u64 (delay : Int)] w fun e w' => e = .returned (.bool true) ∧ w.grownBy w' (some g) ∧ ∃ A n c, HAt w' g A n c s' :=
  (hadd_new w g n c pn now delay wants A s h ho hc hp hn).mono fun e w' ⟨l, h1, h2, h3, h4⟩ => by
    obtain rfl : l = L := neat_unique h2.1 hL fun x => (h2.2.2 x).trans (hi x).symm
    rw [he] at h4
    exact ⟨h1, h3, h4⟩

def hs1 : HS := ⟨[(3, 4)], 0, 3, 100, 125, 1⟩
def hs2 : HS := ⟨[(3, 5)], 0, 4, 110, 110, 2⟩
theorem hs1_of : addedS HS.new 3 true 100 25 [(3, 4)] = hs1 := rfl
theorem hs2_of : addedS hs1 4 true 110 25 [(3, 5)] = hs2 := rfl
theorem neat_34 : NeatL [(3, 4)] := by unfold NeatL; decide
theorem neat_35 : NeatL [(3, 5)] := by unfold NeatL; decide
theorem in_34 : ∀ x, inB [(3, 4)] x = (inB HS.new.l x || decide (x = 3)) := fun x => by rw [show ((3 : Nat), (4 : Nat)) = (3, 3 + 1) from rfl, inB_pn]; rfl
theorem in_35 : ∀ x, inB [(3, 5)] x = (inB hs1.l x || decide (x = 4)) := fun x => by
  show inB [(3, 5)] x = (inB [(3, 4)] x || decide (x = 4))
  rw [inB_one, inB_one, Bool.eq_iff_iff]
  simp
  omega
theorem hs1_ok : hs1.Ok := ⟨neat_34, fun r hr => by simp [hs1] at hr; subst hr; decide, by decide, fun _ _ => Nat.zero_le _, by decide, by decide, by decide, by decide, by decide⟩
theorem hs2_ok : hs2.Ok := ⟨neat_35, fun r hr => by simp [hs2] at hr; subst hr; decide, by decide, fun _ _ => Nat.zero_le _, by decide, by decide, by decide, by decide, by decide⟩

/-- A new one. -/
theorem new_at (w : World) : HAt (w.alloc (.cells #[.slice none 0 0, .int .u64 0, .int .u64 0, .int .u64 0, .int .u64 0, .int .u64 0] 28)) w.heap.size none 0 0 HS.new :=
  ⟨Wh.new w _ _, RsIn.nil _ _ _, rfl, Nat.le_refl _, Nat.zero_le _⟩

/-- The calls of the examples, by their numbers. -/
theorem lit_add3 {w : World} {g n c : Nat} {A : Option Addr} (h : HAt w g A n c HS.new) :
    Calls Try.prog 5 #[.pointer (some ⟨g, 0, none⟩), .int .u64 3, .bool true, .int .u64 100, .int .u64 25] w fun e w' => e = .returned (.bool true) ∧ w.grownBy w' (some g) ∧ ∃ A n c, HAt w' g A n c hs1 :=
  hadd_lit h new_ok hs1 [(3, 4)] rfl (by decide) (by decide) neat_34 in_34 hs1_of
theorem lit_add4 {w : World} {g n c : Nat} {A : Option Addr} (h : HAt w g A n c hs1) :
    Calls Try.prog 5 #[.pointer (some ⟨g, 0, none⟩), .int .u64 4, .bool true, .int .u64 110, .int .u64 25] w fun e w' => e = .returned (.bool true) ∧ w.grownBy w' (some g) ∧ ∃ A n c, HAt w' g A n c hs2 :=
  hadd_lit h hs1_ok hs2 [(3, 5)] rfl (by decide) (by decide) neat_35 in_35 hs2_of
theorem lit_again1 {w : World} {g n c : Nat} {A : Option Addr} (h : HAt w g A n c hs1) (x y : Int) :
    Calls Try.prog 5 #[.pointer (some ⟨g, 0, none⟩), .int .u64 3, .bool true, .int .u64 x, .int .u64 y] w fun e w' => e = .returned (.bool false) ∧ Below w.heap.size w w' :=
  hadd_old w g n c 3 true x y A hs1 h hs1_ok rfl
theorem lit_again2 {w : World} {g n c : Nat} {A : Option Addr} (h : HAt w g A n c hs2) (x y : Int) :
    Calls Try.prog 5 #[.pointer (some ⟨g, 0, none⟩), .int .u64 3, .bool true, .int .u64 x, .int .u64 y] w fun e w' => e = .returned (.bool false) ∧ Below w.heap.size w w' :=
  hadd_old w g n c 3 true x y A hs2 h hs2_ok rfl
theorem lit_ready124 {w : World} {g n c : Nat} {A : Option Addr} (h : HAt w g A n c hs1) :
    Calls Try.prog 6 #[.pointer (some ⟨g, 0, none⟩), .int .u64 124] w fun e w' => e = .returned (.bool false) ∧ w = w' := ready_any w g n c 124 A hs1 h
theorem lit_ready125 {w : World} {g n c : Nat} {A : Option Addr} (h : HAt w g A n c hs1) :
    Calls Try.prog 6 #[.pointer (some ⟨g, 0, none⟩), .int .u64 125] w fun e w' => e = .returned (.bool true) ∧ w = w' := ready_any w g n c 125 A hs1 h
theorem lit_ready110 {w : World} {g n c : Nat} {A : Option Addr} (h : HAt w g A n c hs2) :
    Calls Try.prog 6 #[.pointer (some ⟨g, 0, none⟩), .int .u64 110] w fun e w' => e = .returned (.bool true) ∧ w = w' := ready_any w g n c 110 A hs2 h
theorem lit_ready0 {w : World} {g n c : Nat} {A : Option Addr} {s : HS} (h : HAt w g A n c s) (hd : s.du = 0) :
    Calls Try.prog 6 #[.pointer (some ⟨g, 0, none⟩), .int .u64 1000] w fun e w' => e = .returned (.bool false) ∧ w = w' :=
  (ready_any w g n c 1000 A s h).mono fun e w' ⟨h1, h2⟩ => ⟨by rw [h1]; unfold readyS; simp [hd], h2⟩
theorem lit_came3 {w : World} {g n c : Nat} {A : Option Addr} (h : HAt w g A n c hs1) :
    Calls Try.prog 10 #[.pointer (some ⟨g, 0, none⟩), .int .u64 3] w fun e w' => e = .returned (.bool true) ∧ Below w.heap.size w w' := came_any w g n c 3 A hs1 h hs1_ok
theorem lit_came4 {w : World} {g n c : Nat} {A : Option Addr} (h : HAt w g A n c hs1) :
    Calls Try.prog 10 #[.pointer (some ⟨g, 0, none⟩), .int .u64 4] w fun e w' => e = .returned (.bool false) ∧ Below w.heap.size w w' := came_any w g n c 4 A hs1 h hs1_ok

/-- An ACK of one range, in a box of its own. -/
def AckLit (g : Nat) (s : HS) (x : Nat × Nat) (d : Nat) (w : World) (e : Ending) (w' : World) : Prop :=
  ∃ b off c', e = .returned (.tuple #[.agg (aRowH 2 (.slice (some ⟨b, off, none⟩) 1 c') d), .bool true]) ∧ w.grownBy w' (some g) ∧ b < w'.heap.size ∧ w'.cell? ⟨b, off, none⟩ = some (.int .u64 (x.1 : Int)) ∧ w'.cell? ⟨b, off + 1, none⟩ = some (.int .u64 (x.2 : Int)) ∧ ∃ A n c, HAt w' g A n c { s with du := 0, co := 0 }
theorem lit_ack {w : World} {g n c : Nat} {A : Option Addr} {s : HS} (h : HAt w g A n c s) (x : Nat × Nat) (hx : s.l = [x]) :
    Calls Try.prog 7 #[.pointer (some ⟨g, 0, none⟩), .int .u64 150] w (AckLit g s x ((150 - min s.tm 150) / 8) w) := by
  obtain rfl : n = 1 := by rw [← h.len, hx]; rfl
  refine (ack_any w g 1 c 150 A s h (by omega) (by omega) (by decide)).mono ?_
  rintro e w' ⟨A', c', rfl, hr, hc, hm, hg, hh⟩
  rw [hx] at hr
  obtain ⟨b, off, rfl, _, hb, hcc⟩ := hr.at_ (by simp)
  have := hcc 0 x rfl
  rw [Nat.zero_mul, Nat.add_zero] at this
  obtain ⟨A2, c2, hh⟩ := hh
  exact ⟨b, off, c', rfl, hg, hb, this.1, this.2, A2, _, c2, hh⟩

set_option maxRecDepth 10000 in
set_option maxHeartbeats 2000000 in
theorem hworks_any (w : World) : Calls Try.prog 9 #[] w (Says true w) := by
  have hn := new_at w
  have hb0 := (Below.refl w.heap.size w).alloc (Nat.le_refl _) (.cells #[.slice none 0 0, .int .u64 0, .int .u64 0, .int .u64 0, .int .u64 0, .int .u64 0] 28)
  have hs0 : (w.alloc (.cells #[.slice none 0 0, .int .u64 0, .int .u64 0, .int .u64 0, .int .u64 0, .int .u64 0] 28)).heap.size = w.heap.size + 1 := by simp
  obtain ⟨g, hg⟩ : ∃ g, g = w.heap.size := ⟨_, rfl⟩
  have HG := Lib.hid hg
  have HN := Lib.hid hn
  have HB0 := Lib.hid hb0
  have HS0 := Lib.hid hs0
  clear hn hb0 hs0
  go_enter Try.func9, Try.ntmps9
  go_upto_region 2 with (fail)
  generalize w.alloc (.cells #[.slice none 0 0, .int .u64 0, .int .u64 0, .int .u64 0, .int .u64 0, .int .u64 0] 28) = w0 at *
  rw [← hg] at HN HS0
  rw [← hg]
  clear hg
  go_wp2_with fail
  refine (lit_add3 HN.out).mono ?_
  rintro e w1 ⟨rfl, hg1, A1, n1, c1, h1⟩
  have H1 := Lib.hid h1
  have HB1 : Hid (Below w.heap.size w w1) := Lib.hid (below_grownH HB0.out hg1 (by have := HG.out; omega) HB0.out.size)
  clear h1 hg1 HN HB0
  go_wp2_with fail
  refine (lit_again1 H1.out 100 25).mono ?_
  rintro e w2 ⟨rfl, hb2⟩
  have H2 := Lib.hid (H1.out.below hb2)
  have HB2 := Lib.hid (HB1.out.trans (hb2.mono HB1.out.size))
  clear hb2 H1 HB1
  go_wp2_with fail
  refine (lit_ready124 H2.out).mono ?_
  rintro e w3 ⟨rfl, rfl⟩
  go_wp2_with fail
  refine (lit_ready125 H2.out).mono ?_
  rintro e w3 ⟨rfl, rfl⟩
  go_wp2_with fail
  refine (lit_came3 H2.out).mono ?_
  rintro e w3 ⟨rfl, hb3⟩
  have H3 := Lib.hid (H2.out.below hb3)
  have HB3 := Lib.hid (HB2.out.trans (hb3.mono HB2.out.size))
  clear hb3 H2 HB2
  go_wp2_with fail
  refine (lit_came4 H3.out).mono ?_
  rintro e w4 ⟨rfl, hb4⟩
  have H4 := Lib.hid (H3.out.below hb4)
  have HB4 := Lib.hid (HB3.out.trans (hb4.mono HB3.out.size))
  clear hb4 H3 HB3
  go_wp2_with fail
  refine (lit_ack H4.out (3, 4) rfl).mono ?_
  rintro e w5 ⟨b, off, c', rfl, hg5, hb5, hc1, hc2, A5, n5, c5, h5⟩
  have H5 := Lib.hid h5
  have HB5 : Hid (Below w.heap.size w w5) := Lib.hid (below_grownH HB4.out hg5 (by have := HG.out; omega) HB4.out.size)
  have HC1 := Lib.hid hc1
  have HC2 := Lib.hid hc2
  clear h5 hg5 H4 HB4 hc1 hc2
  rw [show (150 - min hs1.tm 150) / 8 = 6 from rfl]
  go_upto_region 5 with (refine wpList_store_row rfl 36 (.tmp 2) (.tmp 34) rfl w5.heap.size (aRowH 2 (.slice (some ⟨b, off, none⟩) 1 c') 6) rfl rfl _ _ (heap_alloc_new w5 _) info_fr rfl (aRowH_one _ _ _ _ _) ?_; rw [World.setRow_alloc_new])
  have hw6 := Wh.new w5 36 (aRowH 2 (.slice (some ⟨b, off, none⟩) 1 c') 6)
  have hb6 := (Below.refl w5.heap.size w5).alloc (Nat.le_refl _) (.cells (aRowH 2 (.slice (some ⟨b, off, none⟩) 1 c') 6) 36)
  have H6 := Lib.hid (H5.out.below hb6)
  have hx1 := (hb6.cell (p := ⟨b, off, none⟩) hb5).trans HC1.out
  have hx2 := (hb6.cell (p := ⟨b, off + 1, none⟩) hb5).trans HC2.out
  have HB6 := Lib.hid (HB5.out.trans (hb6.mono HB5.out.size))
  have hy0 := (hw6.cell 0).trans (show _ = some (.int .u64 2) from rfl)
  have hy1 := (hw6.cell 25).trans (show _ = some (.slice (some ⟨b, off, none⟩) 1 c') from rfl)
  have hy2 := (hw6.cell 26).trans (show _ = some (.int .u64 6) from rfl)
  clear hw6 hb6 H5 HB5 HC1 HC2 hb5
  generalize w5.alloc (.cells (aRowH 2 (.slice (some ⟨b, off, none⟩) 1 c') 6) 36) = w6 at *
  generalize w5.heap.size = q at *
  go_wp2_with (go_at_call 6; refine (lit_ready0 H6.out rfl).mono ?_; rintro e w7 ⟨rfl, rfl⟩)
  go_ret
  exact ⟨rfl, HB6.out⟩

end Go.Proofs.Ytaemfoelhijbjaa
