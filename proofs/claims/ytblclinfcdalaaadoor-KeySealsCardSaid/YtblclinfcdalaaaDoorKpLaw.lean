/-
  The walk through the statement KeySeals.
-/
import Derived.Test.YtblclinfcdalaaaDoorKpRSeal
import Derived.Test.YtblclinfcdalaaaDoorSb50
namespace Go.Proofs.YtblclinfcdalaaaDoor
open Go.RowKit
set_option linter.unusedVariables false

/-- A packet, or none, and the error. -/
def GavePE (w : World) (l : List UInt8) (err : Int) (e : Ending) (w' : World) : Prop :=
  ∃ A' c', e = .returned (.tuple #[.slice A' l.length c', .int .i64 err]) ∧ Sl w' w'.heap.size A' l ∧ Below w.heap.size w w'
theorem gave_pe {w : World} {l : List UInt8} {e : Ending} {w' : World} (h : Gave w l (fun v => .tuple #[v, .int .i64 0]) e w') : GavePE w l 0 e w' := by
  obtain ⟨A, c, h1, h2, h3, h4, h5⟩ := h
  exact ⟨A, c, h1, Sv.of_own h4, h5⟩
theorem gave_pn {w : World} {err : Int} {e : Ending} {w' : World} (h : e = .returned (.tuple #[.slice none 0 0, .int .i64 err]) ∧ Below w.heap.size w w') : GavePE w [] err e w' :=
  ⟨none, 0, h.1, Sv.nil _ _ _, h.2⟩

/-- What the law's calls want of the world. -/
structure PK (w wr : World) (b h : Nat) (k : KS) (R : Array Value) (dst src tok pl : List UInt8) (A1 A2 A3 A : Option Addr) : Prop where
  bel : Below w.heap.size w wr
  kb : Wh wr b 29 (kyRow k)
  hh : Wh wr h 39 R
  s1 : Sl wr wr.heap.size A1 dst
  s2 : Sl wr wr.heap.size A2 src
  s3 : Sl wr wr.heap.size A3 tok
  s0 : Sl wr wr.heap.size A pl
  tab : Tab wr
theorem PK.since {w a c : World} {b h : Nat} {k : KS} {R : Array Value} {dst src tok pl : List UInt8} {A1 A2 A3 A : Option Addr} (p : PK w a b h k R dst src tok pl A1 A2 A3 A) (hb : Below a.heap.size a c) : PK w c b h k R dst src tok pl A1 A2 A3 A :=
  ⟨p.bel.trans (hb.mono p.bel.size), p.kb.below hb p.kb.lt, p.hh.below hb p.hh.lt, (Sv.below p.s1 hb).keep hb.size (fun _ _ => rfl), (Sv.below p.s2 hb).keep hb.size (fun _ _ => rfl), (Sv.below p.s3 hb).keep hb.size (fun _ _ => rfl), (Sv.below p.s0 hb).keep hb.size (fun _ _ => rfl), p.tab.below hb p.tab.lt⟩

set_option maxRecDepth 100000 in
set_option maxHeartbeats 3200000 in
theorem seals_run (k : KS) (sp pn : Nat) (dst src tok pl : List UInt8) (ph : Bool) (pnb : Int) (A1 : Option Addr) (c1 : Nat) (A2 : Option Addr) (c2 : Nat) (A3 : Option Addr) (c3 : Nat) (A : Option Addr) (c : Nat) (w : World) (L : List UInt8) (err : Int)
    (hk : k.Ok) (hK : Kt w) (hT : Tab w) (hs1 : Sl w w.heap.size A1 dst) (hs2 : Sl w w.heap.size A2 src) (hs3 : Sl w w.heap.size A3 tok) (hs : Sl w w.heap.size A pl)
    (hp : pl.length ≤ 300 ∨ 60000 < pl.length) (ht : tok.length ≤ 300) (hds : dst.length + src.length ≤ 300)
    (HS : Hid (∀ w' : World, Tab w' → Sl w' w'.heap.size A1 dst → Sl w' w'.heap.size A2 src → Sl w' w'.heap.size A3 tok → Sl w' w'.heap.size A pl → Calls Tryd.prog 15 #[.agg (kyRow k), .agg (headC sp A1 dst.length c1 A2 src.length c2 A3 tok.length c3 ph (pn : Int) pnb), .slice A pl.length c] w' (GavePE w' L err)))
    (HR : Hid (∀ w' : World, Sl w' w'.heap.size A1 dst → Sl w' w'.heap.size A2 src → Sl w' w'.heap.size A3 tok → Sl w' w'.heap.size A pl → Calls Tryd.prog 16 #[.agg (kyRow k), .agg (headC sp A1 dst.length c1 A2 src.length c2 A3 tok.length c3 ph (pn : Int) pnb), .slice A pl.length c] w' (GavePE w' L err))) :
    Calls Tryd.prog 4 #[.agg (kyRow k), .agg (headC sp A1 dst.length c1 A2 src.length c2 A3 tok.length c3 ph (pn : Int) pnb), .slice A pl.length c] w fun e w' => e = .returned (.bool true) ∧ Below w.heap.size w w' := by
  obtain ⟨hbe, h2, h3, hsz⟩ := made2K w (kyRow k) (headC sp A1 dst.length c1 A2 src.length c2 A3 tok.length c3 ph (pn : Int) pnb) 29 39
  have HKN := Lib.hid (kyknown_any _ (hK.since hbe))
  obtain ⟨b, hb⟩ : ∃ b, b = w.heap.size := ⟨_, rfl⟩
  rw [← hb] at h2 h3
  obtain ⟨h, hh⟩ : ∃ h, h = b + 1 := ⟨_, rfl⟩
  rw [← hh] at h3
  have hp0 : PK w _ b h k _ dst src tok pl A1 A2 A3 A := ⟨hbe, h2, h3, (Sv.below hs1 hbe).keep hbe.size (fun _ _ => rfl), (Sv.below hs2 hbe).keep hbe.size (fun _ _ => rfl), (Sv.below hs3 hbe).keep hbe.size (fun _ _ => rfl), (Sv.below hs hbe).keep hbe.size (fun _ _ => rfl), hT.below hbe hT.lt⟩
  have HIR := Lib.hid (info_headR sp A1 dst.length c1 A2 src.length c2 A3 tok.length c3 ph (pn : Int) pnb)
  have hr1 : (headC sp A1 dst.length c1 A2 src.length c2 A3 tok.length c3 ph (pn : Int) pnb)[1]? = some (.slice A1 dst.length c1) := rfl
  have hr2 : (headC sp A1 dst.length c1 A2 src.length c2 A3 tok.length c3 ph (pn : Int) pnb)[2]? = some (.slice A2 src.length c2) := rfl
  have hr3 : (headC sp A1 dst.length c1 A2 src.length c2 A3 tok.length c3 ph (pn : Int) pnb)[3]? = some (.slice A3 tok.length c3) := rfl
  have HK := Deep.mk hk
  have HP0 := Lib.hid hp0
  have t3 : decide ((300 : Int) < (tok.length : Int)) = false := decide_eq_false (by omega)
  have t4 : decide ((300 : Int) < (dst.length : Int) + (src.length : Int)) = false := decide_eq_false (by omega)
  have hdl : dst.length ≤ 300 := by omega
  have hsl : src.length ≤ 300 := by omega
  have hq : (∃ _ : decide ((300 : Int) < (pl.length : Int)) = false, True) ∨ (∃ _ : decide ((300 : Int) < (pl.length : Int)) = true, ∃ _ : decide ((pl.length : Int) ≤ 60000) = false, True) := by
    rcases hp with a | a
    · exact .inl ⟨decide_eq_false (by omega), trivial⟩
    · exact .inr ⟨decide_eq_true (by omega), decide_eq_false (by omega), trivial⟩
  generalize headC sp A1 dst.length c1 A2 src.length c2 A3 tok.length c3 ph (pn : Int) pnb = R at *
  have HR1 := Lib.hid hr1
  have HR2 := Lib.hid hr2
  have HR3 := Lib.hid hr3
  obtain ⟨S, hS⟩ : ∃ S, S = strB L := ⟨_, rfl⟩
  have HSL := Deep.mk hS
  clear hr1 hr2 hr3 hp0 hbe h2 h3 hsz hs1 hs2 hs3 hs hT hK hk hp hds ht hS
  rcases hq with ⟨t1, _⟩ | ⟨t1, t2, _⟩
  all_goals
    go_enter Tryd.func4, Tryd.ntmps4
    go_upto_region 1 with (fail)
    rw [← hb, ← hh]
    clear hb hh
    go_wp2_with fail
    refine HKN.out.mono ?_
    rintro e w1 ⟨rfl, hb1⟩
    have HP1 := Lib.hid (HP0.out.since hb1)
    have hc1 := (HP1.out.hh.cell 1).trans HR1.out
    have hc2 := (HP1.out.hh.cell 2).trans HR2.out
    have hc3 := (HP1.out.hh.cell 3).trans HR3.out
    clear hb1 HP0 HKN
    go_wp2_with (first
      | (refine wpList_load_row rfl 29 (.tmp 3) rfl b rfl _ (kyRow k) _ _ HP1.out.kb Tryd.underlying29 rfl (info_kyRow HK.out) ?_)
      | (refine wpList_load_row rfl 39 (.tmp 4) rfl h rfl _ R _ _ HP1.out.hh Tryd.underlying39 rfl HIR.out ?_))
    refine (HS.out w1 HP1.out.tab HP1.out.s1 HP1.out.s2 HP1.out.s3 HP1.out.s0).mono ?_
    rintro e w2 ⟨B2, d2, rfl, hB2, hb2⟩
    have HP2 := Lib.hid (HP1.out.since hb2)
    have HL2 := Lib.hid hB2
    clear hb2 hB2 HP1 hc1 hc2 hc3 HR1 HR2 HR3 t3 t4 t1 HS
    go_wp2_with (first
      | (refine wpList_load_row rfl 29 (.tmp 3) rfl b rfl _ (kyRow k) _ _ HP2.out.kb Tryd.underlying29 rfl (info_kyRow HK.out) ?_)
      | (refine wpList_load_row rfl 39 (.tmp 4) rfl h rfl _ R _ _ HP2.out.hh Tryd.underlying39 rfl HIR.out ?_))
    refine (HR.out w2 HP2.out.s1 HP2.out.s2 HP2.out.s3 HP2.out.s0).mono ?_
    rintro e w3 ⟨B3, d3, rfl, hB3, hb3⟩
    have HP3 := Lib.hid (HP2.out.bel.trans (hb3.mono HP2.out.bel.size))
    have hl2 := (Sv.below HL2.out hb3).keep hb3.size (fun _ _ => rfl)
    obtain ⟨n, hn⟩ : ∃ n, n = L.length := ⟨_, rfl⟩
    have hst2 := run_string_sl (P := Tryd.prog) w3 23 9 5 Tryd.underlying23 Tryd.underlying5 Tryd.underlying9 w3.heap.size B2 n d2 L hl2 hn.symm
    have hst3 := run_string_sl (P := Tryd.prog) w3 23 9 5 Tryd.underlying23 Tryd.underlying5 Tryd.underlying9 w3.heap.size B3 n d3 L hB3 hn.symm
    rw [← HSL.out] at hst2 hst3
    rw [← hn]
    clear hb3 hB3 hl2 HP2 HL2 HR hn HSL
    go_wp2
    go_ret
    exact ⟨rfl, HP3.out⟩

set_option maxRecDepth 100000 in
set_option maxHeartbeats 1600000 in
theorem seals_free (k : KS) (sp pn : Nat) (dst src tok pl : List UInt8) (ph : Bool) (pnb : Int) (A1 : Option Addr) (c1 : Nat) (A2 : Option Addr) (c2 : Nat) (A3 : Option Addr) (c3 : Nat) (A : Option Addr) (c : Nat) (w : World)
    (hK : Kt w) (hd : dst.length ≤ 140737488351232) (hs : src.length ≤ 140737488351232)
    (hf : (300 < pl.length ∧ pl.length ≤ 60000) ∨ 300 < tok.length ∨ 300 < dst.length + src.length) :
    Calls Tryd.prog 4 #[.agg (kyRow k), .agg (headC sp A1 dst.length c1 A2 src.length c2 A3 tok.length c3 ph (pn : Int) pnb), .slice A pl.length c] w fun e w' => e = .returned (.bool true) ∧ Below w.heap.size w w' := by
  obtain ⟨hbe, h2, h3, hsz⟩ := made2K w (kyRow k) (headC sp A1 dst.length c1 A2 src.length c2 A3 tok.length c3 ph (pn : Int) pnb) 29 39
  have HKN := Lib.hid (kyknown_any _ (hK.since hbe))
  obtain ⟨b, hb⟩ : ∃ b, b = w.heap.size := ⟨_, rfl⟩
  rw [← hb] at h2 h3
  obtain ⟨h, hh⟩ : ∃ h, h = b + 1 := ⟨_, rfl⟩
  rw [← hh] at h3
  have hr1 : (headC sp A1 dst.length c1 A2 src.length c2 A3 tok.length c3 ph (pn : Int) pnb)[1]? = some (.slice A1 dst.length c1) := rfl
  have hr2 : (headC sp A1 dst.length c1 A2 src.length c2 A3 tok.length c3 ph (pn : Int) pnb)[2]? = some (.slice A2 src.length c2) := rfl
  have hr3 : (headC sp A1 dst.length c1 A2 src.length c2 A3 tok.length c3 ph (pn : Int) pnb)[3]? = some (.slice A3 tok.length c3) := rfl
  have hq : (∃ _ : decide ((300 : Int) < (pl.length : Int)) = true, ∃ _ : decide ((pl.length : Int) ≤ 60000) = true, True)
      ∨ (∃ _ : decide ((300 : Int) < (pl.length : Int)) = false, ∃ _ : decide ((300 : Int) < (tok.length : Int)) = true, True)
      ∨ (∃ _ : decide ((300 : Int) < (pl.length : Int)) = false, ∃ _ : decide ((300 : Int) < (tok.length : Int)) = false, ∃ _ : decide ((300 : Int) < (dst.length : Int) + (src.length : Int)) = true, True)
      ∨ (∃ _ : decide ((300 : Int) < (pl.length : Int)) = true, ∃ _ : decide ((pl.length : Int) ≤ 60000) = false, ∃ _ : decide ((300 : Int) < (tok.length : Int)) = true, True)
      ∨ (∃ _ : decide ((300 : Int) < (pl.length : Int)) = true, ∃ _ : decide ((pl.length : Int) ≤ 60000) = false, ∃ _ : decide ((300 : Int) < (tok.length : Int)) = false, ∃ _ : decide ((300 : Int) < (dst.length : Int) + (src.length : Int)) = true, True) := by
    by_cases a1 : 300 < pl.length
    · by_cases a2 : pl.length ≤ 60000
      · exact .inl ⟨decide_eq_true (by omega), decide_eq_true (by omega), trivial⟩
      · by_cases a3 : 300 < tok.length
        · exact .inr (.inr (.inr (.inl ⟨decide_eq_true (by omega), decide_eq_false (by omega), decide_eq_true (by omega), trivial⟩)))
        · exact .inr (.inr (.inr (.inr ⟨decide_eq_true (by omega), decide_eq_false (by omega), decide_eq_false (by omega), decide_eq_true (by omega), trivial⟩)))
    · by_cases a3 : 300 < tok.length
      · exact .inr (.inl ⟨decide_eq_false (by omega), decide_eq_true (by omega), trivial⟩)
      · exact .inr (.inr (.inl ⟨decide_eq_false (by omega), decide_eq_false (by omega), decide_eq_true (by omega), trivial⟩))
  generalize headC sp A1 dst.length c1 A2 src.length c2 A3 tok.length c3 ph (pn : Int) pnb = R at *
  have HR1 := Lib.hid hr1
  have HR2 := Lib.hid hr2
  have HR3 := Lib.hid hr3
  have H3 := Lib.hid h3
  have HBE := Lib.hid hbe
  clear hr1 hr2 hr3 hbe h2 h3 hsz hK hf
  rcases hq with ⟨t1, t2, _⟩ | ⟨t1, t2, _⟩ | ⟨t1, t2, t3, _⟩ | ⟨t1, t2, t3, _⟩ | ⟨t1, t2, t3, t4, _⟩
  all_goals
    go_enter Tryd.func4, Tryd.ntmps4
    go_upto_region 1 with (fail)
    rw [← hb, ← hh]
    clear hb hh
    go_wp2_with fail
    refine HKN.out.mono ?_
    rintro e w1 ⟨rfl, hb1⟩
    have hH := H3.out.below hb1 H3.out.lt
    have hc1 := (hH.cell 1).trans HR1.out
    have hc2 := (hH.cell 2).trans HR2.out
    have hc3 := (hH.cell 3).trans HR3.out
    have HBF := Lib.hid (HBE.out.trans (hb1.mono HBE.out.size))
    clear hb1 HKN hH H3 HBE HR1 HR2 HR3
    go_wp2
    go_ret
    exact ⟨rfl, HBF.out⟩

theorem seals_any (k : KS) (sp pn : Nat) (dst src tok pl : List UInt8) (ph : Bool) (pnb : Int) (A1 : Option Addr) (c1 : Nat) (A2 : Option Addr) (c2 : Nat) (A3 : Option Addr) (c3 : Nat) (A : Option Addr) (c : Nat) (w : World)
    (hk : k.Ok) (hK : Kt w) (hT : Tab w) (hs1 : Sl w w.heap.size A1 dst) (hs2 : Sl w w.heap.size A2 src) (hs3 : Sl w w.heap.size A3 tok) (hs : Sl w w.heap.size A pl)
    (hd : dst.length ≤ 140737488351232) (hsr : src.length ≤ 140737488351232) (hp : pl.length ≤ 140737488351232) (hlc : pl.length ≤ c) (hcm : c ≤ maxLen) :
    Calls Tryd.prog 4 #[.agg (kyRow k), .agg (headC sp A1 dst.length c1 A2 src.length c2 A3 tok.length c3 ph (pn : Int) pnb), .slice A pl.length c] w fun e w' => e = .returned (.bool true) ∧ Below w.heap.size w w' := by
  by_cases hf : (300 < pl.length ∧ pl.length ≤ 60000) ∨ 300 < tok.length ∨ 300 < dst.length + src.length
  · exact seals_free k sp pn dst src tok pl ph pnb A1 c1 A2 c2 A3 c3 A c w hK hd hsr hf
  · have h1 : pl.length ≤ 300 ∨ 60000 < pl.length := by omega
    have h2 : tok.length ≤ 300 := by omega
    have h3 : dst.length + src.length ≤ 300 := by omega
    by_cases hm : mayB sp dst.length src.length tok.length ph (pn : Int) pnb = true ∧ 4 ≤ pnb + pl.length
    · obtain ⟨hm1, hm2⟩ := hm
      obtain ⟨f1, f2, f3, f4, f5, f6, f7, f8, f9⟩ := may_facts hm1
      by_cases hl : 60000 < pl.length
      · exact seals_run k sp pn dst src tok pl ph pnb A1 c1 A2 c2 A3 c3 A c w [] 3 hk hK hT hs1 hs2 hs3 hs h1 h2 h3
          (Lib.hid fun w' _ _ _ _ _ => (kseal_long k sp pn dst src tok pl ph pnb A1 c1 A2 c2 A3 c3 A c w' hp hm1 hl).mono fun _ _ h => gave_pn h)
          (Lib.hid fun w' _ _ _ _ => (rkseal_long k sp pn dst src tok pl ph pnb A1 c1 A2 c2 A3 c3 A c w' hp hm1 hl).mono fun _ _ h => gave_pn h)
      · obtain ⟨n, rfl⟩ : ∃ n : Nat, pnb = (n : Int) := ⟨pnb.toNat, by omega⟩
        exact seals_run k sp pn dst src tok pl ph (n : Int) A1 c1 A2 c2 A3 c3 A c w _ 0 hk hK hT hs1 hs2 hs3 hs h1 h2 h3
          (Lib.hid fun w' q1 q2 q3 q4 q5 => (kseal_in k sp n pn dst src tok pl ph A1 c1 A2 c2 A3 c3 A c w' hk hm1 (by omega) (by omega) hlc hcm (by omega) q1 q2 q3 q4 q5).mono fun _ _ h => gave_pe h)
          (Lib.hid fun w' q2 q3 q4 q5 => (rkseal_in k sp n pn dst src tok pl ph A1 c1 A2 c2 A3 c3 A c w' hk hm1 (by omega) (by omega) hlc hcm (by omega) q2 q3 q4 q5).mono fun _ _ h => gave_pe h)
    · exact seals_run k sp pn dst src tok pl ph pnb A1 c1 A2 c2 A3 c3 A c w [] 2 hk hK hT hs1 hs2 hs3 hs h1 h2 h3
        (Lib.hid fun w' _ _ _ _ _ => (kseal_bad k sp pn dst src tok pl ph pnb A1 c1 A2 c2 A3 c3 A c w' hp hm).mono fun _ _ h => gave_pn h)
        (Lib.hid fun w' _ _ _ _ => (rkseal_bad k sp pn dst src tok pl ph pnb A1 c1 A2 c2 A3 c3 A c w' hp hm).mono fun _ _ h => gave_pn h)
end Go.Proofs.YtblclinfcdalaaaDoor
