/-
  The walks through head's reader's long and short.
-/
import Derived.Test.YtbnnjkjmadnjkaaDoorHRead3
import Derived.RegionTactic
import Derived.BigRegion
import Derived.Deep.RegionWith
namespace Go.Proofs.YtbnnjkjmadnjkaaDoor
open Go.RowKit
set_option linter.unusedVariables false

/-- The reader, and a packet's block that is new since w0. -/
structure LS (w0 w : World) (B rb pb : Nat) (l : List UInt8) (A : Option Addr) (len c at_ : Nat) (bad : Bool) (s : Option Nat) (cs : Array Value) : Prop where
  rd : Rd w B rb l A len c at_ bad s
  pt : Wh w pb 37 cs
  gr : w0.grownBy w (some rb)
  lt : rb < w0.heap.size
  ge : w0.heap.size ≤ pb

theorem LS.call {w0 w w' : World} {B rb pb : Nat} {l : List UInt8} {A : Option Addr} {len c at_ at' : Nat} {bad bad' : Bool} {s s' : Option Nat} {cs : Array Value} (h : LS w0 w B rb pb l A len c at_ bad s cs)
    (hr : Rd w' B rb l A len c at' bad' s') (hg : w.grownBy w' (some rb)) : LS w0 w' B rb pb l A len c at' bad' s' cs :=
  ⟨hr, h.pt.grown hg (by have := h.lt; have := h.ge; simp; omega), grown_trans h.gr hg, h.lt, h.ge⟩

theorem LS.put {w0 w : World} {B rb pb : Nat} {l : List UInt8} {A : Option Addr} {len c at_ : Nat} {bad : Bool} {s : Option Nat} {cs : Array Value} (h : LS w0 w B rb pb l A len c at_ bad s cs) (i : Nat) (v : Value) :
    LS w0 (w.setCell ⟨pb, i, none⟩ v) B rb pb l A len c at_ bad s (cs.setIfInBounds i v) := by
  have h1 := h.lt
  have h2 := h.ge
  have h3 := h.rd.hB
  exact ⟨h.rd.grown (row := some pb) (grown_set _ _ _ _) (by simp; omega) (fun g hg => by obtain rfl := Option.some.inj hg; omega), h.pt.put i v, grown_far h.gr h2 i v, h1, h2⟩

theorem LS.drew {w0 w : World} {B rb pb : Nat} {l : List UInt8} {A : Option Addr} {len c at_ : Nat} {bad : Bool} {s : Option Nat} {cs : Array Value} (h : LS w0 w B rb pb l A len c at_ bad s cs) : LS w0 w.drew B rb pb l A len c at_ bad s cs :=
  h.call (h.rd.below (Below.refl _ _).drew) (grown_below (Below.refl _ _).drew)

theorem Sy.drew {w : World} {lo : Nat} {A : Option Addr} {xs : List Value} (h : Sy w lo A xs) : Sy w.drew lo A xs := h.below (Below.refl _ _).drew

theorem Sy.put {w : World} {lo : Nat} {A : Option Addr} {xs : List Value} (h : Sy w lo A xs) {g : Nat} (hg : g < lo) (i : Nat) (v : Value) : Sy (w.setCell ⟨g, i, none⟩ v) lo A xs :=
  h.grown (grown_set w g i v) (fun k hk => by obtain rfl := Option.some.inj hk; exact hg)

/-- A packet, without the bytes and the place. -/
def partC (sp : Nat) (A1 : Option Addr) (n1 c1 : Nat) (A2 : Option Addr) (n2 c2 : Nat) (A3 : Option Addr) (n3 c3 at_ : Nat) (A4 : Option Addr) (n4 c4 : Nat) : Array Value :=
  #[.int .u8 (sp : Int), .slice A1 n1 c1, .slice A2 n2 c2, .slice A3 n3 c3, .int .i64 (at_ : Int), .slice A4 n4 c4]

/-- What long and short tell. -/
structure PL where
  sp : Nat
  dst : List UInt8
  src : List UInt8
  tok : List UInt8

def GaveL (w : World) (B rb : Nat) (l : List UInt8) (A : Option Addr) (len c : Nat) (p : PL) (n : Nat) (s' : Option Nat) (e : Ending) (w' : World) : Prop :=
  ∃ A1 c1 A2 c2 A3 c3 at' bad', e = .returned (.tuple #[.agg (partC p.sp A1 p.dst.length c1 A2 p.src.length c2 A3 p.tok.length c3 0 none 0 0), .int .u64 (n : Int)]) ∧
    Sy w' w.heap.size A1 (p.dst.map cell8) ∧ Sy w' w.heap.size A2 (p.src.map cell8) ∧ Sy w' w.heap.size A3 (p.tok.map cell8) ∧ Rd w' B rb l A len c at' bad' s' ∧ w.grownBy w' (some rb)

/-- The version is 0 0 0 1. -/
def verB (v : List UInt8) : Bool := (strB v).toList == [0, 0, 0, 1]

def longD (l : List UInt8) (x : UInt8) (s : Option Nat) : List UInt8 × Option Nat := idS l (needS (hTakeS l (spS x s).2 4).2 (verB (hTakeS l (spS x s).2 4).1))
def longR (l : List UInt8) (x : UInt8) (s : Option Nat) : List UInt8 × Option Nat := idS l (longD l x s).2
def longT (l : List UInt8) (x : UInt8) (s : Option Nat) : List UInt8 × Option Nat :=
  if (spS x s).1 = 0 then hTakeS l (numS l (longR l x s).2).2 (numS l (longR l x s).2).1 else ([], (longR l x s).2)
def longN (l : List UInt8) (x : UInt8) (s : Option Nat) : Nat × Option Nat := numS l (longT l x s).2

theorem LS.cells {w0 w : World} {B rb pb : Nat} {l : List UInt8} {A : Option Addr} {len c at_ : Nat} {bad : Bool} {s : Option Nat} {sp : Nat} {A1 A2 A3 A4 : Option Addr} {n1 c1 n2 c2 n3 c3 n4 c4 a : Nat}
    (h : LS w0 w B rb pb l A len c at_ bad s (partC sp A1 n1 c1 A2 n2 c2 A3 n3 c3 a A4 n4 c4)) :
    w.cell? ⟨pb, 0, none⟩ = some (.int .u8 (sp : Int)) ∧ w.cell? ⟨pb, 1, none⟩ = some (.slice A1 n1 c1) ∧ w.cell? ⟨pb, 2, none⟩ = some (.slice A2 n2 c2) ∧ w.cell? ⟨pb, 3, none⟩ = some (.slice A3 n3 c3) ∧
    w.cell? ⟨pb, 4, none⟩ = some (.int .i64 (a : Int)) ∧ w.cell? ⟨pb, 5, none⟩ = some (.slice A4 n4 c4) := ⟨h.pt.cell 0, h.pt.cell 1, h.pt.cell 2, h.pt.cell 3, h.pt.cell 4, h.pt.cell 5⟩

theorem takeS_le (l : List UInt8) (s : Option Nat) (n : Nat) : (hTakeS l s n).1.length ≤ l.length := by
  unfold hTakeS
  split
  · simp
  · split
    · rw [List.length_take, List.length_drop]; omega
    · simp

theorem LS.put6 {w0 w : World} {B rb pb : Nat} {l : List UInt8} {A : Option Addr} {len c at_ : Nat} {bad : Bool} {s : Option Nat} {sp sp' : Nat} {A1 A2 A3 A4 A1' A2' A3' A4' : Option Addr} {n1 c1 n2 c2 n3 c3 n4 c4 a n1' c1' n2' c2' n3' c3' n4' c4' a' : Nat}
    (h : LS w0 w B rb pb l A len c at_ bad s (partC sp A1 n1 c1 A2 n2 c2 A3 n3 c3 a A4 n4 c4)) :
    LS w0 ((((((w.setCell ⟨pb, 0, none⟩ (.int .u8 (sp' : Int))).setCell ⟨pb, 1, none⟩ (.slice A1' n1' c1')).setCell ⟨pb, 2, none⟩ (.slice A2' n2' c2')).setCell ⟨pb, 3, none⟩ (.slice A3' n3' c3')).setCell ⟨pb, 4, none⟩ (.int .i64 (a' : Int))).setCell ⟨pb, 5, none⟩ (.slice A4' n4' c4'))
      B rb pb l A len c at_ bad s (partC sp' A1' n1' c1' A2' n2' c2' A3' n3' c3' a' A4' n4' c4') := (((((h.put 0 _).put 1 _).put 2 _).put 3 _).put 4 _).put 5 _

theorem Sy.put6 {w : World} {lo : Nat} {A : Option Addr} {xs : List Value} (h : Sy w lo A xs) {g : Nat} (hg : g < lo) (v0 v1 v2 v3 v4 v5 : Value) :
    Sy ((((((w.setCell ⟨g, 0, none⟩ v0).setCell ⟨g, 1, none⟩ v1).setCell ⟨g, 2, none⟩ v2).setCell ⟨g, 3, none⟩ v3).setCell ⟨g, 4, none⟩ v4).setCell ⟨g, 5, none⟩ v5) lo A xs :=
  (((((h.put hg 0 _).put hg 1 _).put hg 2 _).put hg 3 _).put hg 4 _).put hg 5 _

theorem results_ct {P : Program} {fn : Func} {a b : Tmp} {ta : TypeId} (h : fn.results = #[.cell a ta, .tmp b]) (tmps : Array Value) (w : World) (pa : Addr) (va : Value)
    (ha : tmps.getD a undef = .pointer (some pa)) (la : (loadVar ta pa).run P w = .ok va w) : (results fn tmps).run P w = .ok (.tuple #[va, tmps.getD b undef]) w := by
  have ha' : tmps[a]?.getD undef = .pointer (some pa) := by simpa using ha
  simp [results, h, ha', asAddr, la]

theorem info_part : (Tryd.prog.info? 37).map (·.size) = some 6 := by kernel_rfl

set_option maxRecDepth 100000 in
theorem load_part {w : World} {g : Nat} {cs : Array Value} (h : Wh w g 37 cs) (hs : cs.size = 6) : (loadVar 37 ⟨g, 0, none⟩).run Tryd.prog w = .ok (.agg cs) w :=
  run_loadVar_row w g _ _ cs (0, 0) _ h Tryd.underlying37 rfl (by rw [hs]; exact info_part)

set_option maxRecDepth 10000 in
set_option maxHeartbeats 1600000 in
theorem long_any (x : UInt8) {w : World} {B rb : Nat} {l : List UInt8} {A : Option Addr} {len c at_ : Nat} {bad : Bool} {s : Option Nat} (h : Rd w B rb l A len c at_ bad s) (hlen : len ≤ 1048576) :
    Calls Tryd.prog 46 #[.pointer (some ⟨rb, 0, none⟩), .int .u8 (x.toNat : Int)] w
      (GaveL w B rb l A len c ⟨(spS x s).1, (longD l x s).1, (longR l x s).1, (longT l x s).1⟩ (longN l x s).1 (longN l x s).2) := by
  have hlt := h.wh.lt
  have hL0 : LS w (w.alloc (.cells (partC 0 none 0 0 none 0 0 none 0 0 0 none 0 0) 37)) B rb w.heap.size l A len c at_ bad s (partC 0 none 0 0 none 0 0 none 0 0 0 none 0 0) :=
    ⟨h.below ((Below.refl _ _).alloc (Nat.le_refl _) _), Wh.new _ _ _, grown_alloc (World.grownBy.refl _ _) _, hlt, Nat.le_refl _⟩
  have HL0 := Lib.hid hL0
  clear h hL0
  go_enter Tryd.func46, Tryd.ntmps46
  go_wp2_with fail
  refine (space_any x HL0.out.rd).mono ?_
  rintro e w1 ⟨at1, bad1, rfl, hr1, hg1⟩
  have hl1 := HL0.out.call hr1 hg1
  have hc := hl1.cells.1
  have hz := hl1.pt.frozen 0
  have HL2 := Lib.hid (hl1.put 0 (.int .u8 ((spS x s).1 : Int)))
  clear hl1 hr1 hg1 HL0
  go_wp2_with fail
  generalize w1.setCell ⟨w.heap.size, 0, none⟩ (.int .u8 ((spS x s).1 : Int)) = w2 at *
  clear hc hz
  refine (take_any' 4 HL2.out.rd).mono ?_
  rintro e w3 ⟨A3, c3, at3, bad3, rfl, hc3, hm3, hs3, hr3, hg3⟩
  have HL3 := Lib.hid (HL2.out.call hr3 hg3)
  have hstr := run_string_sl (P := Tryd.prog) w3 28 9 5 Tryd.underlying28 Tryd.underlying5 Tryd.underlying9 _ A3 _ c3 _ hs3.sv rfl
  clear hr3 hg3 HL2
  go_wp2_with fail
  refine (need_any (verB (hTakeS l (spS x s).2 4).1) HL3.out.rd).mono ?_
  rintro e w4 ⟨rfl, hr4, hg4⟩
  have HL4 := Lib.hid (HL3.out.call hr4 hg4)
  clear hstr hs3 hr4 hg4 HL3
  go_wp2_with fail
  have HI4 : Hid (Calls Tryd.prog 68 #[.pointer (some ⟨rb, 0, none⟩)] w4 (GaveI w4 B rb l A len c (longD l x s).1 (longD l x s).2)) := id_any HL4.out.rd (by omega)
  refine HI4.out.mono ?_
  rintro e w5 ⟨A5, c5, at5, bad5, rfl, hc5, hm5, hs5, hr5, hg5⟩
  have hge4 := HL4.out.gr.size
  have hp4 := HL4.out.pt.lt
  have hl5 := HL4.out.call hr5 hg5
  have hc := hl5.cells.2.1
  have hz := hl5.pt.frozen 1
  have HS5 := Lib.hid (hs5.put hp4 1 (.slice A5 (longD l x s).1.length c5))
  have HL6 := Lib.hid (hl5.put 1 (.slice A5 (longD l x s).1.length c5))
  clear hl5 hr5 hg5 hs5 HL4 HI4
  go_wp2_with fail
  change Calls _ _ _ (w5.setCell ⟨w.heap.size, 1, none⟩ (.slice A5 (longD l x s).1.length c5)) _
  generalize w5.setCell ⟨w.heap.size, 1, none⟩ (.slice A5 (longD l x s).1.length c5) = w6 at *
  clear hc hz
  have HI6 : Hid (Calls Tryd.prog 68 #[.pointer (some ⟨rb, 0, none⟩)] w6 (GaveI w6 B rb l A len c (longR l x s).1 (longR l x s).2)) := id_any HL6.out.rd (by omega)
  refine HI6.out.mono ?_
  rintro e w7 ⟨A7, c7, at7, bad7, rfl, hc7, hm7, hs7, hr7, hg7⟩
  have hp6 := HL6.out.pt.lt
  have hge6 := HL6.out.gr.size
  have hl7 := HL6.out.call hr7 hg7
  have hc := hl7.cells.2.2.1
  have hz := hl7.pt.frozen 2
  have HS7 := Lib.hid (hs7.put hp6 2 (.slice A7 (longR l x s).1.length c7))
  have HSA := Lib.hid ((HS5.out.grown hg7 (fun k hk => by obtain rfl := Option.some.inj hk; omega)).put hp4 2 (.slice A7 (longR l x s).1.length c7))
  have HL8 := Lib.hid (hl7.put 2 (.slice A7 (longR l x s).1.length c7))
  have hc0 := HL8.out.cells.1
  clear hl7 hr7 hg7 hs7 HL6 HS5 HI6
  by_cases hsp : (spS x s).1 = 0
  · have t0 : (((spS x s).1 : Int) == 0) = true := by rw [hsp]; rfl
    have HT : Hid (longT l x s = hTakeS l (numS l (longR l x s).2).2 (numS l (longR l x s).2).1) := if_pos hsp
    clear hsp
    go_wp2_with fail
    change Calls _ _ _ (w7.setCell ⟨w.heap.size, 2, none⟩ (.slice A7 (longR l x s).1.length c7)) _
    generalize w7.setCell ⟨w.heap.size, 2, none⟩ (.slice A7 (longR l x s).1.length c7) = w8 at *
    clear hc hz hc0 t0
    have HN8 := Lib.hid (number_any HL8.out.rd)
    refine HN8.out.mono ?_
    rintro e w9 ⟨at9, bad9, rfl, hr9, hg9⟩
    have HL9 := Lib.hid (HL8.out.call hr9 hg9)
    have HSA9 := Lib.hid (HSA.out.grown hg9 (fun k hk => by obtain rfl := Option.some.inj hk; omega))
    have HSB9 := Lib.hid (HS7.out.grown hg9 (fun k hk => by obtain rfl := Option.some.inj hk; omega))
    clear hr9 hg9 HL8 HN8 HSA HS7
    go_wp2_with fail
    have HTK := Lib.hid (take_any' (numS l (longR l x s).2).1 HL9.out.rd)
    refine HTK.out.mono ?_
    rintro e wa ⟨Aa, ca, ata, bada, rfl, hca, hma, hsa, hra, hga⟩
    have HLa := Lib.hid (HL9.out.call hra hga)
    have HSAa := Lib.hid (HSA9.out.grown hga (fun k hk => by obtain rfl := Option.some.inj hk; omega))
    have HSBa := Lib.hid (HSB9.out.grown hga (fun k hk => by obtain rfl := Option.some.inj hk; omega))
    have HC := Lib.hid (clone_any Aa _ ca _ wa _ rfl hsa.sv (Nat.le_refl _) (by have h1 := takeS_le l (numS l (longR l x s).2).2 (numS l (longR l x s).2).1; have h2 := hra.hl; omega))
    clear hsa hra hga HL9 HTK HSA9 HSB9
    go_wp2_with fail
    refine HC.out.mono ?_
    rintro e wb ⟨Ab, cb, rfl, hcb, hmb, hown, hbb⟩
    have hpa := HLa.out.pt.lt
    have hlb := HLa.out.call (HLa.out.rd.below hbb) (grown_below hbb)
    have hc := hlb.cells.2.2.2.1
    have hz := hlb.pt.frozen 3
    rw [← HT.out] at hown hcb ⊢
    have HSC := Lib.hid ((Sy.of_own hown (Nat.le_refl _)).put hpa 3 (.slice Ab (longT l x s).1.length cb))
    have HSAb := Lib.hid ((HSAa.out.below hbb).put hp4 3 (.slice Ab (longT l x s).1.length cb))
    have HSBb := Lib.hid ((HSBa.out.below hbb).put hp6 3 (.slice Ab (longT l x s).1.length cb))
    have HLb := Lib.hid (hlb.put 3 (.slice Ab (longT l x s).1.length cb))
    clear hlb hown hbb HLa HSAa HSBa HC
    rw [← HT.out] at HLb
    go_wp2_with fail
    change Code.wp _ _ _ _ (wb.setCell ⟨w.heap.size, 3, none⟩ (.slice Ab (longT l x s).1.length cb))
    generalize wb.setCell ⟨w.heap.size, 3, none⟩ (.slice Ab (longT l x s).1.length cb) = wc at *
    clear hc hz
    obtain ⟨e0, e1, e2, e3, e4, e5⟩ := HLb.out.cells
    have HN := Lib.hid (number_any HLb.out.drew.rd)
    go_region_with (go_at_call 69; refine HN.out.mono ?_; rintro e wd ⟨atd, badd, rfl, hrd, hgd⟩; have HLd := Lib.hid (HLb.out.drew.call hrd hgd); have HGD := Lib.hid hgd; clear e0 e1 e2 e3 e4 e5 hrd hgd; obtain ⟨e0, e1, e2, e3, e4, e5⟩ := HLd.out.cells; have f0 := HLd.out.pt.frozen 0; have f1 := HLd.out.pt.frozen 1; have f2 := HLd.out.pt.frozen 2; have f3 := HLd.out.pt.frozen 3; have f4 := HLd.out.pt.frozen 4; have f5 := HLd.out.pt.frozen 5)
    all_goals
      go_wp2
      have hpw : w.heap.size < w4.heap.size := hp4
      have hrbd : ∀ k : Nat, some rb = some k → k < w4.heap.size := fun k hk => by obtain rfl := Option.some.inj hk; omega
      have hrbd6 : ∀ k : Nat, some rb = some k → k < w6.heap.size := fun k hk => by obtain rfl := Option.some.inj hk; omega
      have hrbda : ∀ k : Nat, some rb = some k → k < wa.heap.size := fun k hk => by obtain rfl := Option.some.inj hk; omega
      have HLe := Lib.hid (HLd.out.put6 (sp' := (spS x s).1) (A1' := A5) (n1' := (longD l x s).1.length) (c1' := c5) (A2' := A7) (n2' := (longR l x s).1.length) (c2' := c7) (A3' := Ab) (n3' := (longT l x s).1.length) (c3' := cb) (a' := 0) (A4' := none) (n4' := 0) (c4' := 0))
      refine bodyPost_ret (results_ct Tryd.results46 _ _ ⟨w.heap.size, 0, none⟩ _ rfl (load_part HLe.out.pt rfl)) rfl ?_
      exact ⟨A5, c5, A7, c7, Ab, cb, atd, badd, rfl, ((HSAb.out.drew.grown HGD.out hrbd).put6 hp4 _ _ _ _ _ _).mono (by omega), ((HSBb.out.drew.grown HGD.out hrbd6).put6 hp6 _ _ _ _ _ _).mono (by omega), ((HSC.out.drew.grown HGD.out hrbda).put6 hpa _ _ _ _ _ _).mono (by omega), HLe.out.rd, HLe.out.gr⟩
  · have t0 : (((spS x s).1 : Int) == 0) = false := by rw [beq_eq_false_iff_ne]; omega
    have HT1 : Hid ((longT l x s).1 = []) := by show _ = _; unfold longT; rw [if_neg hsp]
    have HT2 : Hid (longN l x s = numS l (longR l x s).2) := by show _ = _; unfold longN longT; rw [if_neg hsp]
    clear hsp
    go_wp2_with fail
    change Code.wp _ _ _ _ (w7.setCell ⟨w.heap.size, 2, none⟩ (.slice A7 (longR l x s).1.length c7))
    generalize w7.setCell ⟨w.heap.size, 2, none⟩ (.slice A7 (longR l x s).1.length c7) = w8 at *
    clear hc hz hc0 t0
    obtain ⟨e0, e1, e2, e3, e4, e5⟩ := HL8.out.cells
    have HN := Lib.hid (number_any HL8.out.drew.rd)
    rw [← HT2.out] at HN
    go_region_with (go_at_call 69; refine HN.out.mono ?_; rintro e wd ⟨atd, badd, rfl, hrd, hgd⟩; have HLd := Lib.hid (HL8.out.drew.call hrd hgd); have HGD := Lib.hid hgd; clear e0 e1 e2 e3 e4 e5 hrd hgd; obtain ⟨e0, e1, e2, e3, e4, e5⟩ := HLd.out.cells; have f0 := HLd.out.pt.frozen 0; have f1 := HLd.out.pt.frozen 1; have f2 := HLd.out.pt.frozen 2; have f3 := HLd.out.pt.frozen 3; have f4 := HLd.out.pt.frozen 4; have f5 := HLd.out.pt.frozen 5)
    all_goals
      go_wp2
      have hrbd : ∀ k : Nat, some rb = some k → k < w4.heap.size := fun k hk => by obtain rfl := Option.some.inj hk; omega
      have hrbd6 : ∀ k : Nat, some rb = some k → k < w6.heap.size := fun k hk => by obtain rfl := Option.some.inj hk; omega
      have HLe := Lib.hid (HLd.out.put6 (sp' := (spS x s).1) (A1' := A5) (n1' := (longD l x s).1.length) (c1' := c5) (A2' := A7) (n2' := (longR l x s).1.length) (c2' := c7) (A3' := none) (n3' := 0) (c3' := 0) (a' := 0) (A4' := none) (n4' := 0) (c4' := 0))
      refine bodyPost_ret (results_ct Tryd.results46 _ _ ⟨w.heap.size, 0, none⟩ _ rfl (load_part HLe.out.pt rfl)) rfl ?_
      refine ⟨A5, c5, A7, c7, none, 0, atd, badd, by rw [HT1.out]; rfl, ((HSA.out.drew.grown HGD.out hrbd).put6 hp4 _ _ _ _ _ _).mono (by omega), ((HS7.out.drew.grown HGD.out hrbd6).put6 hp6 _ _ _ _ _ _).mono (by omega), ?_, HLe.out.rd, HLe.out.gr⟩
      show Sy _ _ _ ((longT l x s).1.map cell8)
      rw [HT1.out]
      exact Sy.nil _ _ _

/-- What short tells: its bytes' list, and how many bytes are left. -/
def shortD (l : List UInt8) (own : Int) (s : Option Nat) : List UInt8 × Option Nat := hTakeS l (needS s (decide (0 ≤ own) && decide (own ≤ 20))) own.toNat

def GaveSh (w : World) (B rb : Nat) (l : List UInt8) (A : Option Addr) (len c : Nat) (d : List UInt8) (s' : Option Nat) (e : Ending) (w' : World) : Prop :=
  ∃ n : Nat, n ≤ 1048576 ∧ (∀ a, s' = some a → n = l.length - a) ∧ GaveL w B rb l A len c ⟨2, d, [], []⟩ n s' e w'

set_option maxRecDepth 10000 in
set_option maxHeartbeats 1600000 in
theorem short_any (own : Int) (h64 : -9223372036854775808 ≤ own ∧ own ≤ 9223372036854775807) {w : World} {B rb : Nat} {l : List UInt8} {A : Option Addr} {len c at_ : Nat} {bad : Bool} {s : Option Nat} (h : Rd w B rb l A len c at_ bad s) (hlen : len ≤ 1048576) :
    Calls Tryd.prog 47 #[.pointer (some ⟨rb, 0, none⟩), .int .i64 own] w (GaveSh w B rb l A len c (shortD l own s).1 (shortD l own s).2) := by
  have hlt := h.wh.lt
  have hL0 : LS w (w.alloc (.cells (partC 0 none 0 0 none 0 0 none 0 0 0 none 0 0) 37)) B rb w.heap.size l A len c at_ bad s (partC 0 none 0 0 none 0 0 none 0 0 0 none 0 0) :=
    ⟨h.below ((Below.refl _ _).alloc (Nat.le_refl _) _), Wh.new _ _ _, grown_alloc (World.grownBy.refl _ _) _, hlt, Nat.le_refl _⟩
  have HL0 := Lib.hid hL0
  clear h hL0
  obtain ⟨m, b, HM, HB, HD⟩ : ∃ (m : Nat) (b : Bool), Hid (IntKind.u64.wrap own = (m : Int)) ∧ Hid (b = (decide (0 ≤ own) && decide (own ≤ 20))) ∧ Hid (shortD l own s = hTakeS l (needS s b) m) := by
    refine ⟨(IntKind.u64.wrap own).toNat, _, ?_, Lib.hid rfl, ?_⟩
    · show _ = _
      simp [IntKind.wrap, IntKind.signed, IntKind.bits]
      omega
    · show _ = _
      unfold shortD
      by_cases h1 : 0 ≤ own
      · have : (IntKind.u64.wrap own) = own := IntWalk.u64_in _ ⟨by omega, by omega⟩
        rw [this]
      · simp [h1, needS, hTakeS]
  have hql : (shortD l own s).1.length ≤ l.length := takeS_le _ _ _
  generalize shortD l own s = q at *
  obtain ⟨d, s'⟩ := q
  simp only at hql ⊢
  have hcase : (0 ≤ own ∧ own ≤ 20 ∧ b = true) ∨ (own < 0 ∧ b = false) ∨ (20 < own ∧ b = false) := by
    have := HB.out
    by_cases h1 : 0 ≤ own <;> by_cases h2 : own ≤ 20 <;> simp_all <;> omega
  have HW := HM
  have hdec : b = false → 20 < own → decide (own ≤ 20) = false := fun _ h => decide_eq_false (by omega)
  rcases hcase with ⟨h1, h2, rfl⟩ | ⟨h1, rfl⟩ | ⟨h1, rfl⟩
  rotate_left 2
  have hdec2 := hdec rfl h1
  rotate_left 1
  all_goals
    have hconv := HM.out
    clear HB h64 hdec
    go_enter Tryd.func47, Tryd.ntmps47
    go_wp2_with fail
    refine (need_any _ HL0.out.rd).mono ?_
    rintro e w1 ⟨rfl, hr1, hg1⟩
    have hl1 := HL0.out.call hr1 hg1
    have hc := hl1.cells.1
    have hz := hl1.pt.frozen 0
    have HL2 := Lib.hid (hl1.put 0 (.int .u8 2))
    clear hl1 hr1 hg1 HL0
    go_wp2_with fail
    generalize w1.setCell ⟨w.heap.size, 0, none⟩ (.int .u8 2) = w2 at *
    clear hc hz
    have HTK := Lib.hid (take_any' m HL2.out.rd)
    rw [← HD.out] at HTK
    refine HTK.out.mono ?_
    rintro e wa ⟨Aa, ca, ata, bada, rfl, hca, hma, hsa, hra, hga⟩
    have HLa := Lib.hid (HL2.out.call hra hga)
    have HC := Lib.hid (clone_any Aa _ ca _ wa _ rfl hsa.sv (Nat.le_refl _) (by have h2 := hra.hl; have h3 : (d, s').1.length ≤ l.length := hql; omega))
    clear hsa hra hga HL2 HTK
    go_wp2_with fail
    refine HC.out.mono ?_
    rintro e wb ⟨Ab, cb, rfl, hcb, hmb, hown, hbb⟩
    have hpa := HLa.out.pt.lt
    have hlb := HLa.out.call (HLa.out.rd.below hbb) (grown_below hbb)
    have hc := hlb.cells.2.1
    have hz := hlb.pt.frozen 1
    have HSC := Lib.hid ((Sy.of_own hown (Nat.le_refl _)).put hpa 1 (.slice Ab d.length cb))
    have HLb := Lib.hid (hlb.put 1 (.slice Ab d.length cb))
    clear hlb hown hbb HLa HC
    go_wp2_with fail
    generalize wb.setCell ⟨w.heap.size, 1, none⟩ (.slice Ab d.length cb) = wc at *
    clear hc hz
    obtain ⟨e0, e1, e2, e3, e4, e5⟩ := HLb.out.cells
    have HN := Lib.hid (left_any HLb.out.drew.rd)
    go_region_with (go_at_call 70; refine HN.out.mono ?_; rintro e wd ⟨rfl, hgd⟩; have hgd2 : wc.drew.grownBy wd (some rb) := ⟨hgd.os, hgd.tape, hgd.output, hgd.size, fun k hk _ => hgd.block k hk (by simp)⟩; have HLd := Lib.hid (HLb.out.drew.call (HLb.out.drew.rd.grown hgd (by simp) (by simp)) hgd2); have HGD := Lib.hid hgd2; clear e0 e1 e2 e3 e4 e5 hgd hgd2; obtain ⟨e0, e1, e2, e3, e4, e5⟩ := HLd.out.cells; have f0 := HLd.out.pt.frozen 0; have f1 := HLd.out.pt.frozen 1; have f2 := HLd.out.pt.frozen 2; have f3 := HLd.out.pt.frozen 3; have f4 := HLd.out.pt.frozen 4; have f5 := HLd.out.pt.frozen 5)
    all_goals
      go_wp2
      have hlt2 := HLd.out.lt
      have hge2 := HLd.out.ge
      have hrbda : ∀ k : Nat, some rb = some k → k < wa.heap.size := fun k hk => by obtain rfl := Option.some.inj hk; omega
      have HLe := Lib.hid (HLd.out.put6 (sp' := 2) (A1' := Ab) (n1' := d.length) (c1' := cb) (A2' := none) (n2' := 0) (c2' := 0) (A3' := none) (n3' := 0) (c3' := 0) (a' := 0) (A4' := none) (n4' := 0) (c4' := 0))
      refine bodyPost_ret (results_ct Tryd.results47 _ _ ⟨w.heap.size, 0, none⟩ _ rfl (load_part HLe.out.pt rfl)) rfl ?_
      refine ⟨len - ata, by omega, fun a ha => ?_, Ab, cb, none, 0, none, 0, ata, bada, rfl, ((HSC.out.drew.grown HGD.out hrbda).put6 hpa _ _ _ _ _ _).mono (by omega), Sy.nil _ _ _, Sy.nil _ _ _, HLe.out.rd, HLe.out.gr⟩
      have h1 := HLe.out.rd.st
      have h2 := HLe.out.rd.hl
      rw [ha] at h1
      cases bada
      · simp only [Bool.false_eq_true, if_false, Option.some.injEq] at h1
        omega
      · simp at h1
end Go.Proofs.YtbnnjkjmadnjkaaDoor
