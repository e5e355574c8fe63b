/-
  The walk through hostlerref02.Same, of two frames that are one: made by tools/gen_same.py.
  The walk through hostlerref02.SameAll, of frames that are one.
-/
import Derived.Test.YtkkojhkglcigmaaDoorFTake
import Derived.Test.YtkkojhkglcigmaaDoorOnly
import Derived.Deep.MidRow
import Derived.Deep.RegionHeld3
import Derived.Deep.DeepCutAuto
import Derived.Deep.QuietTactic
import Derived.BigQuiet
import Derived.WalkLawsBesides
import Derived.Test.YtkkojhkglcigmaaDoorFApp
namespace Go.Proofs.YtkkojhkglcigmaaDoor

section
open Go.RowKit
set_option linter.unusedVariables false

theorem tok_at (l : List UInt8) (hl : l.length = 16) (i : Nat) (hi : i < 16) : (l.map cell8)[i]? = some (.int .u8 (tkI l i)) := by
  have h : i < l.length := by omega
  rw [List.getElem?_map, List.getElem?_eq_getElem h]
  simp [cell8, tkI, List.getD, List.getElem?_eq_getElem h]

theorem tok_eql_self (l : List UInt8) (hl : l.length = 16) (w : World) :
   (Op.equalIn 10000 28 (.agg #[.int .u8 (tkI l 0), .int .u8 (tkI l 1), .int .u8 (tkI l 2), .int .u8 (tkI l 3), .int .u8 (tkI l 4), .int .u8 (tkI l 5), .int .u8 (tkI l 6), .int .u8 (tkI l 7), .int .u8 (tkI l 8), .int .u8 (tkI l 9), .int .u8 (tkI l 10), .int .u8 (tkI l 11), .int .u8 (tkI l 12), .int .u8 (tkI l 13), .int .u8 (tkI l 14), .int .u8 (tkI l 15)]) (.agg #[.int .u8 (tkI l 0), .int .u8 (tkI l 1), .int .u8 (tkI l 2), .int .u8 (tkI l 3), .int .u8 (tkI l 4), .int .u8 (tkI l 5), .int .u8 (tkI l 6), .int .u8 (tkI l 7), .int .u8 (tkI l 8), .int .u8 (tkI l 9), .int .u8 (tkI l 10), .int .u8 (tkI l 11), .int .u8 (tkI l 12), .int .u8 (tkI l 13), .int .u8 (tkI l 14), .int .u8 (tkI l 15)])).run Tryd.prog w = .ok true w := by
  have hw : ∀ z ∈ l.map (fun x => (x.toNat : Int)), (Lit.int .u8 z).wf = true := fun z hz => by
    obtain ⟨x, _, rfl⟩ := List.mem_map.1 hz
    exact u8_wf x
  have h := run_equalIn_ints (P := Tryd.prog) (q := .u8) (n := 16) Tryd.underlying28 Tryd.underlying5 (by kernel_rfl) (by kernel_rfl) (by kernel_rfl) (l.map fun x => (x.toNat : Int)) (l.map fun x => (x.toNat : Int)) (by simpa using hl) (by simpa using hl) hw hw w
  rw [decide_eq_true rfl, ← cells_ints, tok_lit l hl] at h
  exact h

theorem ecn_eql_self (a b c : Nat) (h0 : a < big) (h1 : b < big) (h2 : c < big) (w : World) :
   (Op.equalIn 10000 30 (.agg #[.int .u64 (a : Int), .int .u64 (b : Int), .int .u64 (c : Int)]) (.agg #[.int .u64 (a : Int), .int .u64 (b : Int), .int .u64 (c : Int)])).run Tryd.prog w = .ok true w := by
  have hz : ∀ z ∈ [(a : Int), (b : Int), (c : Int)], (Lit.int .u64 z).wf = true := fun z hz => by
    simp only [List.mem_cons, List.not_mem_nil, or_false] at hz
    rcases hz with rfl | rfl | rfl
    · exact u64_wf _ h0
    · exact u64_wf _ h1
    · exact u64_wf _ h2
  have h := run_equalIn_ints (q := .u64) (xs := [(a : Int), (b : Int), (c : Int)]) (ys := [(a : Int), (b : Int), (c : Int)]) Tryd.underlying30 Tryd.underlying24 (by kernel_rfl) (by kernel_rfl) (by kernel_rfl) rfl rfl hz hz w
  rw [decide_eq_true rfl] at h
  exact h

set_option maxRecDepth 100000 in
set_option maxHeartbeats 3200000 in
theorem samef_yes (f : PF) (a b : SA) (Ra Rb : Array Value) (w : World) (hra : Ra = (rowF f a).toArray) (hrb : Rb = (rowF f b).toArray) (hfa : FrAt w w.heap.size f a) (hfb : FrAt w w.heap.size f b) :
    Calls Tryd.prog 20 #[.agg Ra, .agg Rb] w fun e w' => e = .returned (.bool true) ∧ Below w.heap.size w w' := by
  have hia : RowIs Ra f a := hra ▸ rowF_is a hfa.tok
  have hib : RowIs Rb f b := hrb ▸ rowF_is b hfb.tok
  have hwa : Wh ((w.alloc (.cells Ra 32)).alloc (.cells Rb 32)) w.heap.size 32 Ra := (Wh.new _ _ _).alloc _
  have hwb : Wh ((w.alloc (.cells Ra 32)).alloc (.cells Rb 32)) (w.heap.size + 1) 32 Rb := by
    have h := Wh.new (w.alloc (.cells Ra 32)) 32 Rb
    rw [alloc_size] at h
    exact h
  have hbel : Below w.heap.size w ((w.alloc (.cells Ra 32)).alloc (.cells Rb 32)) := ((Below.refl _ _).alloc (Nat.le_refl _) _).alloc (by simp) _
  have HFA := Lib.hid hfa
  have HFB := Lib.hid hfb
  clear hra hrb hfa hfb
  go_enter Tryd.func20, Tryd.ntmps20
  go_upto_region 1 with fail
  generalize ((w.alloc (.cells Ra 32)).alloc (.cells Rb 32)) = w0 at *
  have HBEL := Lib.hid hbel
  have ca : ∀ i v, Ra[i]? = some v → w0.cell? ⟨w.heap.size, i, none⟩ = some v := fun i v h => (hwa.cell i).trans h
  have cb : ∀ i v, Rb[i]? = some v → w0.cell? ⟨w.heap.size + 1, i, none⟩ = some v := fun i v h => (hwb.cell i).trans h
  have a0 := ca 0 _ hia.kind
  have a1 := ca 1 _ hia.id
  have a2 := ca 2 _ hia.off
  have a3 := ca 3 _ hia.max
  have a4 := ca 4 _ hia.code
  have a5 := ca 5 _ hia.n
  have a6 := ca 6 _ hia.fin
  have a7 := ca 7 _ hia.data
  have a8 := ca 8 _ hia.cid
  have a9 : w0.cell? ⟨w.heap.size, 9, none⟩ = some (.int .u8 (tkI f.token 0)) := ca 9 _ (hia.tok 0 _ (tok_at f.token HFA.out.tok 0 (by omega)))
  have a10 : w0.cell? ⟨w.heap.size, 10, none⟩ = some (.int .u8 (tkI f.token 1)) := ca 10 _ (hia.tok 1 _ (tok_at f.token HFA.out.tok 1 (by omega)))
  have a11 : w0.cell? ⟨w.heap.size, 11, none⟩ = some (.int .u8 (tkI f.token 2)) := ca 11 _ (hia.tok 2 _ (tok_at f.token HFA.out.tok 2 (by omega)))
  have a12 : w0.cell? ⟨w.heap.size, 12, none⟩ = some (.int .u8 (tkI f.token 3)) := ca 12 _ (hia.tok 3 _ (tok_at f.token HFA.out.tok 3 (by omega)))
  have a13 : w0.cell? ⟨w.heap.size, 13, none⟩ = some (.int .u8 (tkI f.token 4)) := ca 13 _ (hia.tok 4 _ (tok_at f.token HFA.out.tok 4 (by omega)))
  have a14 : w0.cell? ⟨w.heap.size, 14, none⟩ = some (.int .u8 (tkI f.token 5)) := ca 14 _ (hia.tok 5 _ (tok_at f.token HFA.out.tok 5 (by omega)))
  have a15 : w0.cell? ⟨w.heap.size, 15, none⟩ = some (.int .u8 (tkI f.token 6)) := ca 15 _ (hia.tok 6 _ (tok_at f.token HFA.out.tok 6 (by omega)))
  have a16 : w0.cell? ⟨w.heap.size, 16, none⟩ = some (.int .u8 (tkI f.token 7)) := ca 16 _ (hia.tok 7 _ (tok_at f.token HFA.out.tok 7 (by omega)))
  have a17 : w0.cell? ⟨w.heap.size, 17, none⟩ = some (.int .u8 (tkI f.token 8)) := ca 17 _ (hia.tok 8 _ (tok_at f.token HFA.out.tok 8 (by omega)))
  have a18 : w0.cell? ⟨w.heap.size, 18, none⟩ = some (.int .u8 (tkI f.token 9)) := ca 18 _ (hia.tok 9 _ (tok_at f.token HFA.out.tok 9 (by omega)))
  have a19 : w0.cell? ⟨w.heap.size, 19, none⟩ = some (.int .u8 (tkI f.token 10)) := ca 19 _ (hia.tok 10 _ (tok_at f.token HFA.out.tok 10 (by omega)))
  have a20 : w0.cell? ⟨w.heap.size, 20, none⟩ = some (.int .u8 (tkI f.token 11)) := ca 20 _ (hia.tok 11 _ (tok_at f.token HFA.out.tok 11 (by omega)))
  have a21 : w0.cell? ⟨w.heap.size, 21, none⟩ = some (.int .u8 (tkI f.token 12)) := ca 21 _ (hia.tok 12 _ (tok_at f.token HFA.out.tok 12 (by omega)))
  have a22 : w0.cell? ⟨w.heap.size, 22, none⟩ = some (.int .u8 (tkI f.token 13)) := ca 22 _ (hia.tok 13 _ (tok_at f.token HFA.out.tok 13 (by omega)))
  have a23 : w0.cell? ⟨w.heap.size, 23, none⟩ = some (.int .u8 (tkI f.token 14)) := ca 23 _ (hia.tok 14 _ (tok_at f.token HFA.out.tok 14 (by omega)))
  have a24 : w0.cell? ⟨w.heap.size, 24, none⟩ = some (.int .u8 (tkI f.token 15)) := ca 24 _ (hia.tok 15 _ (tok_at f.token HFA.out.tok 15 (by omega)))
  have a25 := ca 25 _ hia.acks
  have a26 := ca 26 _ hia.delay
  have a27 := ca 27 _ hia.e0
  have a28 := ca 28 _ hia.e1
  have a29 := ca 29 _ hia.e2
  have b0 := cb 0 _ hib.kind
  have b1 := cb 1 _ hib.id
  have b2 := cb 2 _ hib.off
  have b3 := cb 3 _ hib.max
  have b4 := cb 4 _ hib.code
  have b5 := cb 5 _ hib.n
  have b6 := cb 6 _ hib.fin
  have b7 := cb 7 _ hib.data
  have b8 := cb 8 _ hib.cid
  have b9 : w0.cell? ⟨w.heap.size + 1, 9, none⟩ = some (.int .u8 (tkI f.token 0)) := cb 9 _ (hib.tok 0 _ (tok_at f.token HFA.out.tok 0 (by omega)))
  have b10 : w0.cell? ⟨w.heap.size + 1, 10, none⟩ = some (.int .u8 (tkI f.token 1)) := cb 10 _ (hib.tok 1 _ (tok_at f.token HFA.out.tok 1 (by omega)))
  have b11 : w0.cell? ⟨w.heap.size + 1, 11, none⟩ = some (.int .u8 (tkI f.token 2)) := cb 11 _ (hib.tok 2 _ (tok_at f.token HFA.out.tok 2 (by omega)))
  have b12 : w0.cell? ⟨w.heap.size + 1, 12, none⟩ = some (.int .u8 (tkI f.token 3)) := cb 12 _ (hib.tok 3 _ (tok_at f.token HFA.out.tok 3 (by omega)))
  have b13 : w0.cell? ⟨w.heap.size + 1, 13, none⟩ = some (.int .u8 (tkI f.token 4)) := cb 13 _ (hib.tok 4 _ (tok_at f.token HFA.out.tok 4 (by omega)))
  have b14 : w0.cell? ⟨w.heap.size + 1, 14, none⟩ = some (.int .u8 (tkI f.token 5)) := cb 14 _ (hib.tok 5 _ (tok_at f.token HFA.out.tok 5 (by omega)))
  have b15 : w0.cell? ⟨w.heap.size + 1, 15, none⟩ = some (.int .u8 (tkI f.token 6)) := cb 15 _ (hib.tok 6 _ (tok_at f.token HFA.out.tok 6 (by omega)))
  have b16 : w0.cell? ⟨w.heap.size + 1, 16, none⟩ = some (.int .u8 (tkI f.token 7)) := cb 16 _ (hib.tok 7 _ (tok_at f.token HFA.out.tok 7 (by omega)))
  have b17 : w0.cell? ⟨w.heap.size + 1, 17, none⟩ = some (.int .u8 (tkI f.token 8)) := cb 17 _ (hib.tok 8 _ (tok_at f.token HFA.out.tok 8 (by omega)))
  have b18 : w0.cell? ⟨w.heap.size + 1, 18, none⟩ = some (.int .u8 (tkI f.token 9)) := cb 18 _ (hib.tok 9 _ (tok_at f.token HFA.out.tok 9 (by omega)))
  have b19 : w0.cell? ⟨w.heap.size + 1, 19, none⟩ = some (.int .u8 (tkI f.token 10)) := cb 19 _ (hib.tok 10 _ (tok_at f.token HFA.out.tok 10 (by omega)))
  have b20 : w0.cell? ⟨w.heap.size + 1, 20, none⟩ = some (.int .u8 (tkI f.token 11)) := cb 20 _ (hib.tok 11 _ (tok_at f.token HFA.out.tok 11 (by omega)))
  have b21 : w0.cell? ⟨w.heap.size + 1, 21, none⟩ = some (.int .u8 (tkI f.token 12)) := cb 21 _ (hib.tok 12 _ (tok_at f.token HFA.out.tok 12 (by omega)))
  have b22 : w0.cell? ⟨w.heap.size + 1, 22, none⟩ = some (.int .u8 (tkI f.token 13)) := cb 22 _ (hib.tok 13 _ (tok_at f.token HFA.out.tok 13 (by omega)))
  have b23 : w0.cell? ⟨w.heap.size + 1, 23, none⟩ = some (.int .u8 (tkI f.token 14)) := cb 23 _ (hib.tok 14 _ (tok_at f.token HFA.out.tok 14 (by omega)))
  have b24 : w0.cell? ⟨w.heap.size + 1, 24, none⟩ = some (.int .u8 (tkI f.token 15)) := cb 24 _ (hib.tok 15 _ (tok_at f.token HFA.out.tok 15 (by omega)))
  have b25 := cb 25 _ hib.acks
  have b26 := cb 26 _ hib.delay
  have b27 := cb 27 _ hib.e0
  have b28 := cb 28 _ hib.e1
  have b29 := cb 29 _ hib.e2
  have hte := tok_eql_self f.token HFA.out.tok w0
  have hec := ecn_eql_self f.e0 f.e1 f.e2 HFA.out.nums.2.2.2.2.2.2.2.1 HFA.out.nums.2.2.2.2.2.2.2.2.1 HFA.out.nums.2.2.2.2.2.2.2.2.2 w0
  have hs1 := run_string_sl (P := Tryd.prog) w0 22 9 5 Tryd.underlying22 Tryd.underlying5 Tryd.underlying9 _ a.dA f.data.length a.dc _ (HFA.out.data.below hbel) rfl
  have hs2 := run_string_sl (P := Tryd.prog) w0 22 9 5 Tryd.underlying22 Tryd.underlying5 Tryd.underlying9 _ b.dA f.data.length b.dc _ (HFB.out.data.below hbel) rfl
  have hs3 := run_string_sl (P := Tryd.prog) w0 22 9 5 Tryd.underlying22 Tryd.underlying5 Tryd.underlying9 _ a.cA f.cid.length a.cc _ (HFA.out.cid.below hbel) rfl
  have hs4 := run_string_sl (P := Tryd.prog) w0 22 9 5 Tryd.underlying22 Tryd.underlying5 Tryd.underlying9 _ b.cA f.cid.length b.cc _ (HFB.out.cid.below hbel) rfl
  clear hbel hia hib ca cb hwa hwb
  go_cut [5] (fun v5 wx => v5 = .bool true ∧ wx = w0)
  case first =>
    go_wp2_with fail
    go_meet
    exact ⟨rfl, rfl⟩
  case rest =>
    clear hte hec hs1 hs2 hs3 hs4 a0 a1 a2 a3 a4 a5 a6 a7 a8 a9 a10 a11 a12 a13 a14 a15 a16 a17 a18 a19 a20 a21 a22 a23 a24 a26 a27 a28 a29 b0 b1 b2 b3 b4 b5 b6 b7 b8 b9 b10 b11 b12 b13 b14 b15 b16 b17 b18 b19 b20 b21 b22 b23 b24 b26 b27 b28 b29
    obtain ⟨rfl, e0⟩ := hcut
    have e0s := e0.symm
    clear e0
    subst e0s
    have hl0 : w.heap.size < w0.heap.size := World.block_lt_of_cell? _ _ a25
    have hl1 : w.heap.size + 1 < w0.heap.size := World.block_lt_of_cell? _ _ b25
    have hal := HFA.out.al
    have A25 := Lib.hid a25
    have B25 := Lib.hid b25
    clear a25 b25
    go_wp2_with fail
    go_loopw [5, 6] (fun v5 i wr => v5 = .bool true ∧ ∃ k : Nat, k ≤ f.acks.length ∧ i = .int .i64 (k : Int) ∧ Hid (Below w0.heap.size w0 wr)) (fun _ i _ => f.acks.length - (intOf i).toNat)
    case atStart => exact ⟨rfl, 0, Nat.zero_le _, rfl, Lib.hid (Below.refl _ _)⟩
    case round =>
      obtain ⟨rfl, k, hk, rfl, hb⟩ := hrel
      have a25 := (hb.out.cell (p := ⟨w.heap.size, 25, none⟩) hl0).trans A25.out
      have b25 := (hb.out.cell (p := ⟨w.heap.size + 1, 25, none⟩) hl1).trans B25.out
      by_cases hlt : k < f.acks.length
      · have d1 : decide ((k : Int) < (f.acks.length : Int)) = true := decide_eq_true (by omega)
        obtain ⟨x, hx⟩ : ∃ x, f.acks[k]? = some x := ⟨_, List.getElem?_eq_getElem hlt⟩
        obtain ⟨g1, o1, e1, h1, c1⟩ := HFA.out.acks (by rintro h; rw [h] at hx; simp at hx)
        obtain ⟨g2, o2, e2, h2, c2⟩ := HFB.out.acks (by rintro h; rw [h] at hx; simp at hx)
        have hbw := HBEL.out.trans (hb.out.mono HBEL.out.size)
        have q1 := (hbw.cell (p := ⟨g1, o1 + k * 2, none⟩) h1).trans (c1 k x hx).1
        have q2 := (hbw.cell (p := ⟨g1, o1 + k * 2 + 1, none⟩) h1).trans (c1 k x hx).2
        have q3 := (hbw.cell (p := ⟨g2, o2 + k * 2, none⟩) h2).trans (c2 k x hx).1
        have q4 := (hbw.cell (p := ⟨g2, o2 + k * 2 + 1, none⟩) h2).trans (c2 k x hx).2
        rw [e1] at a25
        rw [e2] at b25
        clear c1 c2 hbw hx
        go_wp2_with fail
        go_quiet (fail)
        go_wp2_with fail
        refine ⟨⟨rfl, k + 1, by omega, by congr 1, Lib.hid (below_drewN hb.out _)⟩, ?_⟩
        simp [intOf]
        omega
      · have d1 : decide ((k : Int) < (f.acks.length : Int)) = false := decide_eq_false (by omega)
        go_wp2_with fail
        go_ret
        exact ⟨rfl, HBEL.out.trans (hb.out.mono HBEL.out.size)⟩
end

section
open Go.RowKit
set_option linter.unusedVariables false

set_option maxRecDepth 100000 in
set_option maxHeartbeats 3200000 in
theorem samefall_yes (A1 A2 : Option Addr) (len c1 c2 : Nat) (l1 l2 : List (PF × SA)) (w : World) (he : l1.map (·.1) = l2.map (·.1)) (hl : l1.length = len) (h1 : Sf w w.heap.size A1 l1) (h2 : Sf w w.heap.size A2 l2) (hm : len ≤ 140737488355328) :
    Calls Tryd.prog 18 #[.slice A1 len c1, .slice A2 len c2] w fun e w' => e = .returned (.bool true) ∧ Below w.heap.size w w' := by
  have HL := Lib.hid hl
  have HL2 : Hid (l2.length = len) := by have h := congrArg List.length he; rw [List.length_map, List.length_map] at h; exact h.symm.trans hl
  have HE := Lib.hid he
  have H1 := Lib.hid h1
  have H2 := Lib.hid h2
  clear he hl h1 h2
  go_enter Tryd.func18, Tryd.ntmps18
  go_wp2_with fail
  go_loopw [5, 6] (fun v5 i wr => v5 = .bool true ∧ ∃ k : Nat, k ≤ len ∧ i = .int .i64 (k : Int) ∧ Hid (Below w.heap.size w wr)) (fun _ i _ => len - (intOf i).toNat)
  case atStart => exact ⟨rfl, 0, Nat.zero_le _, rfl, Lib.hid (Below.refl _ _)⟩
  case round =>
    obtain ⟨rfl, k, hk, rfl, hb⟩ := hrel
    by_cases hlt : k < len
    · have d1 : decide ((k : Int) < (len : Int)) = true := decide_eq_true (by omega)
      obtain ⟨x, hx⟩ : ∃ x, l1[k]? = some x := ⟨_, List.getElem?_eq_getElem (by rw [HL.out]; exact hlt)⟩
      obtain ⟨y, hy⟩ : ∃ y, l2[k]? = some y := ⟨_, List.getElem?_eq_getElem (by rw [HL2.out]; exact hlt)⟩
      have hxy : x.1 = y.1 := by
        have h := congrArg (·[k]?) HE.out
        simpa [hx, hy] using h
      obtain ⟨b1, o1, rfl, hb1, hc1⟩ := H1.out (by rintro rfl; simp at hx)
      obtain ⟨b2, o2, rfl, hb2, hc2⟩ := H2.out (by rintro rfl; simp at hy)
      obtain ⟨R1, hR1⟩ : ∃ R1 : List Value, R1 = rowF x.1 x.2 := ⟨_, rfl⟩
      obtain ⟨R2, hR2⟩ : ∃ R2 : List Value, R2 = rowF y.1 y.2 := ⟨_, rfl⟩
      have hr1 : wr.rangeAt b1 (o1 + k * 30) R1 := fun j v hv => (hb.out.cell (p := ⟨b1, o1 + k * 30 + j, none⟩) (by show b1 < _; omega)).trans ((hc1 k x hx).1 j v (by rw [← hR1]; exact hv))
      have hr2 : wr.rangeAt b2 (o2 + k * 30) R2 := fun j v hv => (hb.out.cell (p := ⟨b2, o2 + k * 30 + j, none⟩) (by show b2 < _; omega)).trans ((hc2 k y hy).1 j v (by rw [← hR2]; exact hv))
      have hf1 := (hc1 k x hx).2.below hb.out
      have hf2 := (hc2 k y hy).2.below hb.out
      have hI1 : (Tryd.prog.info? 32).map (·.size) = some R1.length := by rw [hR1, rowF_length x.2 hf1.tok]; exact info_frame
      have hI2 : (Tryd.prog.info? 32).map (·.size) = some R2.length := by rw [hR2, rowF_length y.2 hf2.tok]; exact info_frame
      have hg1 : FrAt wr.drew wr.drew.heap.size x.1 x.2 := { hf1 with data := hf1.data.keep hb.out.size (fun _ _ => rfl), cid := hf1.cid.keep hb.out.size (fun _ _ => rfl), acks := hf1.acks.keep hb.out.size (fun _ _ => rfl) }
      have hg2 : FrAt wr.drew wr.drew.heap.size x.1 y.2 := hxy ▸ ({ hf2 with data := hf2.data.keep hb.out.size (fun _ _ => rfl), cid := hf2.cid.keep hb.out.size (fun _ _ => rfl), acks := hf2.acks.keep hb.out.size (fun _ _ => rfl) } : FrAt wr.drew wr.drew.heap.size y.1 y.2)
      have HSM := Lib.hid (samef_yes x.1 x.2 y.2 R1.toArray R2.toArray wr.drew (by rw [hR1]) (by rw [hR2, hxy]) hg1 hg2)
      have HI1 := Lib.hid hI1
      have HI2 := Lib.hid hI2
      clear hI1 hI2 hf1 hf2 hg1 hg2 hR1 hR2 hc1 hc2 hx hy hxy
      go_upto_region 5 with fail
      have hS0 : (fun w' : World => w'.rangeAt b1 (o1 + k * 30) R1 ∧ w'.rangeAt b2 (o2 + k * 30) R2) wr.drew := ⟨hr1, hr2⟩
      refine wp_region_held_drew (S := fun w' : World => w'.rangeAt b1 (o1 + k * 30) R1 ∧ w'.rangeAt b2 (o2 + k * 30) R2) (by kernel_rfl) hS0 (fun _ => ?_)
      refine wpAnyH_take (i := 0) (v := .slice (some ⟨b1, o1, none⟩) len c1) (List.getElem?_toArray.trans rfl) (by kernel_rfl) (by kernel_rfl) (by kernel_rfl) (fun _ _ _ h => h) (.inl ⟨rfl, fun w' hS => rfl⟩) hS0 ?_
      refine act_norm (by simp only [Act.put, List.setIfInBounds_toArray, List.set_cons_zero, List.set_cons_succ]; rfl) ?_
      refine wpAnyH_take (i := 1) (v := .int .i64 (k : Int)) (List.getElem?_toArray.trans rfl) (by kernel_rfl) (by kernel_rfl) (by kernel_rfl) (fun _ _ _ h => h) (.inl ⟨rfl, fun w' hS => rfl⟩) hS0 ?_
      refine act_norm (by simp only [Act.put, List.setIfInBounds_toArray, List.set_cons_zero, List.set_cons_succ]; rfl) ?_
      refine wpAnyH_take (i := 2) (v := .pointer (some ⟨b1, o1 + k * 30, none⟩)) (List.getElem?_toArray.trans rfl) (by kernel_rfl) (by kernel_rfl) (by kernel_rfl) (fun _ _ _ h => h) (.inl ⟨rfl, fun w' hS => by simp [go_sem, hlt]⟩) hS0 ?_
      refine act_norm (by simp only [Act.put, List.setIfInBounds_toArray, List.set_cons_zero, List.set_cons_succ]; rfl) ?_
      refine wpAnyH_take (i := 3) (List.getElem?_toArray.trans rfl) (by kernel_rfl) (by kernel_rfl) (by kernel_rfl) (fun _ _ _ h => h) (yieldsIf_load_mid (by rfl) 32 (.tmp 23) rfl b1 (o1 + k * 30) rfl R1 _ (fun w' hS => hS.1) Tryd.underlying32 rfl HI1.out) hS0 ?_
      refine act_norm (by simp only [Act.put, List.setIfInBounds_toArray, List.set_cons_zero, List.set_cons_succ]; rfl) ?_
      refine wpAnyH_take (i := 4) (v := .slice (some ⟨b2, o2, none⟩) len c2) (List.getElem?_toArray.trans rfl) (by kernel_rfl) (by kernel_rfl) (by kernel_rfl) (fun _ _ _ h => h) (.inl ⟨rfl, fun w' hS => rfl⟩) hS0 ?_
      refine act_norm (by simp only [Act.put, List.setIfInBounds_toArray, List.set_cons_zero, List.set_cons_succ]; rfl) ?_
      refine wpAnyH_take (i := 5) (v := .int .i64 (k : Int)) (List.getElem?_toArray.trans rfl) (by kernel_rfl) (by kernel_rfl) (by kernel_rfl) (fun _ _ _ h => h) (.inl ⟨rfl, fun w' hS => rfl⟩) hS0 ?_
      refine act_norm (by simp only [Act.put, List.setIfInBounds_toArray, List.set_cons_zero, List.set_cons_succ]; rfl) ?_
      refine wpAnyH_take (i := 6) (v := .pointer (some ⟨b2, o2 + k * 30, none⟩)) (List.getElem?_toArray.trans rfl) (by kernel_rfl) (by kernel_rfl) (by kernel_rfl) (fun _ _ _ h => h) (.inl ⟨rfl, fun w' hS => by simp [go_sem, hlt]⟩) hS0 ?_
      refine act_norm (by simp only [Act.put, List.setIfInBounds_toArray, List.set_cons_zero, List.set_cons_succ]; rfl) ?_
      refine wpAnyH_take (i := 7) (List.getElem?_toArray.trans rfl) (by kernel_rfl) (by kernel_rfl) (by kernel_rfl) (fun _ _ _ h => h) (yieldsIf_load_mid (by rfl) 32 (.tmp 27) rfl b2 (o2 + k * 30) rfl R2 _ (fun w' hS => hS.2) Tryd.underlying32 rfl HI2.out) hS0 ?_
      refine act_norm (by simp only [Act.put, List.setIfInBounds_toArray, List.set_cons_zero, List.set_cons_succ]; rfl) ?_
      refine wpAnyH_ready (rs := [8]) (by kernel_rfl) (by simp) (AllReadyH.cons (List.getElem?_toArray.trans rfl) (fun K' hK => ?_) AllReadyH.nil)
      refine wanted_go rfl ?_
      go_simp
      refine HSM.out.mono ?_
      rintro e w4 ⟨rfl, hb4⟩
      have hS1 : (fun w' : World => w'.rangeAt b1 (o1 + k * 30) R1 ∧ w'.rangeAt b2 (o2 + k * 30) R2) w4 := by
        have hz := hb.out.size
        exact ⟨fun j v hv => (hb4.cell (p := ⟨b1, o1 + k * 30 + j, none⟩) (by show b1 < wr.heap.size; omega)).trans (hS0.1 j v hv), fun j v hv => (hb4.cell (p := ⟨b2, o2 + k * 30 + j, none⟩) (by show b2 < wr.heap.size; omega)).trans (hS0.2 j v hv)⟩
      have HB4 := Lib.hid (hb.out.drew.trans (hb4.mono hb.out.size))
      refine hK.out _ _ hS1 (fun hS2 => ?_)
      clear hK K' hS1 hS0 hr1 hr2 hb4 HSM
      refine wpAnyH_ready (rs := [9]) (by kernel_rfl) (by simp) (AllReadyH.cons (List.getElem?_toArray.trans rfl) (fun K' hK => ?_) AllReadyH.nil)
      refine wanted_go rfl ?_
      go_simp
      refine hK.out _ _ hS2 (fun _ => ?_)
      clear hK K'
      refine wpAnyH_done (by kernel_rfl) ?_ _
      go_wp2_with fail
      refine ⟨⟨rfl, k + 1, by omega, by congr 1, HB4⟩, ?_⟩
      simp [intOf]
      omega
    · have d1 : decide ((k : Int) < (len : Int)) = false := decide_eq_false (by omega)
      go_wp2_with fail
      go_ret
      exact ⟨rfl, hb.out⟩
end

end Go.Proofs.YtkkojhkglcigmaaDoor
