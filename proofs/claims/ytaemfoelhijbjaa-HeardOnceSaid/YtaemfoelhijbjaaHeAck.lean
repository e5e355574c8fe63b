/-
  The walk through Ack.
-/
import Derived.Test.YtaemfoelhijbjaaHeKit
import Derived.Test.YtaemfoelhijbjaaHeMeth
import Derived.Test.YtaemfoelhijbjaaSpDraw
import Derived.Test.YtaemfoelhijbjaaAlloc
import Derived.Deep.Cut
import Derived.Deep.WholeRow
import Derived.Laws.Rows
import Derived.Laws.Tables
import Derived.BigQuiet
import Derived.Deep.QuietTactic
namespace Go.Proofs.Ytaemfoelhijbjaa
open Go.RowKit
set_option linter.unusedVariables false

/-- An ACK's cells. -/
def aRowH (k : Nat) (v : Value) (d : Nat) : Array Value := #[.int .u64 (k : Int), .int .u64 0, .int .u64 0, .int .u64 0, .int .u64 0, .int .u64 0, .bool false, .slice none 0 0, .slice none 0 0, .int .u8 0, .int .u8 0, .int .u8 0, .int .u8 0, .int .u8 0, .int .u8 0, .int .u8 0, .int .u8 0, .int .u8 0, .int .u8 0, .int .u8 0, .int .u8 0, .int .u8 0, .int .u8 0, .int .u8 0, .int .u8 0, v, .int .u64 (d : Int), .int .u64 0, .int .u64 0, .int .u64 0]

theorem info_fr : (Try.prog.info? 36).map (·.size) = some 30 := by kernel_rfl
theorem aRowH_one (k : Nat) (A : Option Addr) (n c d : Nat) : (aRowH k (.slice A n c) d).all (·.oneCell') = true := by simp [aRowH, Value.oneCell']

theorem results_ac {P : Program} {fn : Func} {a b : Tmp} {ta : TypeId} (h : fn.results = #[.cell a ta, .tmp b]) (tmps : Array Value) (w : World) (pa : Addr) (va : Value)
    (ha : tmps.getD a undef = .pointer (some pa)) (la : (loadVar ta pa).run P w = .ok va w) : (results fn tmps).run P w = .ok (.tuple #[va, tmps.getD b undef]) w := by
  have ha' : tmps[a]?.getD undef = .pointer (some pa) := by simpa using ha
  simp [results, h, ha', asAddr, la]
theorem load_fr {w : World} {g : Nat} {k d : Nat} {v : Value} (h : Wh w g 36 (aRowH k v d)) : (loadVar 36 ⟨g, 0, none⟩).run Try.prog w = .ok (.agg (aRowH k v d)) w :=
  run_loadVar_row w g _ _ _ (0, 0) _ h Try.underlying36 rfl info_fr

theorem zero_fr (w : World) : (zeroValue 36).run Try.prog w = .ok (.agg (aRowH 0 (.slice none 0 0) 0)) w := by kernel_rfl

theorem below_drewH {B : Nat} {a b : World} (h : Below B a b) (n : Nat) : Below B a (b.drewN n) := ⟨h.os, h.tape, h.output, h.size, h.block⟩

theorem grown_rowH (w : World) (g : Nat) (cs : Array Value) : w.grownBy (w.setRow g cs) (some g) := by
  refine ⟨rfl, rfl, rfl, by simp [World.setRow], fun k hk hne => ?_⟩
  have hkg : ¬ g = k := fun e => hne (by rw [e])
  simp [World.setRow, Array.getElem?_modify, hkg]
theorem grown_row_newH {a b : World} {row : Option Nat} (h : a.grownBy b row) {g : Nat} (hg : a.heap.size ≤ g) (cs : Array Value) : a.grownBy (b.setRow g cs) row :=
  ⟨h.os, h.tape, h.output, by simp [World.setRow]; exact h.size, fun k hk hne => by
    have := (grown_rowH b g cs).block k (Nat.lt_of_lt_of_le hk h.size) (by simp; omega)
    exact this.trans (h.block k hk hne)⟩
theorem Wh.rowH {w : World} {g : Nat} {t : TypeId} {old : Array Value} (h : Wh w g t old) (cs : Array Value) : Wh (w.setRow g cs) g t cs := by
  unfold Wh at h ⊢
  simp [World.setRow, Array.getElem?_modify, h]

/-- No ACK. -/
def noAck : Value := .tuple #[.agg (aRowH 0 (.slice none 0 0) 0), .bool false]

set_option maxRecDepth 10000 in
set_option maxHeartbeats 1000000 in
theorem ack_nil (w : World) (x : Int) :
    Calls Try.prog 7 #[.pointer none, .int .u64 x] w fun e w' => e = .returned noAck ∧ Below w.heap.size w w' := by
  go_enter Try.func7, Try.ntmps7
  go_wp2_with (first
    | (refine wpList_store_row rfl 36 (.tmp 4) (.tmp 19) rfl w.heap.size (aRowH 0 (.slice none 0 0) 0) rfl rfl _ _ (heap_alloc_new w _) info_fr rfl (aRowH_one _ _ _ _ _) ?_; rw [World.setRow_alloc_new]))
  refine bodyPost_ret (results_ac Try.results7 _ _ ⟨w.heap.size, 0, none⟩ _ rfl (load_fr (Wh.new w _ _))) rfl ?_
  exact ⟨rfl, (Below.refl _ _).alloc (Nat.le_refl _) _⟩

set_option maxRecDepth 10000 in
set_option maxHeartbeats 1000000 in
theorem ack_none (w : World) (g c : Nat) (A : Option Addr) (s : HS) (x : Int) (h : HAt w g A 0 c s) :
    Calls Try.prog 7 #[.pointer (some ⟨g, 0, none⟩), .int .u64 x] w fun e w' => e = .returned noAck ∧ Below w.heap.size w w' := by
  have h1 := h.alloc (.cells (aRowH 0 (.slice none 0 0) 0) 36)
  have c0 := h1.c0
  clear h h1
  go_enter Try.func7, Try.ntmps7
  go_upto_region 1 with (refine wpList_allocZ rfl 36 rfl (aRowH 0 (.slice none 0 0) 0) (zero_fr _) ?_)
  go_wp2_with (first
    | (refine wpList_store_row rfl 36 (.tmp 4) (.tmp 19) rfl w.heap.size (aRowH 0 (.slice none 0 0) 0) rfl rfl _ _ (heap_alloc_new w _) info_fr rfl (aRowH_one _ _ _ _ _) ?_; rw [World.setRow_alloc_new]))
  refine bodyPost_ret (results_ac Try.results7 _ _ ⟨w.heap.size, 0, none⟩ _ rfl (load_fr (Wh.new w _ _))) rfl ?_
  exact ⟨rfl, (Below.refl _ _).alloc (Nat.le_refl _) _⟩

/-- What Ack answers: its ranges, in memory of their own. -/
def AckGave (g : Nat) (s : HS) (n now : Nat) (w : World) (e : Ending) (w' : World) : Prop :=
  ∃ A' c', e = .returned (.tuple #[.agg (aRowH 2 (.slice A' (n - (n - 32)) c') ((now - min s.tm now) / 8)), .bool true]) ∧ RsIn w' (w.heap.size ≤ ·) A' (s.l.drop (n - 32)) ∧ n - (n - 32) ≤ c' ∧ c' ≤ maxLen ∧
    w.grownBy w' (some g) ∧ ∃ A c, HAt w' g A n c { s with du := 0, co := 0 }

set_option maxRecDepth 10000 in
set_option maxHeartbeats 2000000 in
theorem ack_any (w : World) (g n c now : Nat) (A : Option Addr) (s : HS) (h : HAt w g A n c s) (hn : 0 < n) (hn2 : n ≤ 1000000) (hw : now ≤ topN) :
    Calls Try.prog 7 #[.pointer (some ⟨g, 0, none⟩), .int .u64 (now : Int)] w (AckGave g s n now w) := by
  have hgl := h.lt
  have HRD := Lib.hid h.reads
  have h1 := h.alloc (.cells (aRowH 0 (.slice none 0 0) 0) 36)
  have hb1 := (Below.refl w.heap.size w).alloc (Nat.le_refl _) (.cells (aRowH 0 (.slice none 0 0) 0) 36)
  have hr1 := Wh.new w 36 (aRowH 0 (.slice none 0 0) 0)
  have hs1 : (w.alloc (.cells (aRowH 0 (.slice none 0 0) 0) 36)).heap.size = w.heap.size + 1 := by simp
  clear h
  go_enter Try.func7, Try.ntmps7
  go_upto_region 1 with (refine wpList_allocZ rfl 36 rfl (aRowH 0 (.slice none 0 0) 0) (zero_fr _) ?_)
  obtain ⟨q, hq⟩ : ∃ q, q = w.heap.size := ⟨_, rfl⟩
  have HQ := Lib.hid hq
  rw [← hq] at hr1 hgl hs1
  rw [← hq]
  clear hq
  generalize w.alloc (.cells (aRowH 0 (.slice none 0 0) 0) 36) = w1 at *
  have c0 := h1.c0
  have c4 := h1.c4
  have c5 := h1.c5
  have f4 := h1.fz 4
  have f5 := h1.fz 5
  have d0 : ((n : Int) == 0) = false := by simp; omega
  have h2 : HAt ((w1.setCell ⟨g, 5, none⟩ (.int .u64 0)).setCell ⟨g, 4, none⟩ (.int .u64 0)) g A n c { s with du := 0, co := 0 } :=
    (h1.set (s' := { s with co := 0 }) 5 (.int .u64 0) rfl rfl).set 4 _ rfl rfl
  have hg2 : w1.grownBy ((w1.setCell ⟨g, 5, none⟩ (.int .u64 0)).setCell ⟨g, 4, none⟩ (.int .u64 0)) (some g) := grown_trans (grown_set _ _ _ _) (grown_set _ _ _ _)
  have H2 := Lib.hid h2
  have HG2 := Lib.hid hg2
  have HR1 := Lib.hid hr1
  have HB1 := Lib.hid hb1
  have HS1 := Lib.hid hs1
  clear h1 h2 hg2 hr1 hb1 hs1
  go_upto_region 4 with (fail)
  clear c0 c4 c5 f4 f5 d0
  generalize (w1.setCell ⟨g, 5, none⟩ (.int .u64 0)).setCell ⟨g, 4, none⟩ (.int .u64 0) = w2 at *
  have c0 := H2.out.c0
  have hcap := H2.out.cap
  have htop := H2.out.top
  obtain ⟨b, off, rfl, hbg, hbl, hcc⟩ := H2.out.reads.at_ (by rw [H2.out.len]; exact hn)
  clear hcc
  unfold maxLen at htop
  obtain ⟨k, hk⟩ : ∃ k : Nat, k = n - 32 := ⟨_, rfl⟩
  have HK := Lib.hid hk
  have e1 : IntKind.i64.wrap ((n : Int) - 32) = (n : Int) - 32 := by rw [IntKind.wrap_i64]; omega
  have e2 : max 0 ((n : Int) - 32) = (k : Int) := by omega
  have e3 : k ≤ n := by omega
  have e4 : ¬ c = k := by omega
  have e5 : k ≤ c := by omega
  clear hk
  go_quiet (fail)
  have hb3 : Below w2.heap.size w2 (w2.drewN nq) := below_drewH (Below.refl _ _) nq
  have h3 := H2.out.below hb3
  have hg3 := grown_trans HG2.out (grown_below (row := some g) hb3)
  have hr3 : Wh (w2.drewN nq) q 36 (aRowH 0 (.slice none 0 0) 0) := HR1.out.grown hg3 (by intro e; have := Option.some.inj e; omega)
  clear c0 e1 e2 e4 hbl hb3 H2 HG2 HR1
  generalize w2.drewN nq = w3 at *
  have c3 := h3.c3
  obtain ⟨d, hd⟩ : ∃ d : Nat, d = now - min s.tm now := ⟨_, rfl⟩
  have e6 : IntKind.u64.wrap ((now : Int) - min (s.tm : Int) (now : Int)) = (d : Int) := by rw [IntKind.wrap_u64, hd]; unfold topN at hw; omega
  obtain ⟨D, hD⟩ : ∃ D : Nat, D = (now - min s.tm now) / 8 := ⟨_, rfl⟩
  have e7 : IntKind.u64.wrap ((d : Int) / 8) = (D : Int) := by rw [IntKind.wrap_u64, hD, hd]; unfold topN at hw; omega
  have HD := Lib.hid hD
  clear hd hD
  go_upto_region 6 with (fail)
  clear e6 e7 c3
  have HH3 := Lib.hid h3
  have HG3 := Lib.hid hg3
  have HR3 := Lib.hid hr3
  have hrs : Rs w3 w3.heap.size (some ⟨b, off + k * 2, none⟩) (s.l.drop k) := by
    intro hne
    obtain ⟨b', off', he, _, hb', hcc⟩ := h3.reads.at_ (by rw [h3.len]; exact hn)
    simp only [Option.some.injEq, Addr.mk.injEq, and_true] at he
    obtain ⟨rfl, rfl⟩ := he
    refine ⟨b, off + k * 2, rfl, hb', fun i x hx => ?_⟩
    rw [List.getElem?_drop] at hx
    have := hcc (k + i) x hx
    rw [show off + k * 2 + i * 2 = off + (k + i) * 2 by omega]
    exact this
  have hb3 : b < w3.heap.size := by
    obtain ⟨b', off', he, _, hb', hcc⟩ := h3.reads.at_ (by rw [h3.len]; exact hn)
    simp only [Option.some.injEq, Addr.mk.injEq, and_true] at he
    omega
  have hlk : (s.l.drop k).length = n - k := by rw [List.length_drop]; have := h3.len; simp only at this; omega
  have HCL := Lib.hid (clone_any b (off + k * 2) (c - k) (s.l.drop k) w3 hb3 hrs (by omega))
  rw [hlk] at HCL
  have hs3 : q + 1 ≤ w3.heap.size := by have := hg3.size; have := HS1.out; omega
  have HLK := Lib.hid hlk
  clear h3 hg3 hr3 hrs hb3 hlk
  go_upto_region 7 with (first
    | (go_at_call 20; refine HCL.out.mono ?_; rintro e w4 ⟨v, rfl, ho4, hb4⟩; obtain ⟨A4, c4, rfl, hc4, hm4⟩ := ho4.form; rw [HLK.out] at hc4 ⊢; have HO4 := Lib.hid ho4; have HB4 := Lib.hid hb4; have HR4 := Lib.hid (HR3.out.below hb4 HR3.out.lt); have HH4 := Lib.hid (HH3.out.below hb4); clear ho4 hb4)
    | (refine wpList_store_row rfl 36 (.tmp 4) (.tmp 55) rfl q (aRowH 2 (.slice A4 (n - k) c4) D) rfl rfl _ _ HR4.out info_fr rfl (aRowH_one _ _ _ _ _) ?_))
  have hgr : w4.grownBy (w4.setRow q (aRowH 2 (.slice A4 (n - k) c4) D)) (some q) := grown_rowH _ _ _
  have hw4 : w.grownBy w4 (some g) := grown_trans (grown_below HB1.out) (grown_trans HG3.out (grown_below HB4.out))
  have hrb := (HRD.out.at_ (by have := HH4.out.len; simp only at this; omega))
  obtain ⟨b', off', he, hb1, hb2, _⟩ := hrb
  simp only [Option.some.injEq, Addr.mk.injEq, and_true] at he
  obtain ⟨rfl, rfl⟩ := he
  have hq := HQ.out
  have hh5 : HAt (w4.setRow q (aRowH 2 (.slice A4 (n - k) c4) D)) g (some ⟨b, off, none⟩) n c { s with du := 0, co := 0 } := by
    have h4 := HH4.out
    refine ⟨h4.row.grown hgr (by intro e; have := Option.some.inj e; omega), ?_, h4.len, h4.cap, h4.top⟩
    have h5 : RsIn w4 (fun x => x ≠ g ∧ x ≠ q) (some ⟨b, off, none⟩) s.l := by
      intro hne
      obtain ⟨b', off', he, h1, h2, h3⟩ := h4.reads hne
      simp only [Option.some.injEq, Addr.mk.injEq, and_true] at he
      obtain ⟨rfl, rfl⟩ := he
      exact ⟨b, off, rfl, ⟨h1, by omega⟩, h2, h3⟩
    exact (h5.grown hgr (fun x hx => by have := Option.some.inj hx; omega)).mono fun x hx _ => hx.1
  have hk := HK.out
  refine bodyPost_ret (results_ac Try.results7 _ _ ⟨q, 0, none⟩ _ rfl (load_fr (Wh.rowH HR4.out _))) rfl ?_
  refine ⟨A4, c4, by rw [← hk, ← HD.out]; rfl, ?_, by rw [← hk]; exact hc4, hm4, grown_row_newH hw4 (by omega) _, _, _, hh5⟩
  rw [← hk]
  exact (HO4.out.rsIn.grown hgr (fun x hx => by have := Option.some.inj hx; omega)).mono fun x hx _ => by omega

end Go.Proofs.Ytaemfoelhijbjaa
