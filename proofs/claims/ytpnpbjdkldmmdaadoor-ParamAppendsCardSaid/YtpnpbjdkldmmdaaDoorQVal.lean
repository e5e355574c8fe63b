/-
  Transport parameters: the value by which each is told (param.valueOf).
-/
import Derived.Test.YtpnpbjdkldmmdaaDoorQMath2
import Derived.Test.YtpnpbjdkldmmdaaDoorQGet
import Derived.Test.YtpnpbjdkldmmdaaDoorAppend
namespace Go.Proofs.YtpnpbjdkldmmdaaDoor
open Go.RowKit
set_option linter.unusedVariables false

/-- Bytes that read, wherever they lie; nothing that was there is written to. -/
def ValGave (w : World) (l : List UInt8) (e : Ending) (w' : World) : Prop :=
  ∃ A c, e = .returned (.slice A l.length c) ∧ Sl w' w'.heap.size A l ∧ Below w.heap.size w w'

theorem ValGave.nil {w : World} {l : List UInt8} (h : l = []) : ValGave w l (.returned (.slice none 0 0)) w := by
  subst h
  exact ⟨none, 0, rfl, Sv.nil _ _ _, Below.refl _ _⟩

theorem tok_sl {w : World} {b : Nat} {A0 : Option Addr} {c0 : Nat} {A1 : Option Addr} {c1 : Nat} {p : PQ} (h : Wh w b 43 (prC A0 c0 A1 c1 p)) : Sl w w.heap.size (some ⟨b, 12, none⟩) p.tok := by
  intro hn
  exact ⟨b, 12, rfl, h.lt, fun i v hv => by rw [h.cell, prC_tok, ← List.getElem?_map]; exact hv⟩


set_option maxRecDepth 10000 in
set_option maxHeartbeats 800000 in
/-- Where it has none. -/
theorem valueOf_none (b id : Nat) (w : World) (h2 : ((id : Int) == 2) = false ∨ (((id : Int) == 2) = true ∧ w.cell? ⟨b, 11, none⟩ = some (.bool false)))
    (hn : numP b id = .pointer none ∨ (∃ a, numP b id = .pointer (some a) ∧ w.cell? a = some (.int .u64 0))) (hb : bytP b id = .pointer none) :
    Calls Tryd.prog 29 #[.pointer (some ⟨b, 0, none⟩), .int .u64 (id : Int)] w (ValGave w []) := by
  have HN := fun w => numberOf_any b id w
  have HB := fun w => bytesOf_any b id w
  rw [hb] at HB
  have HBB := Lib.hid HB
  rcases h2 with h2 | ⟨h2, e11⟩ <;> rcases hn with hn | ⟨a, hn, ha⟩
  all_goals
    rw [hn] at HN
    have HNN := Lib.hid HN
    clear hb hn HN HB
    go_enter Tryd.func29, Tryd.ntmps29
    go_wp2_with (first | (go_at_call 33; refine (HNN.out _).mono ?_; rintro e w' ⟨rfl, rfl⟩) | (go_at_call 35; refine (HBB.out _).mono ?_; rintro e w' ⟨rfl, rfl⟩))
    go_ret
    exact ValGave.nil rfl

set_option maxRecDepth 10000 in
set_option maxHeartbeats 800000 in
/-- The token. -/
theorem valueOf_tok (b : Nat) (w : World) (e11 : w.cell? ⟨b, 11, none⟩ = some (.bool true)) (e12 : ∃ x, w.cell? ⟨b, 12, none⟩ = some x) :
    Calls Tryd.prog 29 #[.pointer (some ⟨b, 0, none⟩), .int .u64 2] w fun e w' => e = .returned (.slice (some ⟨b, 12, none⟩) 16 16) ∧ w = w' := by
  go_enter Tryd.func29, Tryd.ntmps29
  go_wp2
  go_ret
  exact ⟨rfl, rfl⟩

set_option maxRecDepth 10000 in
set_option maxHeartbeats 800000 in
/-- A number. -/
theorem valueOf_num (b id n : Nat) (w : World) (hT : Tab w) (h2 : ((id : Int) == 2) = false) (hn : nIdx id ≠ 0) (hc : w.cell? ⟨b, nIdx id, none⟩ = some (.int .u64 (n : Int))) (h0 : ((n : Int) != 0) = true) (hle : n ≤ 4611686018427387903) :
    Calls Tryd.prog 29 #[.pointer (some ⟨b, 0, none⟩), .int .u64 (id : Int)] w (ValGave w (enc n)) := by
  have HN := fun w => numberOf_any b id w
  rw [numP_some hn] at HN
  have HNN := Lib.hid HN
  have hza : (w.alloc (.cells #[.int .u64 (n : Int)] 23)).heap.size = w.heap.size + 1 := by simp
  have hb0 : Below w.heap.size w (w.alloc (.cells #[.int .u64 (n : Int)] 23)) := (Below.refl _ _).alloc (Nat.le_refl _) _
  have hsa : Sn (w.alloc (.cells #[.int .u64 (n : Int)] 23)) (w.heap.size + 1) (some ⟨w.heap.size, 0, none⟩) [n] := sv_new w (.int .u64 (n : Int)) 23
  have HVA := append_ok none 0 0 (some ⟨w.heap.size, 0, none⟩) 1 1 [] [n] (w.alloc (.cells #[.int .u64 (n : Int)] 23)) (w.heap.size + 1) rfl (Sv.nil _ _ _) rfl hsa (by omega) (by omega) (by omega) (may_one hle) (hT.below hb0 hT.lt)
  rw [List.nil_append, encs_one] at HVA
  have HVB := Lib.hid HVA
  have HB0 := Lib.hid hb0
  clear HN HVA hn hza hb0 hsa hT hle
  go_enter Tryd.func29, Tryd.ntmps29
  go_wp2_with (first | (go_at_call 33; refine (HNN.out _).mono ?_; rintro e w' ⟨rfl, rfl⟩) | (go_at_call 30; refine HVB.out.mono ?_; rintro e w6 ⟨A6, q6, rfl, hq6, hm6, hown6, hbb6⟩))
  go_ret
  exact ⟨A6, q6, rfl, Sv.of_own hown6, HB0.out.trans (hbb6.mono (by simp))⟩

set_option maxRecDepth 10000 in
set_option maxHeartbeats 800000 in
/-- A connection id's bytes. -/
theorem valueOf_bytes (b id i : Nat) (w : World) (h2 : ((id : Int) == 2) = false) (hn : numP b id = .pointer none) (hb : bytP b id = .pointer (some ⟨b, i, none⟩)) (v : Value) (hc : w.cell? ⟨b, i, none⟩ = some v) :
    Calls Tryd.prog 29 #[.pointer (some ⟨b, 0, none⟩), .int .u64 (id : Int)] w fun e w' => e = .returned v ∧ w = w' := by
  have HN := fun w => numberOf_any b id w
  have HB := fun w => bytesOf_any b id w
  rw [hn] at HN
  rw [hb] at HB
  have HNN := Lib.hid HN
  have HBB := Lib.hid HB
  clear hb hn HN HB
  go_enter Tryd.func29, Tryd.ntmps29
  go_wp2_with (first | (go_at_call 33; refine (HNN.out _).mono ?_; rintro e w' ⟨rfl, rfl⟩) | (go_at_call 35; refine (HBB.out _).mono ?_; rintro e w' ⟨rfl, rfl⟩))
  go_ret
  exact ⟨rfl, rfl⟩

theorem valueOf_any (b id : Nat) (A0 : Option Addr) (c0 : Nat) (A1 : Option Addr) (c1 : Nat) (p : PQ) (w : World) (hT : Tab w) (hW : Wh w b 43 (prC A0 c0 A1 c1 p)) (h0 : Sl w w.heap.size A0 p.orig) (h1 : Sl w w.heap.size A1 p.cid)
    (ht : p.tok.length = 16) (hle : p.num id ≤ 4611686018427387903) :
    Calls Tryd.prog 29 #[.pointer (some ⟨b, 0, none⟩), .int .u64 (id : Int)] w (ValGave w (valQ p id)) := by
  by_cases h2 : id = 2
  · subst h2
    cases hh : p.has
    · rw [show valQ p 2 = [] by simp [valQ, hh]]
      exact valueOf_none b 2 w (.inr ⟨rfl, by rw [hW.cell, prC_has, hh]⟩) (.inl rfl) rfl
    · rw [show valQ p 2 = p.tok by simp [valQ, hh]]
      obtain ⟨x, hx⟩ : ∃ x, p.tok[0]? = some x := ⟨_, List.getElem?_eq_getElem (by omega)⟩
      refine (valueOf_tok b w (by rw [hW.cell, prC_has, hh]) ⟨cell8 x, by rw [hW.cell, show (12 : Nat) = 12 + 0 from rfl, prC_tok, hx]; rfl⟩).mono ?_
      rintro e w' ⟨rfl, rfl⟩
      exact ⟨_, 16, by rw [ht], tok_sl hW, Below.refl _ _⟩
  · have t2 : ((id : Int) == 2) = false := by rw [beq_eq_false_iff_ne]; omega
    by_cases hn : nIdx id = 0
    · have hp : numP b id = .pointer none := numP_none hn
      by_cases e0 : id = 0
      · subst e0
        rw [show valQ p 0 = p.orig by simp [valQ, nIdx]]
        refine (valueOf_bytes b 0 0 w t2 hp rfl _ (by rw [hW.cell, prC_0])).mono ?_
        rintro e w' ⟨rfl, rfl⟩
        exact ⟨_, _, rfl, h0, Below.refl _ _⟩
      · by_cases e1 : id = 15
        · subst e1
          rw [show valQ p 15 = p.cid by simp [valQ, nIdx]]
          refine (valueOf_bytes b 15 1 w t2 hp rfl _ (by rw [hW.cell, prC_1])).mono ?_
          rintro e w' ⟨rfl, rfl⟩
          exact ⟨_, _, rfl, h1, Below.refl _ _⟩
        · rw [show valQ p id = [] by unfold valQ; rw [if_neg h2, if_neg (fun e => e hn), if_neg e0, if_neg e1]]
          exact valueOf_none b id w (.inl t2) (.inl hp) (by unfold bytP; rw [if_neg e0, if_neg e1])
    · have hc : w.cell? ⟨b, nIdx id, none⟩ = some (.int .u64 (p.num id : Int)) := by rw [hW.cell, prC_num _ _ _ _ _ _ hn]
      have hid : id ≠ 0 ∧ id ≠ 15 := by
        constructor
        · rintro rfl; exact hn rfl
        · rintro rfl; exact hn rfl
      rw [valQ_num h2 hn]
      by_cases hz : p.num id = 0
      · rw [if_pos hz]
        rw [hz] at hc
        exact valueOf_none b id w (.inl t2) (.inr ⟨_, numP_some hn, hc⟩) (by unfold bytP; rw [if_neg hid.1, if_neg hid.2])
      · rw [if_neg hz]
        exact valueOf_num b id _ w hT t2 hn hc (by rw [bne_iff_ne]; omega) hle

end Go.Proofs.YtpnpbjdkldmmdaaDoor
