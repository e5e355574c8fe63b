/-
  The walks through head.firstByte, putNumber and putLong.
-/
import Derived.Test.YtbnnjkjmadnjkaaDoorSk17
import Derived.Test.YtbnnjkjmadnjkaaDoorSk18
import Derived.Test.YtbnnjkjmadnjkaaDoorHMath
import Derived.Lib.AppendStr
import Derived.Deep.DeepCutAuto
namespace Go.Proofs.YtbnnjkjmadnjkaaDoor
open Go.RowKit
set_option linter.unusedVariables false

/-- A head's first byte. -/
def firstB (sp k : Nat) (ph : Bool) : Nat := 63 + k + (if sp = 0 then 128 else if sp = 1 then 160 else 0) + (if ph then 4 else 0)

set_option maxRecDepth 10000 in
set_option maxHeartbeats 400000 in
theorem firstByte_any (sp k : Nat) (ph : Bool) (A1 : Option Addr) (n1 c1 : Nat) (A2 : Option Addr) (n2 c2 : Nat) (A3 : Option Addr) (n3 c3 : Nat) (pn : Int) (w : World) (hsp : sp = 0 ∨ sp = 1 ∨ sp = 2) (hk : k = 1 ∨ k = 2 ∨ k = 3 ∨ k = 4) :
    Calls Tryd.prog 36 #[.agg (headC sp A1 n1 c1 A2 n2 c2 A3 n3 c3 ph pn (k : Int))] w fun e w' => e = .returned (.int .u8 (firstB sp k ph : Int)) ∧ Below w.heap.size w w' := by
  unfold headC
  rcases hsp with rfl | rfl | rfl <;> rcases hk with rfl | rfl | rfl | rfl <;> cases ph
  all_goals
    go_enter Tryd.func36, Tryd.ntmps36
    go_wp2
    go_ret
    exact ⟨by kernel_rfl, (Below.refl _ _).alloc (Nat.le_refl _) _⟩

theorem hown_base {w : World} {base B : Nat} {e : TypeId} {v : Value} {n : Nat} {xs : List Value} (h : w.ownsRow base e 1 v n xs) (hB : B ≤ base) : w.ownsRow B e 1 v n xs := by
  refine ⟨h.1, ?_⟩
  rcases h.2 with hn | ⟨g, cap, cur, rfl, hbs, rest⟩
  · exact .inl hn
  · exact .inr ⟨g, cap, cur, rfl, by omega, rest⟩

theorem own_type {w : World} {B hb : Nat} {e t : TypeId} {R : Array Value} {v : Value} {n : Nat} {xs : List Value} (h : w.ownsRow B e 1 v n xs) (hb' : Wh w hb t R) (hne : e ≠ t) : v.ownBlock ≠ some hb := by
  intro hv
  rcases h.2 with ⟨rfl, _⟩ | ⟨g, cap, cur, rfl, _, hg, _⟩
  · simp [Value.ownBlock] at hv
  · simp only [Value.ownBlock, Option.some.injEq] at hv
    subst hv
    unfold Wh at hb'
    rw [hg] at hb'
    simp only [Option.some.injEq, Obj.cells.injEq] at hb'
    exact hne hb'.2.1

/-- Bytes under way behind an own row, and a head's box at block hb that no step turns. -/
structure PB (w0 w : World) (B hb : Nat) (R : Array Value) (v : Value) (b : List UInt8) : Prop where
  own : w.ownsRow B 5 1 v b.length (b.map cell8)
  bel : Below B w0 w
  box : Wh w hb 30 R
  ne : v.ownBlock ≠ some hb
  hB : B ≤ w0.heap.size

theorem PB.hBw {w0 w : World} {B hb : Nat} {R : Array Value} {v : Value} {b : List UInt8} (h : PB w0 w B hb R v b) : B ≤ w.heap.size := Nat.le_trans h.hB h.bel.size

theorem PB.alloc {w0 w : World} {B hb : Nat} {R : Array Value} {v : Value} {b : List UInt8} (h : PB w0 w B hb R v b) (o : Obj) : PB w0 (w.alloc o) B hb R v b :=
  ⟨h.own.alloc _, h.bel.alloc h.hBw _, h.box.alloc _, h.ne, h.hB⟩

theorem PB.app {w0 w w' : World} {B hb m : Nat} {R : Array Value} {v v' : Value} {b d : List UInt8} (h : PB w0 w B hb R v b) (ho : w'.ownsRow B 5 1 v' (b.length + m) (b.map cell8 ++ d.map cell8)) (hm : d.length = m)
    (hg : w.grownBy w' v.ownBlock) : PB w0 w' B hb R v' (b ++ d) := by
  subst hm
  have hbox := h.box.grown hg (fun e => h.ne e.symm)
  exact ⟨by rw [List.length_append, List.map_append]; exact ho, h.bel.grown hg h.hBw (fun k hk => (h.own.lt k hk).1), hbox, own_type ho hbox (by decide), h.hB⟩

/-- A call that leaves what was there, and answers bytes of its own. -/
theorem PB.call {w0 w w' : World} {B hb c : Nat} {R : Array Value} {v : Value} {b b' : List UInt8} {A : Option Addr} (h : PB w0 w B hb R v b) (ho : w'.ownsRow w.heap.size 5 1 (.slice A b'.length c) b'.length (b'.map cell8)) (hb' : Below w.heap.size w w') : PB w0 w' B hb R (.slice A b'.length c) b' := by
  refine ⟨hown_base ho h.hBw, h.bel.trans (hb'.mono h.hBw), h.box.below hb' h.box.lt, ?_, h.hB⟩
  intro e
  have := (ho.lt hb e).1
  have := h.box.lt
  omega

theorem PB.sl {w0 w : World} {B hb : Nat} {R : Array Value} {v : Value} {b : List UInt8} (h : PB w0 w B hb R v b) {A : Option Addr} {xs : List Value} (hs : Sv w0 B A xs) : Sv w B A xs := hs.below h.bel

theorem PB.own_sl {w0 w : World} {B hb : Nat} {R : Array Value} {v : Value} {b : List UInt8} (h : PB w0 w B hb R v b) : ∃ A c, v = .slice A b.length c ∧ b.length ≤ c ∧ c ≤ maxLen ∧ Sl w w.heap.size A b := by
  obtain ⟨A, c, rfl, h1, h2⟩ := own_form h.own
  exact ⟨A, c, rfl, h1, h2, Sv.of_own h.own⟩

theorem strCells_ver : Lib.strCells ⟨#[0, 0, 0, 1]⟩ = ([0, 0, 0, 1] : List UInt8).map cell8 := by kernel_rfl

theorem byte_len (n : Nat) (h : n ≤ 255) : Value.int .u8 (n : Int) = cell8 (UInt8.ofNat n) := by
  unfold cell8
  rw [UInt8.toNat_ofNat', Nat.mod_eq_of_lt (by omega)]

/-- What putLong and putNumber answer. -/
def PutGave (w : World) (B : Nat) (b : List UInt8) (e : Ending) (w' : World) : Prop := ∃ v', e = .returned v' ∧ w'.ownsRow B 5 1 v' b.length (b.map cell8) ∧ Below B w w'

set_option maxRecDepth 10000 in
set_option maxHeartbeats 800000 in
theorem putNumber_any (B k pn : Nat) (sv : Value) (b : List UInt8) (sp : Nat) (ph : Bool) (A1 : Option Addr) (n1 c1 : Nat) (A2 : Option Addr) (n2 c2 : Nat) (A3 : Option Addr) (n3 c3 : Nat) (w : World)
    (hown : w.ownsRow B 5 1 sv b.length (b.map cell8)) (hB : B ≤ w.heap.size) (hk : k ≤ 4) (hb : b.length ≤ 1048576) :
    Calls Tryd.prog 38 #[sv, .agg (headC sp A1 n1 c1 A2 n2 c2 A3 n3 c3 ph (pn : Int) (k : Int))] w (PutGave w B (b ++ be pn k)) := by
  obtain ⟨i0, hi0, hz0, hz1, hz2⟩ := info_parts info8V
  have hP : PB w (w.alloc (.cells (headC sp A1 n1 c1 A2 n2 c2 A3 n3 c3 ph (pn : Int) (k : Int)) 30)) B w.heap.size (headC sp A1 n1 c1 A2 n2 c2 A3 n3 c3 ph (pn : Int) (k : Int)) sv b :=
    ⟨hown.alloc _, (Below.refl _ _).alloc hB _, Wh.new _ _ _, fun e => by have := (hown.lt _ e).2; omega, hB⟩
  have HP := Lib.hid hP
  clear hown hP
  unfold headC
  go_enter Tryd.func38, Tryd.ntmps38
  go_wp2
  change Code.wp _ _ _ _ (w.alloc (.cells (headC sp A1 n1 c1 A2 n2 c2 A3 n3 c3 ph (pn : Int) (k : Int)) 30))
  generalize w.alloc (.cells (headC sp A1 n1 c1 A2 n2 c2 A3 n3 c3 ph (pn : Int) (k : Int)) 30) = w1 at *
  go_loopw [0, 5] (fun vb va wr => ∃ (j : Nat) (pre : List UInt8), j ≤ k ∧ va = .int .i64 (8 * (j : Int) - 8) ∧ Hid (be pn k = pre ++ be pn j) ∧ pre.length + j = k ∧ Hid (PB w wr B w.heap.size (headC sp A1 n1 c1 A2 n2 c2 A3 n3 c3 ph (pn : Int) (k : Int)) vb (b ++ pre)))
    (fun _ va _ => (intOf va + 8).toNat)
  case atStart => exact ⟨k, [], Nat.le_refl _, by congr 1; omega, Lib.hid rfl, by simp, Lib.hid (by rw [List.append_nil]; exact HP.out)⟩
  case round =>
    obtain ⟨j, pre, hj, rfl, hsplit, hpl, HPB⟩ := hrel
    have HPL := Lib.hid hpl
    by_cases h0 : 1 ≤ j
    · obtain ⟨q, rfl⟩ : ∃ q, j = q + 1 := ⟨j - 1, by omega⟩
      have hp4 : (b ++ pre).length ≤ 1048580 := by rw [List.length_append]; omega
      have c5 : wr.cell? ⟨w.heap.size, 5, none⟩ = some (.int .u64 (pn : Int)) := HPB.out.box.cell 5
      clear hpl
      go_wp2_with (at_builtin; refine wpList_append_sv _ rfl _ _ _ rfl B 5 i0 _ 1 Tryd.underlying28 hi0 hz0 hz1 hz2 rfl _ _ _ rfl (HPB.out.alloc _).own _ _ 1 1 _ rfl (sv_new _ _ _) rfl (fun u hu => by simp at hu; subst hu; rfl) (by unfold maxLen; omega) (by omega) (HPB.out.alloc _).hBw ?_; intro v1 w2 hown2 hg2 _)
      go_roundw
      case rel =>
        rw [show 8 * (q + 1) - 8 = 8 * q by omega, be_cell] at hown2
        have hpb := (HPB.out.alloc _).app (d := [UInt8.ofNat (pn / 256 ^ q % 256)]) hown2 rfl hg2
        have hlen' := HPL.out
        rw [List.append_assoc] at hpb
        exact ⟨q, pre ++ [UInt8.ofNat (pn / 256 ^ q % 256)], by omega, by go_num, Lib.hid (hsplit.out.trans (by simp [be])), by simp; omega, Lib.hid hpb⟩
      case measure => simp [intOf]; omega
    · obtain rfl : j = 0 := by omega
      go_wp2
      go_ret
      have he : be pn k = pre := by have := hsplit.out; simpa [be] using this
      have h := HPB.out
      exact ⟨_, rfl, by rw [he]; exact h.own, h.bel⟩

set_option maxRecDepth 10000 in
set_option maxHeartbeats 1600000 in
theorem putLong_any (B sp k pn n : Nat) (sv : Value) (b dst src tok : List UInt8) (ph : Bool) (A1 : Option Addr) (c1 : Nat) (A2 : Option Addr) (c2 : Nat) (A3 : Option Addr) (c3 : Nat) (w : World)
    (hown : w.ownsRow B 5 1 sv b.length (b.map cell8)) (hB : B ≤ w.heap.size) (h1 : Sl w B A1 dst) (h2 : Sl w B A2 src) (h3 : Sl w B A3 tok) (hd : dst.length ≤ 20) (hs : src.length ≤ 20) (ht : tok.length ≤ 3000)
    (hsp : sp = 0 ∨ sp = 1) (hk : k ≤ 4) (hn : n ≤ 65536) (hb : b.length ≤ 100) (hT : Tab w) (hTB : 2 < B) :
    Calls Tryd.prog 37 #[sv, .agg (headC sp A1 dst.length c1 A2 src.length c2 A3 tok.length c3 ph (pn : Int) (k : Int)), .int .i64 (n : Int)] w (PutGave w B (b ++ longB sp dst src tok (k + n))) := by
  obtain ⟨i0, hi0, hz0, hz1, hz2⟩ := info_parts info8V
  have hP : PB w (w.alloc (.cells (headC sp A1 dst.length c1 A2 src.length c2 A3 tok.length c3 ph (pn : Int) (k : Int)) 30)) B w.heap.size (headC sp A1 dst.length c1 A2 src.length c2 A3 tok.length c3 ph (pn : Int) (k : Int)) sv b :=
    ⟨hown.alloc _, (Below.refl _ _).alloc hB _, Wh.new _ _ _, fun e => by have := (hown.lt _ e).2; omega, hB⟩
  have HP := Lib.hid hP
  have H1 := Lib.hid h1
  have H2 := Lib.hid h2
  have H3 := Lib.hid h3
  have HT := Lib.hid hT
  have HLB : Hid (longB sp dst src tok (k + n) = [0, 0, 0, 1] ++ (UInt8.ofNat dst.length :: (dst ++ (UInt8.ofNat src.length :: (src ++ ((if sp = 0 then enc tok.length ++ tok else []) ++ enc (k + n))))))) := rfl
  generalize longB sp dst src tok (k + n) = LB at *
  have hlv : (⟨#[0, 0, 0, 1]⟩ : ByteArray).size = 4 := rfl
  clear hown hP h1 h2 h3 hT
  unfold headC
  go_enter Tryd.func37, Tryd.ntmps37
  go_upto_region 1 with fail
  change Code.wp _ _ _ _ (w.alloc (.cells (headC sp A1 dst.length c1 A2 src.length c2 A3 tok.length c3 ph (pn : Int) (k : Int)) 30))
  generalize w.alloc (.cells (headC sp A1 dst.length c1 A2 src.length c2 A3 tok.length c3 ph (pn : Int) (k : Int)) 30) = w0 at *
  go_upto_region 2 with (at_builtin; refine Lib.wpList_append_own_string _ rfl _ _ _ _ rfl B 5 i0 Tryd.underlying28 Tryd.underlying9 hi0 hz0 hz1 hz2 _ _ _ rfl HP.out.own ⟨#[0, 0, 0, 1]⟩ rfl (by unfold maxLen; omega) (by omega) HP.out.hBw ?_; intro v1 w1 hown1 hg1 _)
  rw [hlv, strCells_ver] at hown1
  have HP1 := Lib.hid (HP.out.app (d := [0, 0, 0, 1]) hown1 rfl hg1)
  clear hown1 hg1 HP
  generalize hb1 : b ++ [0, 0, 0, 1] = b1 at HP1
  have hl1 : b1.length ≤ 104 := by rw [← hb1]; simp; omega
  have HB1 := Lib.hid hb1
  clear hb1
  have e1 : w1.cell? ⟨w.heap.size, 1, none⟩ = some (.slice A1 dst.length c1) := HP1.out.box.cell 1
  go_upto_region 3 with (at_builtin; refine wpList_append_sv _ rfl _ _ _ rfl B 5 i0 _ 1 Tryd.underlying28 hi0 hz0 hz1 hz2 rfl _ _ _ rfl (HP1.out.alloc _).own _ _ 1 1 _ rfl (sv_new _ _ _) rfl (fun u hu => by simp at hu; subst hu; rfl) (by unfold maxLen; omega) (by omega) (HP1.out.alloc _).hBw ?_; intro v2 w2 hown2 hg2 _)
  rw [byte_len _ (by omega)] at hown2
  have HP2 := Lib.hid ((HP1.out.alloc _).app (d := [UInt8.ofNat dst.length]) hown2 rfl hg2)
  clear hown2 hg2 HP1 e1
  generalize hb2 : b1 ++ [UInt8.ofNat dst.length] = b2 at HP2
  have hl2 : b2.length ≤ 105 := by rw [← hb2]; simp; omega
  have HB2 := Lib.hid hb2
  clear hb2
  have e1 : w2.cell? ⟨w.heap.size, 1, none⟩ = some (.slice A1 dst.length c1) := HP2.out.box.cell 1
  go_upto_region 4 with (at_builtin; refine wpList_append_sv _ rfl _ _ _ rfl B 5 i0 _ 1 Tryd.underlying28 hi0 hz0 hz1 hz2 rfl _ _ _ rfl HP2.out.own B _ dst.length _ (dst.map cell8) rfl (HP2.out.sl H1.out) (by simp) (cell8_one dst) (by unfold maxLen; omega) (by omega) HP2.out.hBw ?_; intro v3 w3 hown3 hg3 _)
  have HP3 := Lib.hid (HP2.out.app (d := dst) hown3 rfl hg3)
  clear hown3 hg3 HP2 e1
  generalize hb3 : b2 ++ dst = b3 at HP3
  have hl3 : b3.length ≤ 125 := by rw [← hb3]; simp; omega
  have HB3 := Lib.hid hb3
  clear hb3
  have e2 : w3.cell? ⟨w.heap.size, 2, none⟩ = some (.slice A2 src.length c2) := HP3.out.box.cell 2
  go_upto_region 5 with (at_builtin; refine wpList_append_sv _ rfl _ _ _ rfl B 5 i0 _ 1 Tryd.underlying28 hi0 hz0 hz1 hz2 rfl _ _ _ rfl (HP3.out.alloc _).own _ _ 1 1 _ rfl (sv_new _ _ _) rfl (fun u hu => by simp at hu; subst hu; rfl) (by unfold maxLen; omega) (by omega) (HP3.out.alloc _).hBw ?_; intro v4 w4 hown4 hg4 _)
  rw [byte_len _ (by omega)] at hown4
  have HP4 := Lib.hid ((HP3.out.alloc _).app (d := [UInt8.ofNat src.length]) hown4 rfl hg4)
  clear hown4 hg4 HP3 e2
  generalize hb4 : b3 ++ [UInt8.ofNat src.length] = b4 at HP4
  have hl4 : b4.length ≤ 126 := by rw [← hb4]; simp; omega
  have HB4 := Lib.hid hb4
  clear hb4
  have e2 : w4.cell? ⟨w.heap.size, 2, none⟩ = some (.slice A2 src.length c2) := HP4.out.box.cell 2
  go_upto_region 6 with (at_builtin; refine wpList_append_sv _ rfl _ _ _ rfl B 5 i0 _ 1 Tryd.underlying28 hi0 hz0 hz1 hz2 rfl _ _ _ rfl HP4.out.own B _ src.length _ (src.map cell8) rfl (HP4.out.sl H2.out) (by simp) (cell8_one src) (by unfold maxLen; omega) (by omega) HP4.out.hBw ?_; intro v5 w5 hown5 hg5 _)
  have HP5 := Lib.hid (HP4.out.app (d := src) hown5 rfl hg5)
  clear hown5 hg5 HP4 e2
  generalize hb5 : b4 ++ src = b5 at HP5
  have hl5 : b5.length ≤ 146 := by rw [← hb5]; simp; omega
  have HB5 := Lib.hid hb5
  clear hb5
  have e0 : w5.cell? ⟨w.heap.size, 0, none⟩ = some (.int .u8 (sp : Int)) := HP5.out.box.cell 0
  rcases hsp with rfl | rfl
  · have e3 : w5.cell? ⟨w.heap.size, 3, none⟩ = some (.slice A3 tok.length c3) := HP5.out.box.cell 3
    obtain ⟨A5, q5, rfl, hlc5, hcm5, hsl5⟩ := HP5.out.own_sl
    have hpa := HP5.out.alloc (.cells #[.int .u64 ((tok.length : Int))] 25)
    have hza : (w5.alloc (.cells #[.int .u64 ((tok.length : Int))] 25)).heap.size = w5.heap.size + 1 := by simp
    have hsa : Sn (w5.alloc (.cells #[.int .u64 ((tok.length : Int))] 25)) (w5.heap.size + 1) (some ⟨w5.heap.size, 0, none⟩) [tok.length] := by
      show Sv _ _ _ [.int .u64 (((tok.length : Nat)) : Int)]
      rw [show (((tok.length : Nat)) : Int) = (tok.length : Int) by omega]
      exact sv_new w5 (.int .u64 ((tok.length : Int))) 25
    have HVA := Lib.hid (append_ok A5 b5.length q5 (some ⟨w5.heap.size, 0, none⟩) 1 1 b5 [tok.length] (w5.alloc (.cells #[.int .u64 ((tok.length : Int))] 25)) (w5.heap.size + 1) rfl (by have := Sv.of_own hpa.own; rw [hza] at this; exact this) rfl hsa (by omega) (by omega) (by omega) (may_one (by omega)) (HT.out.below hpa.bel hTB))
    have HPA := Lib.hid hpa
    clear hpa hsl5 HP5 hsa
    go_upto_region 8 with (go_at_call 56; refine HVA.out.mono ?_; rintro e w6 ⟨A6, q6, rfl, hq6, hm6, hown6, hbb6⟩; generalize hb6 : b5 ++ encs [tok.length] = b6 at hown6 hq6 ⊢)
    have HP6 := Lib.hid (HPA.out.call hown6 hbb6)
    rw [encs_one] at hb6
    have hl6 : b6.length ≤ 154 := by rw [← hb6]; have := szN_le (tok.length); simp [enc_length]; omega
    have HB6 := Lib.hid hb6
    clear hown6 hbb6 hq6 HVA HPA hb6
    clear e0 e3
    have e3 : w6.cell? ⟨w.heap.size, 3, none⟩ = some (.slice A3 tok.length c3) := HP6.out.box.cell 3
    go_upto_region 9 with (at_builtin; refine wpList_append_sv _ rfl _ _ _ rfl B 5 i0 _ 1 Tryd.underlying28 hi0 hz0 hz1 hz2 rfl _ _ _ rfl HP6.out.own B _ tok.length _ (tok.map cell8) rfl (HP6.out.sl H3.out) (by simp) (cell8_one tok) (by unfold maxLen; omega) (by omega) HP6.out.hBw ?_; intro v7 w7 hown7 hg7 _)
    have HP7 := Lib.hid (HP6.out.app (d := tok) hown7 rfl hg7)
    clear hown7 hg7 HP6 e3
    generalize hb7 : b6 ++ tok = b7 at HP7
    have hl7 : b7.length ≤ 3154 := by rw [← hb7]; simp; omega
    have HB7 := Lib.hid hb7
    clear hb7
    have e6 : w7.cell? ⟨w.heap.size, 6, none⟩ = some (.int .i64 (k : Int)) := HP7.out.box.cell 6
    obtain ⟨A7, q7, rfl, hlc7, hcm7, hsl7⟩ := HP7.out.own_sl
    have hpa := HP7.out.alloc (.cells #[.int .u64 ((k : Int) + (n : Int))] 25)
    have hza : (w7.alloc (.cells #[.int .u64 ((k : Int) + (n : Int))] 25)).heap.size = w7.heap.size + 1 := by simp
    have hsa : Sn (w7.alloc (.cells #[.int .u64 ((k : Int) + (n : Int))] 25)) (w7.heap.size + 1) (some ⟨w7.heap.size, 0, none⟩) [k + n] := by
      show Sv _ _ _ [.int .u64 (((k + n : Nat)) : Int)]
      rw [show (((k + n : Nat)) : Int) = (k : Int) + (n : Int) by omega]
      exact sv_new w7 (.int .u64 ((k : Int) + (n : Int))) 25
    have HVA := Lib.hid (append_ok A7 b7.length q7 (some ⟨w7.heap.size, 0, none⟩) 1 1 b7 [k + n] (w7.alloc (.cells #[.int .u64 ((k : Int) + (n : Int))] 25)) (w7.heap.size + 1) rfl (by have := Sv.of_own hpa.own; rw [hza] at this; exact this) rfl hsa (by omega) (by omega) (by omega) (may_one (by omega)) (HT.out.below hpa.bel hTB))
    have HPA := Lib.hid hpa
    clear hpa hsl7 HP7 hsa
    go_upto_region 10 with (go_at_call 56; refine HVA.out.mono ?_; rintro e w8 ⟨A8, q8, rfl, hq8, hm8, hown8, hbb8⟩; generalize hb8 : b7 ++ encs [k + n] = b8 at hown8 hq8 ⊢)
    have HP8 := Lib.hid (HPA.out.call hown8 hbb8)
    rw [encs_one] at hb8
    have hl8 : b8.length ≤ 3162 := by rw [← hb8]; have := szN_le (k + n); simp [enc_length]; omega
    have HB8 := Lib.hid hb8
    clear hown8 hbb8 hq8 HVA HPA hb8
    go_wp2
    go_ret
    have h := HP8.out
    refine ⟨_, rfl, ?_, h.bel⟩
    have he : b8 = b ++ LB := by
      rw [HLB.out, ← HB8.out, ← HB7.out, ← HB6.out, ← HB5.out, ← HB4.out, ← HB3.out, ← HB2.out, ← HB1.out]
      simp [List.append_assoc]
    rw [← he]
    exact h.own
  · have e6 : w5.cell? ⟨w.heap.size, 6, none⟩ = some (.int .i64 (k : Int)) := HP5.out.box.cell 6
    obtain ⟨A5, q5, rfl, hlc5, hcm5, hsl5⟩ := HP5.out.own_sl
    have hpa := HP5.out.alloc (.cells #[.int .u64 ((k : Int) + (n : Int))] 25)
    have hza : (w5.alloc (.cells #[.int .u64 ((k : Int) + (n : Int))] 25)).heap.size = w5.heap.size + 1 := by simp
    have hsa : Sn (w5.alloc (.cells #[.int .u64 ((k : Int) + (n : Int))] 25)) (w5.heap.size + 1) (some ⟨w5.heap.size, 0, none⟩) [k + n] := by
      show Sv _ _ _ [.int .u64 (((k + n : Nat)) : Int)]
      rw [show (((k + n : Nat)) : Int) = (k : Int) + (n : Int) by omega]
      exact sv_new w5 (.int .u64 ((k : Int) + (n : Int))) 25
    have HVA := Lib.hid (append_ok A5 b5.length q5 (some ⟨w5.heap.size, 0, none⟩) 1 1 b5 [k + n] (w5.alloc (.cells #[.int .u64 ((k : Int) + (n : Int))] 25)) (w5.heap.size + 1) rfl (by have := Sv.of_own hpa.own; rw [hza] at this; exact this) rfl hsa (by omega) (by omega) (by omega) (may_one (by omega)) (HT.out.below hpa.bel hTB))
    have HPA := Lib.hid hpa
    clear hpa hsl5 HP5 hsa
    go_upto_region 10 with (go_at_call 56; refine HVA.out.mono ?_; rintro e w8 ⟨A8, q8, rfl, hq8, hm8, hown8, hbb8⟩; generalize hb8 : b5 ++ encs [k + n] = b8 at hown8 hq8 ⊢)
    have HP8 := Lib.hid (HPA.out.call hown8 hbb8)
    rw [encs_one] at hb8
    have hl8 : b8.length ≤ 154 := by rw [← hb8]; have := szN_le (k + n); simp [enc_length]; omega
    have HB8 := Lib.hid hb8
    clear hown8 hbb8 hq8 HVA HPA hb8
    go_wp2
    go_ret
    have h := HP8.out
    refine ⟨_, rfl, ?_, h.bel⟩
    have he : b8 = b ++ LB := by
      rw [HLB.out, ← HB8.out, ← HB5.out, ← HB4.out, ← HB3.out, ← HB2.out, ← HB1.out]
      simp [List.append_assoc]
    rw [← he]
    exact h.own
end Go.Proofs.YtbnnjkjmadnjkaaDoor
