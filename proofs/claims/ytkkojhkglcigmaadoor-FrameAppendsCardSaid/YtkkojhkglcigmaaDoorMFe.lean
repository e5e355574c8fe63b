/-
  The walk through frame.Eliciting.
  The walk through frame.Allowed.
  The walk through hostlerref02.Great.
-/
import Derived.Test.YtkkojhkglcigmaaDoorFApp
import Derived.Test.YtkkojhkglcigmaaDoorMay
namespace Go.Proofs.YtkkojhkglcigmaaDoor

section
open Go.RowKit
set_option linter.unusedVariables false

/-- Whether a frame asks for an acknowledgement. -/
def elicB (k : Nat) : Bool := !(decide (k = 0) || decide (k = 2) || decide (k = 3) || decide (k = 28) || decide (k = 29))

set_option maxRecDepth 100000 in
set_option maxHeartbeats 4000000 in
theorem eliciting_any (A2 : Option Addr) (len c2 : Nat) (l : List (PF × SA)) (w : World) (B : Nat) (hl : l.length = len) (hf : Sf w B A2 l) (hB : B ≤ w.heap.size) (hlen : len ≤ 1048576) :
    Calls Tryd.prog 12 #[.slice A2 len c2] w fun e w' => e = .returned (.bool (l.any fun x => elicB x.1.kind)) ∧ Below w.heap.size w w' := by
  have HL := Lib.hid hl
  have HF := Lib.hid hf
  have hz : (#[.int .u64 0, .int .u64 0, .int .u64 0, .int .u64 0, .int .u64 0, .int .u64 0, .bool false, .slice none 0 0, .slice none 0 0, .int .u8 0, .int .u8 0, .int .u8 0, .int .u8 0, .int .u8 0, .int .u8 0, .int .u8 0, .int .u8 0, .int .u8 0, .int .u8 0, .int .u8 0, .int .u8 0, .int .u8 0, .int .u8 0, .int .u8 0, .int .u8 0, .slice none 0 0, .int .u64 0, .int .u64 0, .int .u64 0, .int .u64 0] : Array Value) = zRow 0 := rfl
  clear hl hf
  go_enter Tryd.func12, Tryd.ntmps12
  go_wp2
  go_loopw [4, 7, 13] (fun vp i vb wr => ∃ k : Nat, k ≤ len ∧ i = .int .i64 k ∧ Hid (Below w.heap.size w wr) ∧ Hid ((l.take k).any (fun x => elicB x.1.kind) = false)) (fun _ i _ _ => len - (intOf i).toNat)
  case atStart => exact ⟨0, Nat.zero_le _, rfl, Lib.hid (Below.refl _ _), Lib.hid rfl⟩
  case round =>
    obtain ⟨k, hk, rfl, hbel, hno⟩ := hrel
    by_cases hlt : k < len
    · obtain ⟨x, hx⟩ : ∃ x, l[k]? = some x := ⟨_, List.getElem?_eq_getElem (by rw [HL.out]; exact hlt)⟩
      obtain ⟨bk, off, rfl, hbk, hc⟩ := HF.out (by rintro rfl; simp at hx)
      have HRG : Hid (wr.rangeAt bk (off + k * 30) (rowF x.1 x.2)) := fun j v hv => (hbel.out.cell (p := ⟨bk, off + k * 30 + j, none⟩) (by show bk < _; omega)).trans ((hc k x hx).1 j v hv)
      have htok := (hc k x hx).2.tok
      have HSZ : Hid ((Tryd.prog.info? 32).map (·.size) = some (rowF x.1 x.2).length) := by rw [info_frame, rowF_length x.2 htok]; rfl
      have HX := Lib.hid hx
      have HNX : Hid ((l.take (k + 1)).any (fun x => elicB x.1.kind) = elicB x.1.kind) := by
        show _ = _
        rw [takeA_next l k x hx, List.any_append, hno.out]
        simp
      obtain ⟨R, hR⟩ : ∃ R : Array Value, R = (rowF x.1 x.2).toArray := ⟨_, rfl⟩
      have HRE := Lib.hid hR
      have hR30 : R.size = 30 := by rw [hR, List.size_toArray, rowF_length x.2 htok]
      have HR30 := Lib.hid hR30
      have HR1 : Hid (R.all (·.oneCell') = true) := by show _ = _; rw [hR]; exact rowF_one x.1 x.2
      have HI : Hid ((Tryd.prog.info? 32).map (·.size) = some R.size) := by rw [hR30]; exact info_frame
      have c0 : (wr.alloc (.cells R 32)).cell? ⟨wr.heap.size, 0, none⟩ = some (.int .u64 (x.1.kind : Int)) := by
        rw [(Wh.new wr 32 R).cell 0, hR]; rfl
      have hws := hbel.out.size
      have HBN : Hid (Below w.heap.size w (wr.alloc (.cells R 32))) := hbel.out.alloc hws _
      have HE : Hid (elicB x.1.kind = !(decide (x.1.kind = 0) || decide (x.1.kind = 2) || decide (x.1.kind = 3) || decide (x.1.kind = 28) || decide (x.1.kind = 29))) := rfl
      clear hR hR30 hc hx htok
      generalize x.1.kind = kd at *
      generalize elicB kd = eb at *
      by_cases h0 : kd = 0
      · have t : ((kd : Int) == 0) = true := by simp; omega
        have HB : Hid (eb = false) := by show _ = _; rw [HE.out, h0]; rfl
        clear h0
        go_wp2_with (first
          | (refine wpList_load_mid rfl 32 (.tmp 9) rfl bk (off + k * 30) rfl (rowF x.1 x.2) _ HRG.out Tryd.underlying32 rfl HSZ.out ?_; rw [← HRE.out])
          | (refine wpList_store_row rfl 32 (.tmp 4) (.tmp 10) rfl wr.heap.size R rfl rfl _ _ (heap_alloc_new wr (.cells (zRow 0) 32)) HI.out (by rw [HR30.out]; rfl) HR1.out ?_; rw [World.setRow_alloc_new]))
        go_roundw
        case rel => exact ⟨k + 1, by omega, by go_num, HBN, Lib.hid (HNX.out.trans HB.out)⟩
        case measure => simp [intOf]; omega
      have t0 : ((kd : Int) == 0) = false := by rw [beq_eq_false_iff_ne]; omega
      by_cases h2 : kd = 2
      · have t : ((kd : Int) == 2) = true := by simp; omega
        have HB : Hid (eb = false) := by show _ = _; rw [HE.out, h2]; rfl
        clear h2
        go_wp2_with (first
          | (refine wpList_load_mid rfl 32 (.tmp 9) rfl bk (off + k * 30) rfl (rowF x.1 x.2) _ HRG.out Tryd.underlying32 rfl HSZ.out ?_; rw [← HRE.out])
          | (refine wpList_store_row rfl 32 (.tmp 4) (.tmp 10) rfl wr.heap.size R rfl rfl _ _ (heap_alloc_new wr (.cells (zRow 0) 32)) HI.out (by rw [HR30.out]; rfl) HR1.out ?_; rw [World.setRow_alloc_new]))
        go_roundw
        case rel => exact ⟨k + 1, by omega, by go_num, HBN, Lib.hid (HNX.out.trans HB.out)⟩
        case measure => simp [intOf]; omega
      have t2 : ((kd : Int) == 2) = false := by rw [beq_eq_false_iff_ne]; omega
      by_cases h3 : kd = 3
      · have t : ((kd : Int) == 3) = true := by simp; omega
        have HB : Hid (eb = false) := by show _ = _; rw [HE.out, h3]; rfl
        clear h3
        go_wp2_with (first
          | (refine wpList_load_mid rfl 32 (.tmp 9) rfl bk (off + k * 30) rfl (rowF x.1 x.2) _ HRG.out Tryd.underlying32 rfl HSZ.out ?_; rw [← HRE.out])
          | (refine wpList_store_row rfl 32 (.tmp 4) (.tmp 10) rfl wr.heap.size R rfl rfl _ _ (heap_alloc_new wr (.cells (zRow 0) 32)) HI.out (by rw [HR30.out]; rfl) HR1.out ?_; rw [World.setRow_alloc_new]))
        go_roundw
        case rel => exact ⟨k + 1, by omega, by go_num, HBN, Lib.hid (HNX.out.trans HB.out)⟩
        case measure => simp [intOf]; omega
      have t3 : ((kd : Int) == 3) = false := by rw [beq_eq_false_iff_ne]; omega
      by_cases h28 : kd = 28
      · have t : ((kd : Int) == 28) = true := by simp; omega
        have HB : Hid (eb = false) := by show _ = _; rw [HE.out, h28]; rfl
        clear h28
        go_wp2_with (first
          | (refine wpList_load_mid rfl 32 (.tmp 9) rfl bk (off + k * 30) rfl (rowF x.1 x.2) _ HRG.out Tryd.underlying32 rfl HSZ.out ?_; rw [← HRE.out])
          | (refine wpList_store_row rfl 32 (.tmp 4) (.tmp 10) rfl wr.heap.size R rfl rfl _ _ (heap_alloc_new wr (.cells (zRow 0) 32)) HI.out (by rw [HR30.out]; rfl) HR1.out ?_; rw [World.setRow_alloc_new]))
        go_roundw
        case rel => exact ⟨k + 1, by omega, by go_num, HBN, Lib.hid (HNX.out.trans HB.out)⟩
        case measure => simp [intOf]; omega
      have t28 : ((kd : Int) == 28) = false := by rw [beq_eq_false_iff_ne]; omega
      by_cases h29 : kd = 29
      · have t : ((kd : Int) == 29) = true := by simp; omega
        have HB : Hid (eb = false) := by show _ = _; rw [HE.out, h29]; rfl
        clear h29
        go_wp2_with (first
          | (refine wpList_load_mid rfl 32 (.tmp 9) rfl bk (off + k * 30) rfl (rowF x.1 x.2) _ HRG.out Tryd.underlying32 rfl HSZ.out ?_; rw [← HRE.out])
          | (refine wpList_store_row rfl 32 (.tmp 4) (.tmp 10) rfl wr.heap.size R rfl rfl _ _ (heap_alloc_new wr (.cells (zRow 0) 32)) HI.out (by rw [HR30.out]; rfl) HR1.out ?_; rw [World.setRow_alloc_new]))
        go_roundw
        case rel => exact ⟨k + 1, by omega, by go_num, HBN, Lib.hid (HNX.out.trans HB.out)⟩
        case measure => simp [intOf]; omega
      have t29 : ((kd : Int) == 29) = false := by rw [beq_eq_false_iff_ne]; omega
      have HB : Hid (eb = true) := by show _ = _; rw [HE.out]; simp [h0, h2, h3, h28, h29]
      have HA : Hid (l.any (fun x => elicB x.1.kind) = true) := by
        show _ = _
        rw [← List.take_append_drop (k + 1) l, List.any_append, HNX.out, HB.out]
        rfl
      clear h0 h2 h3 h28 h29
      go_wp2_with (first
        | (refine wpList_load_mid rfl 32 (.tmp 9) rfl bk (off + k * 30) rfl (rowF x.1 x.2) _ HRG.out Tryd.underlying32 rfl HSZ.out ?_; rw [← HRE.out])
        | (refine wpList_store_row rfl 32 (.tmp 4) (.tmp 10) rfl wr.heap.size R rfl rfl _ _ (heap_alloc_new wr (.cells (zRow 0) 32)) HI.out (by rw [HR30.out]; rfl) HR1.out ?_; rw [World.setRow_alloc_new]))
      go_ret
      exact ⟨by rw [HA.out]; rfl, HBN.out⟩
    · obtain rfl : k = len := by omega
      have HA : Hid (l.any (fun x => elicB x.1.kind) = false) := by
        have := hno.out
        rwa [List.take_of_length_le (by rw [HL.out]; exact Nat.le_refl _)] at this
      go_wp2
      go_ret
      exact ⟨by rw [HA.out]; rfl, hbel.out⟩
end

section
open Go.RowKit
set_option linter.unusedVariables false

/-- Whether frames of the kind may be in packets of the space. -/
def allowedB (s k : Nat) : Bool := if s = 2 then bt (partsN k) 1 else if s < 2 then decide (k = 0 ∨ k = 1 ∨ k = 2 ∨ k = 3 ∨ k = 6 ∨ k = 28) else false

set_option maxRecDepth 10000 in
set_option maxHeartbeats 2000000 in
theorem allowed_any (s k : Nat) (w : World) (hT : PT w) :
    Calls Tryd.prog 14 #[.int .u8 (s : Int), .int .u64 (k : Int)] w fun e w' => e = .returned (.bool (allowedB s k)) ∧ w = w' := by
  have HP := Lib.hid (partsOf_any k w hT)
  have HA : Hid (allowedB s k = if s = 2 then bt (partsN k) 1 else if s < 2 then decide (k = 0 ∨ k = 1 ∨ k = 2 ∨ k = 3 ∨ k = 6 ∨ k = 28) else false) := rfl
  clear hT
  generalize allowedB s k = q at *
  by_cases h2 : s = 2
  · have s2 : ((s : Int) == 2) = true := by simp; omega
    have hbt : (bits .and .u16 (partsN k : Int) 1 != 0) = bt (partsN k) 1 := rfl
    have HQ : Hid (q = bt (partsN k) 1) := HA.out.trans (if_pos h2)
    clear h2
    go_enter Tryd.func14, Tryd.ntmps14
    go_wp2_with fail
    refine HP.out.mono ?_
    rintro e w' ⟨rfl, rfl⟩
    go_wp2
    go_ret
    exact ⟨by rw [HQ.out]; rfl, rfl⟩
  · have s2 : ((s : Int) == 2) = false := by rw [beq_eq_false_iff_ne]; omega
    by_cases hlt : s < 2
    · have HQ : Hid (q = decide (k = 0 ∨ k = 1 ∨ k = 2 ∨ k = 3 ∨ k = 6 ∨ k = 28)) := HA.out.trans ((if_neg h2).trans (if_pos hlt))
      have hs : s = 0 ∨ s = 1 := by omega
      clear h2 hlt
      rcases hs with hs | hs
      · have s0 : ((s : Int) == 0) = true := by simp; omega
        have s1 : ((s : Int) == 1) = false := by rw [beq_eq_false_iff_ne]; omega
        clear hs
        by_cases h0 : k = 0
        · have t : ((k : Int) == 0) = true := by simp; omega
          have HK : Hid (q = true) := HQ.out.trans (decide_eq_true (by omega))
          clear h0
          go_enter Tryd.func14, Tryd.ntmps14
          go_wp2
          go_ret
          exact ⟨by rw [HK.out]; rfl, rfl⟩
        have t0 : ((k : Int) == 0) = false := by rw [beq_eq_false_iff_ne]; omega
        by_cases h1 : k = 1
        · have t : ((k : Int) == 1) = true := by simp; omega
          have HK : Hid (q = true) := HQ.out.trans (decide_eq_true (by omega))
          clear h1
          go_enter Tryd.func14, Tryd.ntmps14
          go_wp2
          go_ret
          exact ⟨by rw [HK.out]; rfl, rfl⟩
        have t1 : ((k : Int) == 1) = false := by rw [beq_eq_false_iff_ne]; omega
        by_cases h2 : k = 2
        · have t : ((k : Int) == 2) = true := by simp; omega
          have HK : Hid (q = true) := HQ.out.trans (decide_eq_true (by omega))
          clear h2
          go_enter Tryd.func14, Tryd.ntmps14
          go_wp2
          go_ret
          exact ⟨by rw [HK.out]; rfl, rfl⟩
        have t2 : ((k : Int) == 2) = false := by rw [beq_eq_false_iff_ne]; omega
        by_cases h3 : k = 3
        · have t : ((k : Int) == 3) = true := by simp; omega
          have HK : Hid (q = true) := HQ.out.trans (decide_eq_true (by omega))
          clear h3
          go_enter Tryd.func14, Tryd.ntmps14
          go_wp2
          go_ret
          exact ⟨by rw [HK.out]; rfl, rfl⟩
        have t3 : ((k : Int) == 3) = false := by rw [beq_eq_false_iff_ne]; omega
        by_cases h6 : k = 6
        · have t : ((k : Int) == 6) = true := by simp; omega
          have HK : Hid (q = true) := HQ.out.trans (decide_eq_true (by omega))
          clear h6
          go_enter Tryd.func14, Tryd.ntmps14
          go_wp2
          go_ret
          exact ⟨by rw [HK.out]; rfl, rfl⟩
        have t6 : ((k : Int) == 6) = false := by rw [beq_eq_false_iff_ne]; omega
        by_cases h28 : k = 28
        · have t : ((k : Int) == 28) = true := by simp; omega
          have HK : Hid (q = true) := HQ.out.trans (decide_eq_true (by omega))
          clear h28
          go_enter Tryd.func14, Tryd.ntmps14
          go_wp2
          go_ret
          exact ⟨by rw [HK.out]; rfl, rfl⟩
        have t28 : ((k : Int) == 28) = false := by rw [beq_eq_false_iff_ne]; omega
        have HK : Hid (q = false) := HQ.out.trans (decide_eq_false (by omega))
        clear h0 h1 h2 h3 h6 h28
        go_enter Tryd.func14, Tryd.ntmps14
        go_wp2
        go_ret
        exact ⟨by rw [HK.out]; rfl, rfl⟩
      · have s0 : ((s : Int) == 0) = false := by rw [beq_eq_false_iff_ne]; omega
        have s1 : ((s : Int) == 1) = true := by simp; omega
        clear hs
        by_cases h0 : k = 0
        · have t : ((k : Int) == 0) = true := by simp; omega
          have HK : Hid (q = true) := HQ.out.trans (decide_eq_true (by omega))
          clear h0
          go_enter Tryd.func14, Tryd.ntmps14
          go_wp2
          go_ret
          exact ⟨by rw [HK.out]; rfl, rfl⟩
        have t0 : ((k : Int) == 0) = false := by rw [beq_eq_false_iff_ne]; omega
        by_cases h1 : k = 1
        · have t : ((k : Int) == 1) = true := by simp; omega
          have HK : Hid (q = true) := HQ.out.trans (decide_eq_true (by omega))
          clear h1
          go_enter Tryd.func14, Tryd.ntmps14
          go_wp2
          go_ret
          exact ⟨by rw [HK.out]; rfl, rfl⟩
        have t1 : ((k : Int) == 1) = false := by rw [beq_eq_false_iff_ne]; omega
        by_cases h2 : k = 2
        · have t : ((k : Int) == 2) = true := by simp; omega
          have HK : Hid (q = true) := HQ.out.trans (decide_eq_true (by omega))
          clear h2
          go_enter Tryd.func14, Tryd.ntmps14
          go_wp2
          go_ret
          exact ⟨by rw [HK.out]; rfl, rfl⟩
        have t2 : ((k : Int) == 2) = false := by rw [beq_eq_false_iff_ne]; omega
        by_cases h3 : k = 3
        · have t : ((k : Int) == 3) = true := by simp; omega
          have HK : Hid (q = true) := HQ.out.trans (decide_eq_true (by omega))
          clear h3
          go_enter Tryd.func14, Tryd.ntmps14
          go_wp2
          go_ret
          exact ⟨by rw [HK.out]; rfl, rfl⟩
        have t3 : ((k : Int) == 3) = false := by rw [beq_eq_false_iff_ne]; omega
        by_cases h6 : k = 6
        · have t : ((k : Int) == 6) = true := by simp; omega
          have HK : Hid (q = true) := HQ.out.trans (decide_eq_true (by omega))
          clear h6
          go_enter Tryd.func14, Tryd.ntmps14
          go_wp2
          go_ret
          exact ⟨by rw [HK.out]; rfl, rfl⟩
        have t6 : ((k : Int) == 6) = false := by rw [beq_eq_false_iff_ne]; omega
        by_cases h28 : k = 28
        · have t : ((k : Int) == 28) = true := by simp; omega
          have HK : Hid (q = true) := HQ.out.trans (decide_eq_true (by omega))
          clear h28
          go_enter Tryd.func14, Tryd.ntmps14
          go_wp2
          go_ret
          exact ⟨by rw [HK.out]; rfl, rfl⟩
        have t28 : ((k : Int) == 28) = false := by rw [beq_eq_false_iff_ne]; omega
        have HK : Hid (q = false) := HQ.out.trans (decide_eq_false (by omega))
        clear h0 h1 h2 h3 h6 h28
        go_enter Tryd.func14, Tryd.ntmps14
        go_wp2
        go_ret
        exact ⟨by rw [HK.out]; rfl, rfl⟩
    · have s0 : ((s : Int) == 0) = false := by rw [beq_eq_false_iff_ne]; omega
      have s1 : ((s : Int) == 1) = false := by rw [beq_eq_false_iff_ne]; omega
      have HQ : Hid (q = false) := HA.out.trans ((if_neg h2).trans (if_neg hlt))
      clear h2 hlt
      go_enter Tryd.func14, Tryd.ntmps14
      go_wp2
      go_ret
      exact ⟨by rw [HQ.out]; rfl, rfl⟩
end

section
open Go.RowKit
set_option linter.unusedVariables false

def wtF (f : PF) : Nat := 1 + (f.acks.length + (f.data.length + f.cid.length) / 16) + (if 64 < f.n then f.n % 4000000 / 64 else 0)
def greatN (n : Nat) : List (PF × SA) → Nat
  | [] => n
  | x :: t => if n ≤ 4000 then greatN (n + wtF x.1) t else n

set_option maxRecDepth 100000 in
set_option maxHeartbeats 4000000 in
theorem great_any (A2 : Option Addr) (len c2 : Nat) (l : List (PF × SA)) (w : World) (B : Nat) (hl : l.length = len) (hf : Sf w B A2 l) (hB : B ≤ w.heap.size) (hlen : len ≤ 140737488355328) :
    Calls Tryd.prog 7 #[.slice A2 len c2] w fun e w' => e = .returned (.bool (decide (4000 < greatN 0 l))) ∧ Below w.heap.size w w' := by
  have HL := Lib.hid hl
  have HF := Lib.hid hf
  clear hl hf
  go_enter Tryd.func7, Tryd.ntmps7
  go_wp2
  go_loopw [3, 4] (fun vn i wr => ∃ (k N : Nat), k ≤ len ∧ i = .int .i64 k ∧ vn = .int .u64 (N : Int) ∧ N ≤ 1125899906842624 ∧ Hid (greatN 0 l = greatN N (l.drop k)) ∧ Hid (Below w.heap.size w wr)) (fun _ i _ => len - (intOf i).toNat)
  case atStart => exact ⟨0, 0, Nat.zero_le _, rfl, rfl, Nat.zero_le _, Lib.hid rfl, Lib.hid (Below.refl _ _)⟩
  case round =>
    obtain ⟨k, N, hk, rfl, rfl, hN, hg, hbel⟩ := hrel
    by_cases hlt : k < len
    · have d1 : decide ((k : Int) < (len : Int)) = true := decide_eq_true (by omega)
      obtain ⟨x, hx⟩ : ∃ x, l[k]? = some x := ⟨_, List.getElem?_eq_getElem (by rw [HL.out]; exact hlt)⟩
      have hdrop : l.drop k = x :: l.drop (k + 1) := by
        rw [List.drop_eq_getElem_cons (by rw [HL.out]; exact hlt)]
        congr 1
        rw [List.getElem?_eq_getElem (by rw [HL.out]; exact hlt)] at hx
        exact Option.some.inj hx
      have hg2 : greatN 0 l = if N ≤ 4000 then greatN (N + wtF x.1) (l.drop (k + 1)) else N := by rw [hg.out, hdrop]; rfl
      by_cases hle : N ≤ 4000
      · have d2 : decide ((N : Int) ≤ 4000) = true := decide_eq_true (by omega)
        have HG : Hid (greatN 0 l = greatN (N + wtF x.1) (l.drop (k + 1))) := hg2.trans (if_pos hle)
        obtain ⟨bk, off, rfl, hbk, hc⟩ := HF.out (by rintro rfl; simp at hx)
        have hrg : wr.rangeAt bk (off + k * 30) (rowF x.1 x.2) := fun j v hv => (hbel.out.cell (p := ⟨bk, off + k * 30 + j, none⟩) (by show bk < _; omega)).trans ((hc k x hx).1 j v hv)
        have hfr := (hc k x hx).2
        have hri := rowF_is (f := x.1) x.2 hfr.tok
        have c25 := hrg 25 _ (by have := hri.acks; rwa [List.getElem?_toArray] at this)
        have c7 := hrg 7 _ (by have := hri.data; rwa [List.getElem?_toArray] at this)
        have c8 := hrg 8 _ (by have := hri.cid; rwa [List.getElem?_toArray] at this)
        have c5 := hrg 5 _ (by have := hri.n; rwa [List.getElem?_toArray] at this)
        have b1 := hfr.al
        have b2 := hfr.dl
        have b3 := hfr.cl
        have b4 : x.1.n < 18446744073709551616 := hfr.nums.2.2.2.2.2.1
        have hw : wtF x.1 = 1 + (x.1.acks.length + (x.1.data.length + x.1.cid.length) / 16) + (if 64 < x.1.n then x.1.n % 4000000 / 64 else 0) := rfl
        clear hg hg2 hdrop hc hx hrg hfr hri
        generalize x.1.acks.length = an at *
        generalize x.1.data.length = dn at *
        generalize x.1.cid.length = cn at *
        generalize x.1.n = nn at *
        generalize wtF x.1 = wt at *
        by_cases h64 : 64 < nn
        · rw [if_pos h64] at hw
          have HW := Lib.hid hw
          have hwb : wt ≤ 562949953421312 := by omega
          clear hw
          have z1 : IntKind.u64.wrap ((N : Int) + 1) = (N : Int) + 1 := IntWalk.u64_in _ (by omega)
          have z2 : IntKind.i64.wrap ((dn : Int) + (cn : Int)) = (dn : Int) + (cn : Int) := IntWalk.i64_in _ (by omega)
          go_wp2
          go_quiet (fail)
          go_wp2
          go_roundw
          case rel => exact ⟨k + 1, N + wt, by omega, by go_num, by have := HW.out; congr 1; omega, by omega, HG, Lib.hid (below_drewN hbel.out _)⟩
          case measure => simp [intOf]; omega
        · rw [if_neg h64] at hw
          have HW := Lib.hid hw
          have hwb : wt ≤ 562949953421312 := by omega
          clear hw
          have z1 : IntKind.u64.wrap ((N : Int) + 1) = (N : Int) + 1 := IntWalk.u64_in _ (by omega)
          have z2 : IntKind.i64.wrap ((dn : Int) + (cn : Int)) = (dn : Int) + (cn : Int) := IntWalk.i64_in _ (by omega)
          go_wp2
          go_quiet (fail)
          go_wp2
          go_roundw
          case rel => exact ⟨k + 1, N + wt, by omega, by go_num, by have := HW.out; congr 1; omega, by omega, HG, Lib.hid (below_drewN hbel.out _)⟩
          case measure => simp [intOf]; omega
      · have d2 : decide ((N : Int) ≤ 4000) = false := decide_eq_false (by omega)
        have HG : Hid (greatN 0 l = N) := hg2.trans (if_neg hle)
        have d3 : decide ((N : Int) > 4000) = true := decide_eq_true (by omega)
        have HQ : Hid (decide (4000 < greatN 0 l) = true) := decide_eq_true (by rw [HG.out]; omega)
        clear hg hg2 hdrop hx
        go_wp2
        go_ret
        exact ⟨by rw [HQ.out]; rfl, hbel.out⟩
    · obtain rfl : k = len := by omega
      have d1 : decide ((k : Int) < (k : Int)) = false := decide_eq_false (by omega)
      have HG : Hid (greatN 0 l = N) := hg.out.trans (by rw [List.drop_of_length_le (by rw [HL.out]; exact Nat.le_refl _)]; rfl)
      clear hg
      by_cases h4 : 4000 < N
      · have d3 : decide ((N : Int) > 4000) = true := decide_eq_true (by omega)
        have HQ : Hid (decide (4000 < greatN 0 l) = true) := decide_eq_true (by rw [HG.out]; omega)
        go_wp2
        go_ret
        exact ⟨by rw [HQ.out]; rfl, hbel.out⟩
      · have d3 : decide ((N : Int) > 4000) = false := decide_eq_false (by omega)
        have HQ : Hid (decide (4000 < greatN 0 l) = false) := decide_eq_false (by rw [HG.out]; omega)
        go_wp2
        go_ret
        exact ⟨by rw [HQ.out]; rfl, hbel.out⟩
end

end Go.Proofs.YtkkojhkglcigmaaDoor
