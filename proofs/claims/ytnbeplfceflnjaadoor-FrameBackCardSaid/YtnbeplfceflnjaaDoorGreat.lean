/-
  The walk through hostlerref02.Great.
-/
import Derived.Test.YtnbeplfceflnjaaDoorFApp
namespace Go.Proofs.YtnbeplfceflnjaaDoor
open Go.RowKit
set_option linter.unusedVariables false

def wtF (f : PF) : Nat := 1 + (f.acks.length + (f.data.length + f.cid.length) / 16) + (if 64 < f.n then f.n % 4000000 / 64 else 0)
def greatN (n : Nat) : List (PF × SA) → Nat
  | [] => n
  | x :: t => if n ≤ 4000 then greatN (n + wtF x.1) t else n

set_option maxRecDepth 100000 in
set_option maxHeartbeats 4000000 in
theorem great_any (A2 : Option Addr) (len c2 : Nat) (l : List (PF × SA)) (w : World) (B : Nat) (hl : l.length = len) (hf : Sf w B A2 l) (hB : B ≤ w.heap.size) (hlen : len ≤ 140737488355328) :
    Calls Tryd.prog 7 #[.slice A2 len c2] w fun e w' => e = .returned (.bool (decide (4000 < greatN 0 l))) ∧ Below w.heap.size w w' := by
  have HL := Lib.hid hl
  have HF := Lib.hid hf
  clear hl hf
  go_enter Tryd.func7, Tryd.ntmps7
  go_wp2
  go_loopw [3, 4] (fun vn i wr => ∃ (k N : Nat), k ≤ len ∧ i = .int .i64 k ∧ vn = .int .u64 (N : Int) ∧ N ≤ 1125899906842624 ∧ Hid (greatN 0 l = greatN N (l.drop k)) ∧ Hid (Below w.heap.size w wr)) (fun _ i _ => len - (intOf i).toNat)
  case atStart => exact ⟨0, 0, Nat.zero_le _, rfl, rfl, Nat.zero_le _, Lib.hid rfl, Lib.hid (Below.refl _ _)⟩
  case round =>
    obtain ⟨k, N, hk, rfl, rfl, hN, hg, hbel⟩ := hrel
    by_cases hlt : k < len
    · have d1 : decide ((k : Int) < (len : Int)) = true := decide_eq_true (by omega)
      obtain ⟨x, hx⟩ : ∃ x, l[k]? = some x := ⟨_, List.getElem?_eq_getElem (by rw [HL.out]; exact hlt)⟩
      have hdrop : l.drop k = x :: l.drop (k + 1) := by
        rw [List.drop_eq_getElem_cons (by rw [HL.out]; exact hlt)]
        congr 1
        rw [List.getElem?_eq_getElem (by rw [HL.out]; exact hlt)] at hx
        exact Option.some.inj hx
      have hg2 : greatN 0 l = if N ≤ 4000 then greatN (N + wtF x.1) (l.drop (k + 1)) else N := by rw [hg.out, hdrop]; rfl
      by_cases hle : N ≤ 4000
      · have d2 : decide ((N : Int) ≤ 4000) = true := decide_eq_true (by omega)
        have HG : Hid (greatN 0 l = greatN (N + wtF x.1) (l.drop (k + 1))) := hg2.trans (if_pos hle)
        obtain ⟨bk, off, rfl, hbk, hc⟩ := HF.out (by rintro rfl; simp at hx)
        have hrg : wr.rangeAt bk (off + k * 30) (rowF x.1 x.2) := fun j v hv => (hbel.out.cell (p := ⟨bk, off + k * 30 + j, none⟩) (by show bk < _; omega)).trans ((hc k x hx).1 j v hv)
        have hfr := (hc k x hx).2
        have hri := rowF_is (f := x.1) x.2 hfr.tok
        have c25 := hrg 25 _ (by have := hri.acks; rwa [List.getElem?_toArray] at this)
        have c7 := hrg 7 _ (by have := hri.data; rwa [List.getElem?_toArray] at this)
        have c8 := hrg 8 _ (by have := hri.cid; rwa [List.getElem?_toArray] at this)
        have c5 := hrg 5 _ (by have := hri.n; rwa [List.getElem?_toArray] at this)
        have b1 := hfr.al
        have b2 := hfr.dl
        have b3 := hfr.cl
        have b4 : x.1.n < 18446744073709551616 := hfr.nums.2.2.2.2.2.1
        have hw : wtF x.1 = 1 + (x.1.acks.length + (x.1.data.length + x.1.cid.length) / 16) + (if 64 < x.1.n then x.1.n % 4000000 / 64 else 0) := rfl
        clear hg hg2 hdrop hc hx hrg hfr hri
        generalize x.1.acks.length = an at *
        generalize x.1.data.length = dn at *
        generalize x.1.cid.length = cn at *
        generalize x.1.n = nn at *
        generalize wtF x.1 = wt at *
        by_cases h64 : 64 < nn
        · rw [if_pos h64] at hw
          have HW := Lib.hid hw
          have hwb : wt ≤ 562949953421312 := by omega
          clear hw
          have z1 : IntKind.u64.wrap ((N : Int) + 1) = (N : Int) + 1 := IntWalk.u64_in _ (by omega)
          have z2 : IntKind.i64.wrap ((dn : Int) + (cn : Int)) = (dn : Int) + (cn : Int) := IntWalk.i64_in _ (by omega)
          go_wp2
          go_quiet (fail)
          go_wp2
          go_roundw
          case rel => exact ⟨k + 1, N + wt, by omega, by go_num, by have := HW.out; congr 1; omega, by omega, HG, Lib.hid (below_drewN hbel.out _)⟩
          case measure => simp [intOf]; omega
        · rw [if_neg h64] at hw
          have HW := Lib.hid hw
          have hwb : wt ≤ 562949953421312 := by omega
          clear hw
          have z1 : IntKind.u64.wrap ((N : Int) + 1) = (N : Int) + 1 := IntWalk.u64_in _ (by omega)
          have z2 : IntKind.i64.wrap ((dn : Int) + (cn : Int)) = (dn : Int) + (cn : Int) := IntWalk.i64_in _ (by omega)
          go_wp2
          go_quiet (fail)
          go_wp2
          go_roundw
          case rel => exact ⟨k + 1, N + wt, by omega, by go_num, by have := HW.out; congr 1; omega, by omega, HG, Lib.hid (below_drewN hbel.out _)⟩
          case measure => simp [intOf]; omega
      · have d2 : decide ((N : Int) ≤ 4000) = false := decide_eq_false (by omega)
        have HG : Hid (greatN 0 l = N) := hg2.trans (if_neg hle)
        have d3 : decide ((N : Int) > 4000) = true := decide_eq_true (by omega)
        have HQ : Hid (decide (4000 < greatN 0 l) = true) := decide_eq_true (by rw [HG.out]; omega)
        clear hg hg2 hdrop hx
        go_wp2
        go_ret
        exact ⟨by rw [HQ.out]; rfl, hbel.out⟩
    · obtain rfl : k = len := by omega
      have d1 : decide ((k : Int) < (k : Int)) = false := decide_eq_false (by omega)
      have HG : Hid (greatN 0 l = N) := hg.out.trans (by rw [List.drop_of_length_le (by rw [HL.out]; exact Nat.le_refl _)]; rfl)
      clear hg
      by_cases h4 : 4000 < N
      · have d3 : decide ((N : Int) > 4000) = true := decide_eq_true (by omega)
        have HQ : Hid (decide (4000 < greatN 0 l) = true) := decide_eq_true (by rw [HG.out]; omega)
        go_wp2
        go_ret
        exact ⟨by rw [HQ.out]; rfl, hbel.out⟩
      · have d3 : decide ((N : Int) > 4000) = false := decide_eq_false (by omega)
        have HQ : Hid (decide (4000 < greatN 0 l) = false) := decide_eq_false (by rw [HG.out]; omega)
        go_wp2
        go_ret
        exact ⟨by rw [HQ.out]; rfl, hbel.out⟩

end Go.Proofs.YtnbeplfceflnjaaDoor
