/-
  The numbers of a frame that may be are varints. No walk.
-/
import Derived.Test.YtkkojhkglcigmaaDoorFSize
namespace Go.Proofs.YtkkojhkglcigmaaDoor
open Go.RowKit
set_option linter.unusedVariables false

def Sm (l : List Nat) : Prop := ∀ n ∈ l, n ≤ 4611686018427387903

theorem Sm.app {l m : List Nat} (h : Sm l) (k : Sm m) : Sm (l ++ m) := fun n hn => by
  rcases List.mem_append.1 hn with hn | hn
  · exact h n hn
  · exact k n hn
theorem Sm.one {n : Nat} (h : n ≤ 4611686018427387903) : Sm [n] := fun m hm => by
  simp at hm
  omega
theorem Sm.pn {f : PF} {k : Nat} {l : List Nat} (h : bt (wireP f) k = true → Sm l) : Sm (pn f k l) := by
  unfold Proofs.YtkkojhkglcigmaaDoor.pn
  split
  · next h1 => exact h h1
  · exact fun n hn => by simp at hn
theorem Sm.may {l : List Nat} (h : Sm l) : May l := fun i n hn => h n (List.mem_of_getElem? hn)

theorem low_small {l : List (Nat × Nat)} (h : OkR l) : ∀ k, k < l.length → Sm (lowNums l k)
  | 0, _ => fun n hn => by simp [lowNums] at hn
  | k + 1, hk => by
    obtain ⟨x, hx⟩ : ∃ x, l[k]? = some x := ⟨_, List.getElem?_eq_getElem (by omega)⟩
    obtain ⟨y, hy⟩ : ∃ y, l[k + 1]? = some y := ⟨_, List.getElem?_eq_getElem hk⟩
    have ox := h k x hx
    have oy := h (k + 1) y hy
    have g1 := ox.2.1
    have g2 := oy.1
    have g3 := oy.2.1
    unfold lowNums
    rw [show l.getD (k + 1) (0, 0) = y by simp [List.getD, hy], show l.getD k (0, 0) = x by simp [List.getD, hx]]
    refine Sm.app (fun n hn => ?_) (low_small h k (by omega))
    simp at hn
    omega

theorem ack_small {f : PF} (h : OkR f.acks) (hne : f.acks ≠ []) (hl : f.acks.length ≤ 65536) (hd : f.delay ≤ 4611686018427387903) : Sm (ackNums f) := by
  have hp := List.length_pos_iff.2 hne
  obtain ⟨x, hx⟩ : ∃ x, f.acks[f.acks.length - 1]? = some x := ⟨_, List.getElem?_eq_getElem (by omega)⟩
  have ox := h _ x hx
  have g1 := ox.2.1
  unfold ackNums
  simp only []
  rw [show f.acks.getD (f.acks.length - 1) (0, 0) = x by simp [List.getD, hx]]
  refine Sm.app (fun n hn => ?_) (low_small h _ (by omega))
  simp at hn
  omega

theorem nums_small {f : PF} (h : MayF f) (hl : f.acks.length ≤ 65536) (hc : f.cid.length ≤ 140737488355328) : Sm (numsN f) := by
  have hn := h.2.2.1
  unfold numsB at hn
  rw [Bool.and_eq_true, decide_eq_true_eq, decide_eq_true_eq] at hn
  have ht := hn.1
  unfold topN at ht
  have hk : f.kind < 31 := by
    have := h.1
    by_cases hk : f.kind < 31
    · exact hk
    · rw [partsN_big (by omega)] at this
      exact absurd this (by decide)
  have hw : wireN f ≤ 31 := by
    unfold wireN
    split
    · split <;> split <;> omega
    · omega
  unfold numsN
  refine (((((((Sm.app (Sm.one (by omega)) (Sm.pn fun _ => Sm.one (by omega))).app (Sm.pn fun _ => Sm.one (by omega))).app (Sm.pn fun _ => Sm.one (by omega))).app (Sm.pn fun _ => Sm.one (by omega))).app (Sm.pn fun hb => ?_)).app (Sm.pn fun _ => ?_)).app (Sm.pn fun _ => Sm.one (by omega))).app (Sm.pn fun _ => Sm.one (by omega))
  · have := may_acks h hl hb
    exact ack_small this.2.1 this.1 hl (by omega)
  · exact ((Sm.one (n := f.e0) (by omega)).app (Sm.one (n := f.e1) (by omega))).app (Sm.one (n := f.e2) (by omega))

theorem numsN_len2 {f : PF} (hl : f.acks.length ≤ 4000) : (numsN f).length ≤ 8020 := by
  have h1 := pn_len f 2 1 [f.id] (by simp)
  have h2 := pn_len f 4 1 [f.off] (by simp)
  have h3 := pn_len f 8 1 [f.code] (by simp)
  have h4 := pn_len f 16 1 [f.max] (by simp)
  have h5 := pn_len f 128 8004 (ackNums f) (by rw [ackNums_len]; omega)
  have h6 := pn_len f 256 3 [f.e0, f.e1, f.e2] (by simp)
  have h7 := pn_len f 512 1 [f.data.length] (by simp)
  have h8 := pn_len f 2048 1 [f.cid.length] (by simp)
  unfold numsN
  simp only [List.length_append, List.length_singleton]
  omega

end Go.Proofs.YtkkojhkglcigmaaDoor
