/-
  The walk through span.Has.
-/
import Derived.Test.YtaemfoelhijbjaaSpCount
namespace Go.Proofs.Ytaemfoelhijbjaa
open Go.RowKit
set_option linter.unusedVariables false

/-- A bool told, all that lay below as it was. -/
def Says (b : Bool) (w : World) (e : Ending) (w' : World) : Prop := e = .returned (.bool b) ∧ Below w.heap.size w w'

theorem all_step {f : Nat → Bool} {ns : List Nat} {k x : Nat} (hx : ns[k]? = some x) (h : (ns.take k).all f = true) (hf : f x = true) : (ns.take (k + 1)).all f = true := by
  rw [List.take_add_one, hx, List.all_append, h]
  simp [hf]
theorem all_fails {f : Nat → Bool} {ns : List Nat} {k x : Nat} (hx : ns[k]? = some x) (hf : f x = false) : ns.all f = false := by
  rw [List.all_eq_false]
  exact ⟨x, List.mem_of_getElem? hx, by simp [hf]⟩

set_option maxRecDepth 10000 in
set_option maxHeartbeats 1000000 in
theorem has_any (w : World) (B : Nat) (A A2 : Option Addr) (n c m c2 : Nat) (l : List (Nat × Nat)) (ns : List Nat) (h : Hands w B A n c l) (hB : B ≤ w.heap.size) (hs2 : Sv w w.heap.size A2 (ns.map cell64)) (hm : ns.length = m) (hfew : m ≤ 1000000) :
    Calls Try.prog 12 #[.slice A n c, .slice A2 m c2] w (Says (ns.all (inB l)) w) := by
  have HN := Lib.hid (neatOf_any A n c l w B h.len (by have := h.few; omega) h.reads hB h.cap h.top h.fit)
  have hlf : l.length ≤ 1000000 := by rw [h.len]; exact h.few
  have HS2 := Lib.hid hs2
  have HM := Lib.hid hm
  clear h hs2 hm
  go_enter Try.func12, Try.ntmps12
  go_wp2_with fail
  refine HN.out.mono ?_
  rintro e w1 ⟨A', c', nl, rfl, hc', hm', hs, hnl, hfl, hin, hlen, hb1⟩
  have HNL := Lib.hid hnl
  have HI : Hid (inB nl = inB l) := Lib.hid (funext hin)
  have HB1 := Lib.hid hb1
  have HS := Lib.hid hs.rs
  have hb1s := hb1.size
  obtain ⟨len, hln⟩ : ∃ len, len = nl.length := ⟨_, rfl⟩
  rw [← hln] at hc' hlen ⊢
  have HLN := Lib.hid hln
  clear hnl hfl hin hb1 hs hln HN hm'
  go_wp2
  go_loopw [13] (fun s13 wr => ∃ (k : Nat), k ≤ m ∧ s13 = .int .i64 k ∧ Hid ((ns.take k).all (inB nl) = true) ∧ Hid (Below w1.heap.size w1 wr)) (fun s13 _ => m - (intOf s13).toNat)
  case atStart => exact ⟨0, Nat.zero_le _, rfl, Lib.hid (by simp), Lib.hid (Below.refl _ _)⟩
  case round =>
    obtain ⟨k, hk, rfl, hall, hbk⟩ := hrel
    by_cases hlt : k < m
    · obtain ⟨x, hx⟩ : ∃ x, ns[k]? = some x := ⟨_, List.getElem?_eq_getElem (by rw [HM.out]; exact hlt)⟩
      obtain ⟨b, off, rfl, hbl, hcc⟩ := HS2.out.at_ (by rw [List.length_map, HM.out]; omega)
      have hc0 : wr.cell? ⟨b, off + k, none⟩ = some (.int .u64 (x : Int)) := ((HB1.out.trans (hbk.out.mono hb1s)).cell (p := ⟨b, off + k, none⟩) hbl).trans (hcc k (cell64 x) (by rw [List.getElem?_map, hx]; rfl))
      have HSK := Lib.hid (seek_any wr A' len c' x nl ((HS.out.below hbk.out).mono hbk.out.size) HLN.out.symm (by omega) HNL.out)
      have HX := Lib.hid hx
      have d1 : decide (k < m) = true := decide_eq_true hlt
      have HBS := hbk.out.size
      clear hcc hx
      rcases hq : inB nl x with _ | _
      · have HQ := Lib.hid hq
        have HSK2 : Hid (Calls Try.prog 22 #[.slice A' len c', .int .u64 (x : Int), .func (.func 23) #[] #[]] wr fun e w' => ∃ i : Nat, e = .returned (.tuple #[.int .i64 (i : Int), .bool false]) ∧ Below wr.heap.size wr w') := by
          have := HSK.out
          unfold SeekTold at this
          rw [hq] at this
          exact Lib.hid this
        clear hq HSK
        go_wp2_with (go_at_call 22; refine HSK2.out.mono ?_; rintro e w2 ⟨i, rfl, hb2⟩; have HB2 := Lib.hid hb2; clear hb2)
        go_ret
        exact ⟨by rw [← HI.out, all_fails HX.out HQ.out]; rfl, (HB1.out.trans (hbk.out.mono hb1s)).trans (HB2.out.mono (Nat.le_trans hb1s HBS))⟩
      · have HQ := Lib.hid hq
        have HSK2 : Hid (Calls Try.prog 22 #[.slice A' len c', .int .u64 (x : Int), .func (.func 23) #[] #[]] wr fun e w' => ∃ i : Nat, e = .returned (.tuple #[.int .i64 (i : Int), .bool true]) ∧ Below wr.heap.size wr w') := by
          have := HSK.out
          unfold SeekTold at this
          rw [hq] at this
          exact Lib.hid this
        clear hq HSK
        go_wp2_with (go_at_call 22; refine HSK2.out.mono ?_; rintro e w2 ⟨i, rfl, hb2⟩; have HB2 := Lib.hid hb2; clear hb2)
        go_roundw
        case rel => exact ⟨k + 1, by omega, by go_num, Lib.hid (all_step HX.out hall.out HQ.out), Lib.hid (hbk.out.trans (HB2.out.mono HBS))⟩
        case measure => simp [intOf]; omega
    · obtain rfl : k = m := by omega
      have d1 : decide (k < k) = false := decide_eq_false (by omega)
      have HA : Hid (ns.all (inB l) = true) := Lib.hid (by rw [← HI.out]; have := hall.out; rwa [List.take_of_length_le (by rw [HM.out]; exact Nat.le_refl _)] at this)
      clear hall
      go_wp2
      go_ret
      exact ⟨by rw [HA.out]; rfl, HB1.out.trans (hbk.out.mono hb1s)⟩

end Go.Proofs.Ytaemfoelhijbjaa
