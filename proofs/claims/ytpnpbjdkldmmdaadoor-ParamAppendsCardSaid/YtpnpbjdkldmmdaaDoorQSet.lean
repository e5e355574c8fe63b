/-
  Transport parameters: a value told (param.set).
-/
import Derived.Test.YtpnpbjdkldmmdaaDoorQMath3
import Derived.Test.YtpnpbjdkldmmdaaDoorQTok
import Derived.Test.YtpnpbjdkldmmdaaDoorCopy
import Derived.Test.YtpnpbjdkldmmdaaDoorTake
import Derived.Deep.Cut
import Derived.BigQuiet
namespace Go.Proofs.YtpnpbjdkldmmdaaDoor
open Go.RowKit
set_option linter.unusedVariables false

theorem prC_put_num (A0 : Option Addr) (c0 : Nat) (A1 : Option Addr) (c1 : Nat) (p : PQ) (id n : Nat) (h : nIdx id ≠ 0) : (prC A0 c0 A1 c1 p).setIfInBounds (nIdx id) (.int .u64 (n : Int)) = prC A0 c0 A1 c1 (p.setNum id n) := by
  apply Array.ext'
  rcases nIdx_cases id with e | e
  · rcases e with rfl | rfl | rfl | rfl | rfl | rfl | rfl | rfl | rfl <;> simp [prC, nIdx, PQ.setNum]
  · exact absurd e.2.2.2.2.2.2.2.2.2 h
theorem prC_put_has (A0 : Option Addr) (c0 : Nat) (A1 : Option Addr) (c1 : Nat) (p : PQ) (x : Bool) : (prC A0 c0 A1 c1 p).setIfInBounds 11 (.bool x) = prC A0 c0 A1 c1 { p with has := x } := by
  apply Array.ext'
  simp [prC]
theorem prC_put_0 (A0 : Option Addr) (c0 : Nat) (A1 : Option Addr) (c1 : Nat) (p : PQ) (A : Option Addr) (c : Nat) (v : List UInt8) : (prC A0 c0 A1 c1 p).setIfInBounds 0 (.slice A v.length c) = prC A c A1 c1 { p with orig := v } := by
  apply Array.ext'
  simp [prC]
theorem prC_put_1 (A0 : Option Addr) (c0 : Nat) (A1 : Option Addr) (c1 : Nat) (p : PQ) (A : Option Addr) (c : Nat) (v : List UInt8) : (prC A0 c0 A1 c1 p).setIfInBounds 1 (.slice A v.length c) = prC A0 c0 A c { p with cid := v } := by
  apply Array.ext'
  simp [prC]
theorem prC_splice (A0 : Option Addr) (c0 : Nat) (A1 : Option Addr) (c1 : Nat) (p : PQ) (v : List UInt8) (ht : p.tok.length = 16) (hv : v.length = 16) : (splice (prC A0 c0 A1 c1 p).toList 12 (v.map cell8)).toArray = prC A0 c0 A1 c1 { p with tok := v } := by
  apply Array.ext'
  simp [prC, splice, hv, ht]

/-- What param.set tells and does: only the parameters' own block is written to. -/
def SetGave (w : World) (b : Nat) (A0 A1 : Option Addr) (p : PQ) (A : Option Addr) (v : List UInt8) (o : Option PQ) (e : Ending) (w' : World) : Prop :=
  w.grownBy w' (some b) ∧
  match o with
  | none => e = .returned (.bool false)
  | some q => e = .returned (.bool true) ∧ ∃ A0' c0' A1' c1', Wh w' b 43 (prC A0' c0' A1' c1' q) ∧ ((A0' = A0 ∧ q.orig = p.orig) ∨ (A0' = A ∧ q.orig = v)) ∧ ((A1' = A1 ∧ q.cid = p.cid) ∨ (A1' = A ∧ q.cid = v))

theorem tok_has {w : World} {b : Nat} {A0 : Option Addr} {c0 : Nat} {A1 : Option Addr} {c1 : Nat} {p : PQ} {x : Bool} {v : List UInt8} {cs : List Value} (ht : p.tok.length = 16) (hcs : (v.take 16).map cell8 = cs)
    (h : Wh w b 43 (splice (prC A0 c0 A1 c1 { p with has := x }).toList 12 cs).toArray) : w.cell? ⟨b, 11, none⟩ = some (.bool x) := by
  rw [h.cell]
  simp [prC, splice]

set_option maxRecDepth 100000 in
set_option maxHeartbeats 1600000 in
/-- The token. -/
theorem qset_tok (b lo : Nat) (A0 : Option Addr) (c0 : Nat) (A1 : Option Addr) (c1 : Nat) (p : PQ) (A : Option Addr) (len c : Nat) (v : List UInt8) (w : World) (hW : Wh w b 43 (prC A0 c0 A1 c1 p)) (ht : p.tok.length = 16)
    (hl : v.length = len) (hs : Sy w lo A (v.map cell8)) (hlo : b < lo) (hc : len ≤ c) :
    Calls Tryd.prog 39 #[.pointer (some ⟨b, 0, none⟩), .int .u64 2, .slice A len c] w (SetGave w b A0 A1 p A v (setQ p 2 v)) := by
  have e11 : w.cell? ⟨b, 11, none⟩ = some (.bool p.has) := by rw [hW.cell, prC_has]
  have f11 := hW.frozen 11
  obtain ⟨x, hx⟩ : ∃ x, p.tok[0]? = some x := ⟨_, List.getElem?_eq_getElem (by omega)⟩
  obtain ⟨t, ht16⟩ : ∃ t : Bool, ((len : Int) == 16) = t := ⟨_, rfl⟩
  have hW1 := hW.put 11 (.bool t)
  rw [prC_put_has] at hW1
  have hg1 := grown_set w b 11 (.bool t)
  have e12 : (w.setCell ⟨b, 11, none⟩ (.bool t)).cell? ⟨b, 12, none⟩ = some (cell8 x) := by rw [hW1.cell, show (12 : Nat) = 12 + 0 from rfl, prC_tok, hx]; rfl
  have hs1 : Sy (w.setCell ⟨b, 11, none⟩ (.bool t)) lo A (v.map cell8) := hs.grown hg1 (fun g hg => by obtain rfl := Option.some.inj hg; exact hlo)
  have hsrc : 0 < ((v.take 16).map cell8).length → (some ⟨b, 12, none⟩ : Option Addr) = some ⟨b, 12, none⟩ ∧ ∃ ad, A = some ad ∧ ∀ j u, ((v.take 16).map cell8)[j]? = some u → (w.setCell ⟨b, 11, none⟩ (.bool t)).cell? (ad.add j) = some u := by
    intro hpos
    refine ⟨rfl, ?_⟩
    obtain ⟨g, off, rfl, _, _, hcell⟩ := hs1 (by rintro h; rw [List.map_eq_nil_iff] at h; subst h; simp at hpos)
    refine ⟨_, rfl, fun j u hu => ?_⟩
    rw [List.map_take, List.getElem?_take] at hu
    split at hu
    · rw [Addr.add_lit]; exact hcell j u hu
    · cases hu
  have HSRC := Lib.hid hsrc
  have hcn : ((v.take 16).map cell8).length = Nat.min len 16 := by
    rw [List.length_map, List.length_take, hl]
    exact Nat.min_comm 16 len
  have HCN := Lib.hid hcn
  have HFIT : Hid (12 + ((v.take 16).map cell8).length ≤ (prC A0 c0 A1 c1 { p with has := t }).size) := by
    show _ ≤ _
    rw [prC_size, hcn]
    have : Nat.min len 16 ≤ 16 := Nat.min_le_right _ _
    show 12 + _ ≤ 12 + p.tok.length
    omega
  have HV := Lib.hid hl
  have HT := Lib.hid ht
  have HG1 := Lib.hid hg1
  have HW1 := Lib.hid hW1
  have HT16 := Lib.hid ht16
  have h1c : Hid (∀ u ∈ (v.take 16).map cell8, u.oneCell' = true) := Lib.hid (cell8_one _)
  clear hW ht hl hs hlo hx hg1 hW1 hs1 hsrc hcn
  generalize hcs : (v.take 16).map cell8 = cs at *
  have HCS := Lib.hid hcs
  clear hcs
  go_enter Tryd.func39, Tryd.ntmps39
  go_upto_region 3 with fail
  clear e11 f11
  generalize w.setCell ⟨b, 11, none⟩ (.bool t) = w1 at *
  go_wp2_with ((with_reducible show wpList _ _ _ _ _ _); refine wpList_copy_grown rfl (.tmp 23) (.tmp 24) 22 22 rfl 5 Tryd.underlying22 (by kernel_rfl) (some ⟨b, 12, none⟩) A 16 16 len c rfl rfl b 12 _ _ HW1.out cs HCN.out HSRC.out HFIT.out h1c.out ?_; intro w2 hW2 hg2; have e11 : w2.cell? ⟨b, 11, none⟩ = some (.bool t) := tok_has HT.out HCS.out hW2)
  go_ret
  refine ⟨grown_trans HG1.out hg2, ?_⟩
  have ht := HT16.out
  unfold setQ
  rw [if_pos rfl]
  cases t
  · have hne : ¬ v.length = 16 := by
      rw [beq_eq_false_iff_ne] at ht
      have := HV.out
      omega
    rw [if_neg hne]
    rfl
  · have he : v.length = 16 := by
      have h := eq_of_beq ht
      have := HV.out
      omega
    rw [if_pos he]
    refine ⟨rfl, A0, c0, A1, c1, ?_, .inl ⟨rfl, rfl⟩, .inl ⟨rfl, rfl⟩⟩
    have hc16 : cs = v.map cell8 := by rw [← HCS.out, List.take_of_length_le (by omega)]
    have hsp := prC_splice A0 c0 A1 c1 { p with has := true } v HT.out he
    rw [hc16, hsp] at hW2
    exact hW2


theorem setQ_num {p : PQ} {id : Nat} {v : List UInt8} (h : nIdx id ≠ 0) : setQ p id v = match tk v with
    | none => none
    | some (n, k) => if k = v.length ∧ fitsB id n = true then some (p.setNum id n) else none := by
  unfold setQ
  rw [if_neg (nIdx_ne h).1, if_pos h]
  cases tk v <;> rfl

set_option maxRecDepth 100000 in
set_option maxHeartbeats 1600000 in
/-- A number that is none. -/
theorem qset_nonum (b id : Nat) (A0 : Option Addr) (c0 : Nat) (A1 : Option Addr) (c1 : Nat) (p : PQ) (A : Option Addr) (len c : Nat) (v : List UInt8) (w : World) (hW : Wh w b 43 (prC A0 c0 A1 c1 p))
    (hn : nIdx id ≠ 0) (hl : v.length = len) (hs : Sl w w.heap.size A v) (ht : tk v = none) :
    Calls Tryd.prog 39 #[.pointer (some ⟨b, 0, none⟩), .int .u64 (id : Int), .slice A len c] w (SetGave w b A0 A1 p A v (setQ p id v)) := by
  rw [setQ_num hn, ht]
  have hnum := fun w' => numberOf_any b id w'
  rw [numP_some hn] at hnum
  have HNO := Lib.hid hnum
  have HTK := Lib.hid (take_none ht A len c w w.heap.size hl hs)
  have HMT := Lib.hid (fun w' => mayTell_any id 0 w')
  have HBY := HNO
  have t2 : ((id : Int) == 2) = false := by rw [beq_eq_false_iff_ne]; have := (nIdx_ne hn).1; omega
  have hc : w.cell? ⟨b, nIdx id, none⟩ = some (.int .u64 (p.num id : Int)) := by rw [hW.cell, prC_num _ _ _ _ _ _ hn]
  have hf := hW.frozen (nIdx id)
  have HG := Lib.hid (grown_set w b (nIdx id) (.int .u64 0))
  clear hnum hn hl hs ht hW
  go_enter Tryd.func39, Tryd.ntmps39
  go_wp2_with (first | (go_at_call 33; refine (HNO.out _).mono ?_; rintro e w' ⟨rfl, rfl⟩) | (go_at_call 49; refine HTK.out.mono ?_; rintro e w' ⟨rfl, rfl⟩) | (go_at_call 34; refine (HMT.out _).mono ?_; rintro e w' ⟨rfl, rfl⟩) | (go_at_call 35; refine (HBY.out _).mono ?_; rintro e w' ⟨rfl, rfl⟩))
  go_ret
  exact ⟨HG.out, rfl⟩

set_option maxRecDepth 100000 in
set_option maxHeartbeats 1600000 in
/-- A number. -/
theorem qset_num (b id n k : Nat) (A0 : Option Addr) (c0 : Nat) (A1 : Option Addr) (c1 : Nat) (p : PQ) (A : Option Addr) (len c : Nat) (v : List UInt8) (w : World) (hW : Wh w b 43 (prC A0 c0 A1 c1 p))
    (hn : nIdx id ≠ 0) (hl : v.length = len) (hs : Sl w w.heap.size A v) (hcc : len ≤ c) (hm : c ≤ maxLen) (ht : tk v = some (n, k)) :
    Calls Tryd.prog 39 #[.pointer (some ⟨b, 0, none⟩), .int .u64 (id : Int), .slice A len c] w (SetGave w b A0 A1 p A v (setQ p id v)) := by
  rw [setQ_num hn, ht, hl]
  show Calls _ _ _ _ (SetGave w b A0 A1 p A v (if k = len ∧ fitsB id n = true then some (p.setNum id n) else none))
  obtain ⟨o, ho⟩ : ∃ o, (if k = len ∧ fitsB id n = true then some (p.setNum id n) else none) = o := ⟨_, rfl⟩
  rw [ho]
  have hnum := fun w' => numberOf_any b id w'
  rw [numP_some hn] at hnum
  have HNO := Lib.hid hnum
  have HTK := Lib.hid (take_some ht A len c w w.heap.size hl hs hcc hm)
  have hmt := fun w' => mayTell_any id n w'
  have HBY := HNO
  have t2 : ((id : Int) == 2) = false := by rw [beq_eq_false_iff_ne]; have := (nIdx_ne hn).1; omega
  have hc : w.cell? ⟨b, nIdx id, none⟩ = some (.int .u64 (p.num id : Int)) := by rw [hW.cell, prC_num _ _ _ _ _ _ hn]
  have hf := hW.frozen (nIdx id)
  have hg := grown_set w b (nIdx id) (.int .u64 (n : Int))
  have hw2 := hW.put (nIdx id) (.int .u64 (n : Int))
  rw [prC_put_num _ _ _ _ _ _ _ hn] at hw2
  have HG := Lib.hid hg
  have HW2 := Lib.hid hw2
  have hor := (set_rest p id n)
  have HO := Lib.hid (And.intro hor.1 hor.2.1)
  clear hnum hn hl hs ht hW hg hw2 hcc hm hor
  cases hfit : fitsB id n
  all_goals
    rw [hfit] at hmt ho
    have HOO := Lib.hid ho
    have HMT := Lib.hid hmt
    clear hmt hfit ho
    by_cases hk : k = len
    · subst hk
      go_enter Tryd.func39, Tryd.ntmps39
      go_wp2_with (first | (go_at_call 33; refine (HNO.out _).mono ?_; rintro e w' ⟨rfl, rfl⟩) | (go_at_call 49; refine HTK.out.mono ?_; rintro e w' ⟨rfl, rfl⟩) | (go_at_call 34; refine (HMT.out _).mono ?_; rintro e w' ⟨rfl, rfl⟩) | (go_at_call 35; refine (HBY.out _).mono ?_; rintro e w' ⟨rfl, rfl⟩))
      go_ret
      rw [← HOO.out]
      first
        | (rw [if_neg (by simp)]; exact ⟨HG.out, rfl⟩)
        | (rw [if_pos (by simp)]; exact ⟨HG.out, rfl, A0, c0, A1, c1, HW2.out, .inl ⟨rfl, HO.out.1⟩, .inl ⟨rfl, HO.out.2⟩⟩)
    · have q1 : ((k : Int) == (len : Int)) = false := by rw [beq_eq_false_iff_ne]; omega
      have q2 : (k == len) = false := by rw [beq_eq_false_iff_ne]; exact hk
      have HK := Lib.hid hk
      clear hk
      go_enter Tryd.func39, Tryd.ntmps39
      go_wp2_with (first | (go_at_call 33; refine (HNO.out _).mono ?_; rintro e w' ⟨rfl, rfl⟩) | (go_at_call 49; refine HTK.out.mono ?_; rintro e w' ⟨rfl, rfl⟩) | (go_at_call 34; refine (HMT.out _).mono ?_; rintro e w' ⟨rfl, rfl⟩) | (go_at_call 35; refine (HBY.out _).mono ?_; rintro e w' ⟨rfl, rfl⟩))
      go_ret
      rw [← HOO.out, if_neg (by have := HK.out; simp [this])]
      exact ⟨HG.out, rfl⟩

set_option maxRecDepth 100000 in
set_option maxHeartbeats 1600000 in
/-- Bytes: at place i. -/
theorem qset_bytes (b id i : Nat) (A : Option Addr) (len c : Nat) (w : World) (x : Value) (h2 : id ≠ 2) (hn : nIdx id = 0) (hb : bytP b id = .pointer (some ⟨b, i, none⟩)) (hc : w.cell? ⟨b, i, none⟩ = some x) (hf : w.frozen? ⟨b, i, none⟩ = false) :
    Calls Tryd.prog 39 #[.pointer (some ⟨b, 0, none⟩), .int .u64 (id : Int), .slice A len c] w fun e w' => e = .returned (.bool (decide (len = 0) || decide (len ≤ 20))) ∧ w' = if len = 0 then w else w.setCell ⟨b, i, none⟩ (.slice A len c) := by
  have hnum := fun w' => numberOf_any b id w'
  rw [numP_none hn] at hnum
  have hbyt := fun w' => bytesOf_any b id w'
  rw [hb] at hbyt
  have HNO := Lib.hid hnum
  have HBY := Lib.hid hbyt
  have t2 : ((id : Int) == 2) = false := by rw [beq_eq_false_iff_ne]; omega
  clear hnum hbyt hb hn h2
  by_cases h0 : len = 0
  · subst h0
    go_enter Tryd.func39, Tryd.ntmps39
    go_wp2_with (first | (go_at_call 33; refine (HNO.out _).mono ?_; rintro e w' ⟨rfl, rfl⟩) | (go_at_call 35; refine (HBY.out _).mono ?_; rintro e w' ⟨rfl, rfl⟩))
    go_ret
    exact ⟨rfl, by simp⟩
  · rw [if_neg h0, decide_eq_false h0]
    have hpos : 0 < len := by omega
    clear h0
    by_cases h20 : len ≤ 20
    · rw [decide_eq_true h20]
      go_enter Tryd.func39, Tryd.ntmps39
      go_wp2_with (first | (go_at_call 33; refine (HNO.out _).mono ?_; rintro e w' ⟨rfl, rfl⟩) | (go_at_call 35; refine (HBY.out _).mono ?_; rintro e w' ⟨rfl, rfl⟩))
      go_ret
      exact ⟨ret_bool (by rw [Bool.false_or]; exact decide_eq_true (by omega)), rfl⟩
    · rw [decide_eq_false h20]
      go_enter Tryd.func39, Tryd.ntmps39
      go_wp2_with (first | (go_at_call 33; refine (HNO.out _).mono ?_; rintro e w' ⟨rfl, rfl⟩) | (go_at_call 35; refine (HBY.out _).mono ?_; rintro e w' ⟨rfl, rfl⟩))
      go_ret
      exact ⟨ret_bool (by rw [Bool.false_or]; exact decide_eq_false (by omega)), rfl⟩

set_option maxRecDepth 100000 in
set_option maxHeartbeats 1600000 in
/-- One that is left out. -/
theorem qset_out (b id : Nat) (A : Option Addr) (len c : Nat) (w : World) (h2 : id ≠ 2) (hn : nIdx id = 0) (hb : bytP b id = .pointer none) :
    Calls Tryd.prog 39 #[.pointer (some ⟨b, 0, none⟩), .int .u64 (id : Int), .slice A len c] w fun e w' => e = .returned (.bool true) ∧ w' = w := by
  have hnum := fun w' => numberOf_any b id w'
  rw [numP_none hn] at hnum
  have hbyt := fun w' => bytesOf_any b id w'
  rw [hb] at hbyt
  have HNO := Lib.hid hnum
  have HBY := Lib.hid hbyt
  have t2 : ((id : Int) == 2) = false := by rw [beq_eq_false_iff_ne]; omega
  clear hnum hbyt hb hn h2
  go_enter Tryd.func39, Tryd.ntmps39
  go_wp2_with (first | (go_at_call 33; refine (HNO.out _).mono ?_; rintro e w' ⟨rfl, rfl⟩) | (go_at_call 35; refine (HBY.out _).mono ?_; rintro e w' ⟨rfl, rfl⟩))
  go_ret
  exact ⟨rfl, rfl⟩

theorem qset_any (b id lo : Nat) (A0 : Option Addr) (c0 : Nat) (A1 : Option Addr) (c1 : Nat) (p : PQ) (A : Option Addr) (len c : Nat) (v : List UInt8) (w : World) (hW : Wh w b 43 (prC A0 c0 A1 c1 p)) (ht : p.tok.length = 16)
    (hl : v.length = len) (hs : Sy w lo A (v.map cell8)) (hlo : b < lo) (hc : len ≤ c) (hm : c ≤ maxLen) :
    Calls Tryd.prog 39 #[.pointer (some ⟨b, 0, none⟩), .int .u64 (id : Int), .slice A len c] w (SetGave w b A0 A1 p A v (setQ p id v)) := by
  by_cases h2 : id = 2
  · subst h2
    exact qset_tok b lo A0 c0 A1 c1 p A len c v w hW ht hl hs hlo hc
  · by_cases hn : nIdx id = 0
    · by_cases h0 : id = 0
      · subst h0
        refine (qset_bytes b 0 0 A len c w _ h2 rfl rfl (by rw [hW.cell, prC_0]) (hW.frozen 0)).mono ?_
        rintro e w' ⟨rfl, rfl⟩
        subst hl
        unfold setQ
        rw [if_neg (by decide), if_neg (by decide), if_pos rfl]
        by_cases hv : v = []
        · subst hv
          exact ⟨grown_refl _ _, by simp, A0, c0, A1, c1, hW, .inl ⟨rfl, rfl⟩, .inl ⟨rfl, rfl⟩⟩
        · have hvl : v.length ≠ 0 := fun e => hv (List.eq_nil_of_length_eq_zero e)
          rw [if_neg hv, if_neg hvl, decide_eq_false hvl, Bool.false_or]
          refine ⟨grown_set _ _ _ _, ?_⟩
          by_cases h20 : v.length ≤ 20
          · rw [if_pos h20, decide_eq_true h20]
            exact ⟨rfl, A, c, A1, c1, by rw [← prC_put_0]; exact hW.put 0 _, .inr ⟨rfl, rfl⟩, .inl ⟨rfl, rfl⟩⟩
          · rw [if_neg h20, decide_eq_false h20]
      · by_cases h1 : id = 15
        · subst h1
          refine (qset_bytes b 15 1 A len c w _ h2 rfl rfl (by rw [hW.cell, prC_1]) (hW.frozen 1)).mono ?_
          rintro e w' ⟨rfl, rfl⟩
          subst hl
          unfold setQ
          rw [if_neg (by decide), if_neg (by decide), if_neg (by decide), if_pos rfl]
          by_cases hv : v = []
          · subst hv
            exact ⟨grown_refl _ _, by simp, A0, c0, A1, c1, hW, .inl ⟨rfl, rfl⟩, .inl ⟨rfl, rfl⟩⟩
          · have hvl : v.length ≠ 0 := fun e => hv (List.eq_nil_of_length_eq_zero e)
            rw [if_neg hv, if_neg hvl, decide_eq_false hvl, Bool.false_or]
            refine ⟨grown_set _ _ _ _, ?_⟩
            by_cases h20 : v.length ≤ 20
            · rw [if_pos h20, decide_eq_true h20]
              exact ⟨rfl, A0, c0, A, c, by rw [← prC_put_1]; exact hW.put 1 _, .inl ⟨rfl, rfl⟩, .inr ⟨rfl, rfl⟩⟩
            · rw [if_neg h20, decide_eq_false h20]
        · refine (qset_out b id A len c w h2 hn (bytP_none h0 h1)).mono ?_
          rintro e w' ⟨rfl, rfl⟩
          unfold setQ
          rw [if_neg h2, if_neg (fun e => e hn), if_neg h0, if_neg h1]
          exact ⟨grown_refl _ _, rfl, A0, c0, A1, c1, hW, .inl ⟨rfl, rfl⟩, .inl ⟨rfl, rfl⟩⟩
    · cases htk : tk v with
      | none => exact qset_nonum b id A0 c0 A1 c1 p A len c v w hW hn hl hs.sv htk
      | some x => exact qset_num b id x.1 x.2 A0 c0 A1 c1 p A len c v w hW hn hl hs.sv hc hm htk

end Go.Proofs.YtpnpbjdkldmmdaaDoor
