/-
  What the walk of FrameAppends wants: frames that are not great, the text that is wanted, in plain mathematics; a slice of one frame in an operation that is guarded.
  The way on which the law asks nothing.
  The walk through the statement FrameAppends: made by tools/gen_fapp.py.
-/
import Derived.Test.YtkkojhkglcigmaaDoorMGb
import Derived.Test.YtkkojhkglcigmaaDoorMGc
import Derived.Test.YtkkojhkglcigmaaDoorMGa
import Derived.Test.YtkkojhkglcigmaaDoorMFe
import Derived.Test.YtkkojhkglcigmaaDoorFSize
import Derived.Test.YtkkojhkglcigmaaDoorFKnown
import Derived.Test.YtkkojhkglcigmaaDoorMFl
import Derived.Laws.OwnMore
import Derived.Deep.DeepCutAuto
namespace Go.Proofs.YtkkojhkglcigmaaDoor

section
open Go.RowKit
set_option linter.unusedVariables false

theorem lowNums_lenJ (l : List (Nat × Nat)) : ∀ k, (lowNums l k).length = 2 * k
  | 0 => rfl
  | k + 1 => by
    unfold lowNums
    rw [List.length_append, lowNums_lenJ l k]
    simp
    omega
theorem pn_lenJ (f : PF) (k : Nat) (l : List Nat) : (pn f k l).length ≤ l.length := by
  unfold pn
  split
  · exact Nat.le_refl _
  · exact Nat.zero_le _
theorem numsN_lenJ (f : PF) : (numsN f).length ≤ 14 + 2 * f.acks.length := by
  have h : (ackNums f).length ≤ 4 + 2 * f.acks.length := by
    unfold ackNums
    simp only [List.length_append, List.length_cons, List.length_nil, lowNums_lenJ]
    omega
  have h1 := pn_lenJ f 2 [f.id]
  have h2 := pn_lenJ f 4 [f.off]
  have h3 := pn_lenJ f 8 [f.code]
  have h4 := pn_lenJ f 16 [f.max]
  have h5 := pn_lenJ f 128 (ackNums f)
  have h6 := pn_lenJ f 256 [f.e0, f.e1, f.e2]
  have h7 := pn_lenJ f 512 [f.data.length]
  have h8 := pn_lenJ f 2048 [f.cid.length]
  unfold numsN
  simp only [List.length_append, List.length_cons, List.length_nil] at *
  omega
theorem pad_isJ {f : PF} (h : MayF f) (h0 : f.kind = 0) : True ∧ 0 < f.n ∧ f.n ≤ 65536 := ⟨trivial, h.2.2.2.1 h0⟩
/-- A frame's bytes by its weight. -/
theorem size_wt {f : PF} (h : MayF f) : sizeF f ≤ 400 * wtF f := by
  unfold wtF
  by_cases h0 : f.kind = 0
  · obtain ⟨_, e2, e3⟩ := pad_isJ h h0
    unfold sizeF
    rw [if_pos h0]
    split <;> omega
  · have h1 := sumSz_le (numsN f)
    have h2 := numsN_lenJ f
    unfold sizeF
    rw [if_neg h0]
    split <;> split <;> omega
theorem great_sum : ∀ (l : List (PF × SA)) (n : Nat), ¬ 4000 < greatN n l → n + (l.map fun x => wtF x.1).sum ≤ 4000
  | [], n, h => by
    unfold greatN at h
    simp
    omega
  | x :: l, n, h => by
    unfold greatN at h
    split at h
    · have := great_sum l _ h
      rw [List.map_cons, List.sum_cons]
      omega
    · omega
theorem wt_pos (f : PF) : 1 ≤ wtF f := by unfold wtF; omega
theorem sum_len (l : List (PF × SA)) : l.length ≤ (l.map fun x => wtF x.1).sum := by
  induction l with
  | nil => simp
  | cons x l ih =>
    have := wt_pos x.1
    rw [List.map_cons, List.sum_cons, List.length_cons]
    omega
theorem sum_mem {l : List (PF × SA)} {x : PF × SA} (h : x ∈ l) : wtF x.1 ≤ (l.map fun x => wtF x.1).sum := by
  induction l with
  | nil => cases h
  | cons y l ih =>
    rw [List.map_cons, List.sum_cons]
    rcases List.mem_cons.1 h with rfl | h
    · omega
    · have := ih h
      omega
theorem sumF_wt (l : List (PF × SA)) (h : ∀ x ∈ l, MayF x.1) : sumF l ≤ 400 * (l.map fun x => wtF x.1).sum := by
  induction l with
  | nil => simp [sumF]
  | cons x l ih =>
    have h1 := size_wt (h x (by simp))
    have h2 := ih (fun y hy => h y (by simp [hy]))
    rw [List.map_cons, List.sum_cons]
    show sizeF x.1 + sumF l ≤ _
    omega
theorem take_sum (l : List (PF × SA)) (k : Nat) : ((l.take k).map fun x => wtF x.1).sum ≤ (l.map fun x => wtF x.1).sum := by
  induction l generalizing k with
  | nil => simp
  | cons x l ih =>
    cases k with
    | zero => simp
    | succ k =>
      have := ih k
      rw [List.take_succ_cons, List.map_cons, List.sum_cons, List.map_cons, List.sum_cons]
      omega
/-- What is known of frames that are not great. -/
structure Fit (l : List (PF × SA)) : Prop where
  len : l.length ≤ 4000
  acks : ∀ x ∈ l, x.1.acks.length ≤ 4000
  data : ∀ x ∈ l, x.1.data.length + x.1.cid.length ≤ 65536
  wt : (l.map fun x => wtF x.1).sum ≤ 4000
  sum : ∀ k, (∀ x ∈ l.take k, MayF x.1) → sumF (l.take k) ≤ 1600000
theorem Fit.of_great {l : List (PF × SA)} (h : ¬ 4000 < greatN 0 l) : Fit l := by
  have hs := great_sum l 0 h
  have hl := sum_len l
  refine ⟨by omega, fun x hx => ?_, fun x hx => ?_, by omega, fun k hm => ?_⟩
  · have h1 := sum_mem hx
    have h2 : wtF x.1 ≤ 4000 := by omega
    unfold wtF at h2
    omega
  · have h1 := sum_mem hx
    have h2 : wtF x.1 ≤ 4000 := by omega
    unfold wtF at h2
    omega
  · have h1 := sumF_wt _ hm
    have h2 := take_sum l k
    omega

/-- A frame's part of what is wanted. -/
noncomputable def wB (x : PF × SA) : List UInt8 := by
  classical
  exact if MayF x.1 then bytesF x.1 else []
theorem wB_yes {x : PF × SA} (h : MayF x.1) : wB x = bytesF x.1 := by
  unfold wB
  rw [if_pos h]
theorem wB_no {x : PF × SA} (h : ¬ MayF x.1) : wB x = [] := by
  unfold wB
  rw [if_neg h]
noncomputable def wants (b : List UInt8) (xs : List (PF × SA)) : List UInt8 := b ++ xs.flatMap wB
noncomputable def mays (xs : List (PF × SA)) : Bool := by
  classical
  exact xs.all fun x => decide (MayF x.1)
def elics (xs : List (PF × SA)) : Bool := xs.any fun x => elicB x.1.kind
theorem wants_next (b : List UInt8) (l : List (PF × SA)) (k : Nat) (x : PF × SA) (h : l[k]? = some x) : wants b (l.take (k + 1)) = wants b (l.take k) ++ wB x := by
  unfold wants
  rw [takeA_next l k x h, List.flatMap_append, List.append_assoc]
  simp
theorem mays_yes (l : List (PF × SA)) (k : Nat) (x : PF × SA) (h : l[k]? = some x) (hm : MayF x.1) : mays (l.take (k + 1)) = (mays (l.take k) && true) := by
  unfold mays
  rw [takeA_next l k x h, List.all_append]
  simp [hm]
theorem mays_no (l : List (PF × SA)) (k : Nat) (x : PF × SA) (h : l[k]? = some x) (hm : ¬ MayF x.1) : mays (l.take (k + 1)) = (mays (l.take k) && false) := by
  unfold mays
  rw [takeA_next l k x h, List.all_append]
  simp [hm]
theorem elics_next (l : List (PF × SA)) (k : Nat) (x : PF × SA) (h : l[k]? = some x) : elics (l.take (k + 1)) = (elics (l.take k) || elicB x.1.kind) := by
  unfold elics
  rw [takeA_next l k x h, List.any_append]
  simp
theorem mays_all {l : List (PF × SA)} (h : mays l = true) : ∀ x ∈ l, MayF x.1 := by
  unfold mays at h
  simpa using h
theorem mays_not {l : List (PF × SA)} (h : mays l = false) : ¬ ∀ x ∈ l, MayF x.1 := by
  classical
  unfold mays at h
  intro hh
  rw [List.all_eq_true.2 (fun x hx => decide_eq_true (hh x hx))] at h
  cases h
theorem wants_all {b : List UInt8} {l : List (PF × SA)} (h : ∀ x ∈ l, MayF x.1) : wants b l = b ++ bytesL l := by
  unfold wants bytesL
  congr 1
  induction l with
  | nil => rfl
  | cons x l ih =>
    rw [List.flatMap_cons, List.flatMap_cons, wB_yes (h x (by simp)), ih (fun y hy => h y (by simp [hy]))]
theorem wB_len {x : PF × SA} (ht : x.1.token.length = 16) : (wB x).length ≤ 400 * wtF x.1 := by
  by_cases h : MayF x.1
  · rw [wB_yes h, bytesF_length ht]
    exact size_wt h
  · rw [wB_no h]
    exact Nat.zero_le _
theorem wants_len (b : List UInt8) (l : List (PF × SA)) (h : ∀ x ∈ l, x.1.token.length = 16) : (wants b l).length ≤ b.length + 400 * (l.map fun x => wtF x.1).sum := by
  unfold wants
  rw [List.length_append]
  have : (l.flatMap wB).length ≤ 400 * (l.map fun x => wtF x.1).sum := by
    induction l with
    | nil => simp
    | cons x l ih =>
      have h1 := wB_len (h x (by simp))
      have h2 := ih (fun y hy => h y (by simp [hy]))
      rw [List.flatMap_cons, List.length_append, List.map_cons, List.sum_cons]
      omega
  omega
theorem wants_fit {b : List UInt8} {l : List (PF × SA)} (hf : Fit l) (ht : ∀ x ∈ l, x.1.token.length = 16) (hb : b.length ≤ 1000) (k : Nat) : (wants b (l.take k)).length ≤ 1700000 := by
  have h1 := wants_len b (l.take k) (fun x hx => ht x (List.mem_of_mem_take hx))
  have h2 := take_sum l k
  have h3 := hf.wt
  omega
theorem strB_appJ (a b : List UInt8) : strB a ++ strB b = strB (a ++ b) := by
  apply ByteArray.ext
  simp [strB]
theorem strB_lenJ (a : List UInt8) : (strB a).size = a.length := by simp [strB, ByteArray.size]

/-- The document's word on where a kind is allowed. -/
theorem allowed_is (s k : Nat) : (formK k && (((s : Int) == 2) || (decide ((s : Int) < 2) && ((decide ((k : Int) < 4) || ((k : Int) == 6)) || ((k : Int) == 28))))) = allowedB s k := by
  have hN : formK k = bt (partsN k) 1 := by
    by_cases hk : k < 31
    · exact (bits_all k hk).2
    · rw [formK_big (Nat.le_of_not_lt hk), parts0_big (Nat.le_of_not_lt hk)]
  unfold allowedB
  rw [← hN]
  by_cases h2 : s = 2
  · subst h2
    simp
  · have e2 : ((s : Int) == 2) = false := by rw [beq_eq_false_iff_ne]; omega
    rw [if_neg h2, e2, Bool.false_or]
    by_cases h1 : s < 2
    · rw [if_pos h1, decide_eq_true (show (s : Int) < 2 by omega), Bool.true_and]
      by_cases hk : k = 0 ∨ k = 1 ∨ k = 2 ∨ k = 3 ∨ k = 6 ∨ k = 28
      · rcases hk with h | h | h | h | h | h <;> subst h <;> rfl
      · have a1 : decide ((k : Int) < 4) = false := decide_eq_false (by omega)
        have a2 : ((k : Int) == 6) = false := by rw [beq_eq_false_iff_ne]; omega
        have a3 : ((k : Int) == 28) = false := by rw [beq_eq_false_iff_ne]; omega
        rw [a1, a2, a3, decide_eq_false hk]
        simp
    · rw [if_neg h1, decide_eq_false (show ¬ (s : Int) < 2 by omega)]
      simp
theorem elic_is (k : Nat) : (((((((k : Int) != 0) && ((k : Int) != 2)) && ((k : Int) != 3)) && ((k : Int) != 28)) && ((k : Int) != 29))) = elicB k := by
  unfold elicB
  have e : ∀ n : Nat, ((k : Int) != (n : Int)) = !decide (k = n) := fun n => by
    by_cases h : k = n
    · subst h; simp
    · rw [decide_eq_false h, Bool.not_false, bne_iff_ne]; omega
  have e0 : ((k : Int) != 0) = !decide (k = 0) := e 0
  have e2 : ((k : Int) != 2) = !decide (k = 2) := e 2
  have e3 : ((k : Int) != 3) = !decide (k = 3) := e 3
  have e28 : ((k : Int) != 28) = !decide (k = 28) := e 28
  have e29 : ((k : Int) != 29) = !decide (k = 29) := e 29
  rw [e0, e2, e3, e28, e29]
  simp [Bool.not_or]

/-- A slice of one great struct in an operation that may be guarded. -/
theorem wpList_build_oneG {P : Program} {ops : Array Oper} {o : Oper} {a : Act} {w : World} {Q : Exit → Act → World → Prop} {rest : List Oper} (hw : Region.wanted o (yielded ops a.tmps) = true) (t e : TypeId) (x : Operand) (ho : o.op = .buildSlice t 1 #[(0, x)])
    (R : Array Value) (n : Nat) (hx : a.eval x = .agg R) (hR : R.size = n) (hn : 0 < n) (hn2 : n ≤ 1000) (ie : TypeInfo) (z : Value) (hu : P.underlying t = some (.slice e)) (hie : P.info? e = some ie) (hz : ie.zero = some z) (hs : ie.size = n)
    (h : wpList P ops Q rest (a.put o.dst (.slice (some ⟨w.heap.size, 0, none⟩) 1 1)) (w.alloc (.cells R e))) : wpList P ops Q (o :: rest) a w :=
  wpList_step fun K hK => by
    rw [if_pos hw]
    refine wp_buildSlice t e 1 #[(0, x)] ho R ie z hu hie hz (by rw [hs]; omega) (by rw [hs]; omega) ?_ (hK _ _ h)
    have e : ((#[(0, x)] : Array (Nat × Operand)).map fun (i, x) => (i, a.eval x)).toList = [(0, .agg R)] := by simp [hx]
    rw [e, hs, Nat.one_mul]
    exact fill_one _ R n hR (by simp)

theorem FrAt.up {w w' : World} {B B' : Nat} {f : PF} {a : SA} (h : FrAt w B f a) (hb : Below B w w') (hB : B ≤ B') : FrAt w' B' f a := by
  have hf := h.below hb
  exact { hf with data := hf.data.keep hB (fun _ _ => rfl), cid := hf.cid.keep hB (fun _ _ => rfl), acks := hf.acks.keep hB (fun _ _ => rfl) }

theorem Sf.up {w w' : World} {B B' : Nat} {A : Option Addr} {l : List (PF × SA)} (h : Sf w B A l) (hb : Below B w w') (hB : B ≤ B') : Sf w' B' A l := fun hne => by
  obtain ⟨b, off, e, hlt, hc⟩ := h hne
  refine ⟨b, off, e, Nat.lt_of_lt_of_le hlt hB, fun i x hx => ⟨fun j v hv => ?_, (hc i x hx).2.up hb hB⟩⟩
  exact (hb.cell (p := ⟨b, off + i * 30 + j, none⟩) hlt).trans ((hc i x hx).1 j v hv)
theorem sf_oneJ {w : World} {g : Nat} {t : TypeId} {R : Array Value} {f : PF} {a : SA} (h : Wh w g t R) (hR : R = (rowF f a).toArray) (hf : FrAt w w.heap.size f a) : Sf w w.heap.size (some ⟨g, 0, none⟩) [(f, a)] :=
  sf_blk h (by rw [hR]; simp) (fun x hx => by rw [List.mem_singleton.1 hx]; exact hf)

set_option maxRecDepth 100000 in
set_option maxHeartbeats 1600000 in
theorem fapp_out (l : List (PF × SA)) (A : Option Addr) (n c : Nat) (A2 : Option Addr) (len c2 : Nat) (s k : Int) (w : World) (hT : PT w) (hl : l.length = len) (hf : Sf w w.heap.size A2 l) (hlen : len ≤ 140737488355328) (hn : n ≤ 140737488351232)
    (ho : 4000 < greatN 0 l ∨ 1000 < n) :
    Calls Tryd.prog 3 #[.slice A n c, .slice A2 len c2, .int .u8 s, .int .u64 k] w fun e w' => e = .returned (.bool true) ∧ Below w.heap.size w w' := by
  have HK := Lib.hid (fknown_any w hT)
  have HL := Lib.hid hl
  have HF := Lib.hid hf
  have hq : (∃ _ : decide (4000 < greatN 0 l) = true, True) ∨ (∃ _ : decide (4000 < greatN 0 l) = false, ∃ _ : decide ((1000 : Int) < (n : Int)) = true, True) := by
    by_cases a1 : 4000 < greatN 0 l
    · exact .inl ⟨decide_eq_true a1, trivial⟩
    · exact .inr ⟨decide_eq_false a1, decide_eq_true (by omega), trivial⟩
  clear hl hf ho hT
  rcases hq with ⟨h1, _⟩ | ⟨h1, h2, _⟩
  all_goals
    have HD1 := Lib.hid h1
    clear h1
    go_enter Tryd.func3, Tryd.ntmps3
    go_wp2_with (first
      | (go_at_call 6; refine HK.out.mono ?_; rintro e w1 ⟨rfl, hb1⟩; have HB1 := Lib.hid hb1; clear hb1)
      | (go_at_call 7; refine (great_any A2 len c2 l w1 w1.heap.size HL.out (HF.out.up HB1.out HB1.out.size) (Nat.le_refl _) hlen).mono ?_; rw [HD1.out]; rintro e w2 ⟨rfl, hb2⟩; have HB2 := Lib.hid (HB1.out.trans (hb2.mono HB1.out.size)); clear hb2))
    go_ret
    exact ⟨rfl, HB2.out⟩
end

section
open Go.RowKit
set_option linter.unusedVariables false
set_option linter.unusedSimpArgs false

/-- A fact that no tactic looks into. -/
structure Dp (p : Prop) : Prop where
  out : p
theorem yieldsIf_strJ {P : Program} {ops : Array Oper} {S : World → Prop} {op : Oper} {a : Act} (hw : Region.wanted op (yielded ops a.tmps) = true) (src dst e : TypeId) (x : Operand) (ho : op.op = .convert src dst x)
    (hs : P.underlying src = some (.slice e)) (he : P.underlying e = some (.int .u8)) (hd : P.underlying dst = some .string) (B : Nat) (A : Option Addr) (n c : Nat) (l : List UInt8) (hx : a.eval x = .slice A n c) (hn : l.length = n) (hS : ∀ w, S w → Sl w B A l) :
    YieldsIf P ops S op (.string (strB l)) a :=
  .inl ⟨hw, fun w hw' => by
    unfold execOp
    simp only [ho, hx, Sem.run_bind, run_string_sl w src dst e hs he hd B A n c l (hS w hw') hn, Result.andThen_ok, Sem.run_pure]⟩

set_option maxRecDepth 100000 in
set_option maxHeartbeats 12800000 in
theorem fapp_in (l : List (PF × SA)) (b : List UInt8) (A : Option Addr) (n c : Nat) (A2 : Option Addr) (len c2 : Nat) (s k : Nat) (w : World) (hT : PT w) (hTab : Tab w) (hl : l.length = len) (hf : Sf w w.heap.size A2 l)
    (hb : b.length = n) (hs : Sl w w.heap.size A b) (hg : ¬ 4000 < greatN 0 l) (hn : n ≤ 1000) :
    Calls Tryd.prog 3 #[.slice A n c, .slice A2 len c2, .int .u8 (s : Int), .int .u64 (k : Int)] w fun e w' => e = .returned (.bool true) ∧ Below w.heap.size w w' := by
  obtain ⟨ie, hie, hiee⟩ := Option.map_eq_some_iff.1 info_frame2
  simp only [Prod.mk.injEq, Option.map_eq_some_iff] at hiee
  obtain ⟨hse, _, ze, hze, _⟩ := hiee
  have HK := Lib.hid (fknown_any w hT)
  have HL := Lib.hid hl
  have HF := Lib.hid hf
  have HBL := Dp.mk hb
  have HS := Lib.hid hs
  have HT := Lib.hid hT
  have HTAB := Lib.hid hTab
  have HFIT := Lib.hid (Fit.of_great hg)
  have HTOK := Lib.hid hf.toks
  have HWF : Hid (∀ j, (wants b (l.take j)).length ≤ 1700000) := wants_fit HFIT.out HTOK.out (by rw [hb]; exact hn)
  have hlen : len ≤ 4000 := by rw [← hl]; exact HFIT.out.len
  have HD1 : Dp (decide (4000 < greatN 0 l) = false) := ⟨decide_eq_false hg⟩
  have d2 : decide ((1000 : Int) < (n : Int)) = false := decide_eq_false (by omega)
  have HAPP : Hid (∀ wx, Below w.heap.size w wx → Calls Tryd.prog 15 #[.slice A n c, .slice A2 len c2] wx (AppGave wx b l)) := fun wx hbx => by
    have h := fappend_any A c A2 len c2 b l wx wx.heap.size ((hs.below hbx).keep hbx.size (fun _ _ => rfl)) hl (hf.up hbx hbx.size) (Nat.le_refl _) (hT.below hbx hT.lt) (hTab.below hbx hTab.lt) (by omega) (by omega) HFIT.out.acks (fun x hx => Nat.le_trans (HFIT.out.data x hx) (by omega)) (fun k hk => Nat.le_trans (HFIT.out.sum k hk) (by omega))
    rwa [hb] at h
  have HELL : Hid (∀ wx, Below w.heap.size w wx → Calls Tryd.prog 12 #[.slice A2 len c2] wx fun e w' => e = .returned (.bool (elics l)) ∧ Below wx.heap.size wx w') := fun wx hbx =>
    eliciting_any A2 len c2 l wx wx.heap.size hl (hf.up hbx hbx.size) (Nat.le_refl _) (by omega)
  obtain ⟨ys, hys⟩ : ∃ y : Int, y = (s : Int) := ⟨_, rfl⟩
  obtain ⟨yk, hyk⟩ : ∃ y : Int, y = (k : Int) := ⟨_, rfl⟩
  obtain ⟨K4, hK4⟩ : ∃ q, decide (yk < 4) = q := ⟨_, rfl⟩
  obtain ⟨K6, hK6⟩ : ∃ q, (yk == 6) = q := ⟨_, rfl⟩
  obtain ⟨K28, hK28⟩ : ∃ q, (yk == 28) = q := ⟨_, rfl⟩
  obtain ⟨S2, hS2⟩ : ∃ q, (ys == 2) = q := ⟨_, rfl⟩
  obtain ⟨S1, hS1⟩ : ∃ q, decide (ys < 2) = q := ⟨_, rfl⟩
  obtain ⟨NF, hNF⟩ : ∃ q, formK k = q := ⟨_, rfl⟩
  obtain ⟨AL, hAL⟩ : ∃ q, allowedB s k = q := ⟨_, rfl⟩
  have HAL : Hid ((NF && (S2 || (S1 && ((K4 || K6) || K28)))) = AL) := by
    show _ = _
    rw [← hAL, ← allowed_is, hNF, ← hK4, ← hK6, ← hK28, ← hS2, ← hS1, hys, hyk]
  have HFO : Hid (∀ wx, ∃ f, Calls Tryd.prog 13 #[.int .u64 yk] wx fun e w' => e = .returned (.tuple #[.string f, .bool NF]) ∧ wx = w') := fun wx => ⟨_, by rw [hyk, ← hNF]; exact form_any k wx⟩
  have HAW : Hid (∀ wx, PT wx → Calls Tryd.prog 14 #[.int .u8 ys, .int .u64 yk] wx fun e w' => e = .returned (.bool AL) ∧ wx = w') := fun wx ht => by rw [hyk, hys, ← hAL]; exact allowed_any s k wx ht
  rw [← hys, ← hyk]
  clear hl hf hs hT hTab hg hb hys hyk hNF hAL
  have k4 := Lib.hid hK4
  have k6 := Lib.hid hK6
  have k28 := Lib.hid hK28
  have s2 := Lib.hid hS2
  have s1 := Lib.hid hS1
  clear hK4 hK6 hK28 hS2 hS1
  go_enter Tryd.func3, Tryd.ntmps3
  go_upto_region 5 with (first
      | (go_at_call 6; refine HK.out.mono ?_; rintro e w1 ⟨rfl, hb1⟩; have HB1 := Lib.hid hb1; clear hb1)
      | (go_at_call 7; refine (great_any A2 len c2 l w1 w1.heap.size HL.out (HF.out.up HB1.out HB1.out.size) (Nat.le_refl _) (by omega)).mono ?_; rw [HD1.out]; rintro e w2 ⟨rfl, hb2⟩; have HB2 := Lib.hid (HB1.out.trans (hb2.mono HB1.out.size)); clear hb2))
  clear d2 HD1 HK HB1
  have hstr := run_string_sl (P := Tryd.prog) w2 22 9 5 Tryd.underlying22 Tryd.underlying5 Tryd.underlying9 w.heap.size A n c b (HS.out.below HB2.out) HBL.out
  go_wp2_with fail
  clear hstr
  have hz : (#[.int .u64 0, .int .u64 0, .int .u64 0, .int .u64 0, .int .u64 0, .int .u64 0, .bool false, .slice none 0 0, .slice none 0 0, .int .u8 0, .int .u8 0, .int .u8 0, .int .u8 0, .int .u8 0, .int .u8 0, .int .u8 0, .int .u8 0, .int .u8 0, .int .u8 0, .int .u8 0, .int .u8 0, .int .u8 0, .int .u8 0, .int .u8 0, .int .u8 0, .slice none 0 0, .int .u64 0, .int .u64 0, .int .u64 0, .int .u64 0] : Array Value) = zRow 0 := rfl
  have HW0 := Dp.mk (show strB b = strB (wants b (l.take 0)) by rw [List.take_zero]; unfold wants; rw [List.flatMap_nil, List.append_nil])
  generalize strB b = S0 at *
  go_loopw [9, 10, 11, 36] (fun vw vm ve iv wr => ∃ (j : Nat) (S : ByteArray) (P E : Bool), j ≤ len ∧ iv = .int .i64 (j : Int) ∧ Dp (S = strB (wants b (l.take j))) ∧ vw = .string S ∧ vm = .bool P ∧ ve = .bool E ∧ Dp (P = mays (l.take j)) ∧ Dp (E = elics (l.take j)) ∧ Hid (Below w.heap.size w wr)) (fun _ _ _ iv _ => len - (intOf iv).toNat)
  case atStart => exact ⟨0, S0, true, false, by omega, rfl, HW0, rfl, rfl, rfl, ⟨by rw [List.take_zero]; rfl⟩, ⟨by rw [List.take_zero]; rfl⟩, HB2⟩
  case round =>
    obtain ⟨j, S, P, E, hj, rfl, DS, rfl, rfl, rfl, DP, DE, HB⟩ := hrel
    clear HW0 HB2
    have hws := HB.out.size
    have HSS : Hid (S.size ≤ 1700000) := by rw [DS.out, strB_lenJ]; exact HWF.out j
    by_cases hlt : j < len
    · obtain ⟨x, hx⟩ : ∃ x, l[j]? = some x := ⟨_, List.getElem?_eq_getElem (by rw [HL.out]; exact hlt)⟩
      obtain ⟨bk, off, rfl, hbk, hc⟩ := HF.out (by rintro rfl; simp at hx)
      have HRG : Hid (wr.rangeAt bk (off + j * 30) (rowF x.1 x.2)) := fun q v hv => (HB.out.cell (p := ⟨bk, off + j * 30 + q, none⟩) (by show bk < _; omega)).trans ((hc j x hx).1 q v hv)
      have HFR := Lib.hid ((hc j x hx).2.up HB.out hws)
      have HSZ : Hid ((Tryd.prog.info? 32).map (·.size) = some (rowF x.1 x.2).length) := by rw [info_frame, rowF_length x.2 HFR.out.tok]; rfl
      have hmem : x ∈ l := List.mem_of_getElem? hx
      have hac := HFIT.out.acks x hmem
      have hdat := HFIT.out.data x hmem
      have hwt : wtF x.1 ≤ 4000 := Nat.le_trans (sum_mem hmem) HFIT.out.wt
      have DNW := Dp.mk (wants_next b l j x hx)
      have DNE := Dp.mk (elics_next l j x hx)
      have DNY := Dp.mk (mays_yes l j x hx)
      have DNN := Dp.mk (mays_no l j x hx)
      clear hc hx hmem
      obtain ⟨R, hR⟩ : ∃ R : Array Value, R = (rowF x.1 x.2).toArray := ⟨_, rfl⟩
      have HRE := Lib.hid hR
      have hR30 : R.size = 30 := by rw [hR, List.size_toArray, rowF_length x.2 HFR.out.tok]
      have HR30 := Lib.hid hR30
      have HR1 : Hid (R.all (·.oneCell') = true) := by show _ = _; rw [hR]; exact rowF_one x.1 x.2
      have HI : Hid ((Tryd.prog.info? 32).map (·.size) = some R.size) := by rw [hR30]; exact info_frame
      have HRI : Hid (RowIs R x.1 x.2) := by rw [hR]; exact rowF_is (f := x.1) x.2 HFR.out.tok
      obtain ⟨y, hy⟩ : ∃ y : Int, y = (x.1.kind : Int) := ⟨_, rfl⟩
      obtain ⟨N0, hN0⟩ : ∃ q, (y != 0) = q := ⟨_, rfl⟩
      obtain ⟨N2, hN2⟩ : ∃ q, (y != 2) = q := ⟨_, rfl⟩
      obtain ⟨N3, hN3⟩ : ∃ q, (y != 3) = q := ⟨_, rfl⟩
      obtain ⟨N28, hN28⟩ : ∃ q, (y != 28) = q := ⟨_, rfl⟩
      obtain ⟨N29, hN29⟩ : ∃ q, (y != 29) = q := ⟨_, rfl⟩
      have HEL : Hid (((((N0 && N2) && N3) && N28) && N29) = elicB x.1.kind) := by
        show _ = _
        rw [← elic_is, ← hN0, ← hN2, ← hN3, ← hN28, ← hN29, hy]
      have n0 := Lib.hid hN0
      have n2 := Lib.hid hN2
      have n3 := Lib.hid hN3
      have n28 := Lib.hid hN28
      have n29 := Lib.hid hN29
      clear hN0 hN2 hN3 hN28 hN29
      have HRK : Hid (R[0]? = some (.int .u64 y)) := by rw [hy]; exact HRI.out.kind
      clear hR hR30 hy
      go_upto_region 10 with (first
        | (refine wpList_load_mid rfl 32 (.tmp 38) rfl bk (off + j * 30) rfl (rowF x.1 x.2) _ HRG.out Tryd.underlying32 rfl HSZ.out ?_; rw [← HRE.out])
        | (refine wpList_store_row rfl 32 (.tmp 13) (.tmp 39) rfl wr.heap.size R rfl rfl _ _ (heap_alloc_new wr (.cells (zRow 0) 32)) HI.out (by rw [HR30.out]; rfl) HR1.out ?_; rw [World.setRow_alloc_new]))
      have HW1 := Lib.hid (Wh.new wr 32 R)
      have hbn : Below wr.heap.size wr (wr.alloc (.cells R 32)) := (Below.refl _ _).alloc (Nat.le_refl _) _
      have HB1 := Lib.hid (HB.out.trans (hbn.mono hws))
      have HF1 := Lib.hid (HFR.out.up hbn hbn.size)
      clear hbn HB HFR HRG HSZ HR1 hws hbk
      obtain ⟨g, hgg⟩ : ∃ g, g = wr.heap.size := ⟨_, rfl⟩
      rw [← hgg] at HW1 ⊢
      clear hgg
      generalize wr.alloc (.cells R 32) = w1 at *
      have HMM := Lib.hid (fun wx (hf : FrAt wx wx.heap.size x.1 x.2) => refmay_any R x.1 x.2 wx wx.heap.size HRI.out hf (Nat.le_refl _))
      have HMI : Hid (MayR x.1 ↔ MayF x.1) := may_iff HF1.out.tok (by omega)
      have HPM := Lib.hid (fun wx (hf : FrAt wx wx.heap.size x.1 x.2) (ht : PT wx) => may_any R x.1 x.2 wx wx.heap.size HRI.out hf (Nat.le_refl _) ht)
      have HPS := Lib.hid (fun wx (hf : FrAt wx wx.heap.size x.1 x.2) (ht : PT wx) => fsize_any R x.1 x.2 wx wx.heap.size HRI.out hf (Nat.le_refl _) ht (by omega))
      have HPE : Hid (∀ (wx : World) (g : Nat), Wh wx g 32 R → FrAt wx wx.heap.size x.1 x.2 → Calls Tryd.prog 12 #[.slice (some ⟨g, 0, none⟩) 1 1] wx fun e w' => e = .returned (.bool (elicB x.1.kind)) ∧ Below wx.heap.size wx w') := fun wx g hw hf => by
        have h := eliciting_any (some ⟨g, 0, none⟩) 1 1 [x] wx wx.heap.size rfl (sf_oneJ hw HRE.out hf) (Nat.le_refl _) (by omega)
        simpa using h
      rw [← HEL.out] at HPE
      by_cases hm : MayF x.1
      · have HM0 := Lib.hid hm
        have HMR := Lib.hid (HMI.out.2 hm)
        have hsl : (bytesF x.1).length = sizeF x.1 := bytesF_length HF1.out.tok
        have hsw := size_wt hm
        have hgo : GoodF x.1 := good_of hm HF1.out.tok hac (by omega) (by omega)
        have hbe := bytes_eq hm HF1.out.tok (by omega)
        have HRB := Lib.hid (fun wx (hf : FrAt wx wx.heap.size x.1 x.2) => refbytesf_any R x.1 x.2 wx wx.heap.size HRI.out hf (Nat.le_refl _) hgo)
        rw [hbe] at HRB
        have DW := DNW.out
        rw [wB_yes hm] at DW
        have DPY := Dp.mk (DNY.out hm)
        clear hm hgo hbe DNW DNY DNN
        generalize bytesF x.1 = M1 at *
        have DNW := Dp.mk DW
        clear DW
        obtain ⟨K1, hK1⟩ : ∃ K1, M1.length = K1 := ⟨_, rfl⟩
        have DK1 := Dp.mk hK1
        rw [← hsl, hK1] at HPS
        have hKle : K1 ≤ 1600000 := by omega
        clear hsl hsw hK1 hwt
        go_upto_region 14 with (first
          | (refine wpList_load_any 32 (.tmp 13) rfl rfl g rfl _ R _ HW1.out Tryd.underlying32 rfl HI.out ?_)
          | (refine wpList_load_any 32 (.tmp 13) rfl rfl g rfl _ R _ HW2.out Tryd.underlying32 rfl HI.out ?_)
          | (go_at_call 8; refine (HMM.out _ HF1.out).mono ?_; rintro e w2 ⟨hy, _, hb⟩; obtain rfl := hy HMR.out; have HW2 := Lib.hid (HW1.out.below hb HW1.out.lt); have HB2 := Lib.hid (HB1.out.trans (hb.mono HB1.out.size)); have HF2 := Lib.hid (HF1.out.up hb hb.size); clear hb; clear hy)
          | (go_at_call 9; refine (HRB.out _ HF2.out).mono ?_; rintro e w3 ⟨v3, rfl, hown, hb⟩; rw [DK1.out] at hown; obtain ⟨A3, c3, rfl, h3a, h3b⟩ := own_form hown; have HS3 : Hid (Sl w3 w3.heap.size A3 M1) := Lib.hid (Sv.of_own hown); have HW3 := Lib.hid (HW2.out.below hb HW2.out.lt); have HB3 := Lib.hid (HB2.out.trans (hb.mono HB2.out.size)); have HF3 := Lib.hid (HF2.out.up hb hb.size); clear hb; clear hown))
        clear HW1 HW2 HB1 HB2 HF1 HF2 HRB HMM HMR HMI h3a h3b
        refine wp_region_held_drew (S := fun w' => SinceG w3.drew w') (by kernel_rfl) (SinceG.self _) (fun _ => ?_)
        have hdr : Below w3.heap.size w3 w3.drew := (Below.refl _ _).drew
        have HW4 := Lib.hid (HW3.out.below hdr HW3.out.lt)
        have HB4 := Lib.hid (HB3.out.trans (hdr.mono HB3.out.size))
        have HF4 := Lib.hid (HF3.out.up hdr hdr.size)
        have HS4 : Hid (Sl w3.drew w3.drew.heap.size A3 M1) := Lib.hid ((HS3.out.below hdr).keep hdr.size (fun _ _ => rfl))
        clear HW3 HB3 HF3 HS3 hdr
        generalize w3.drew = w4 at *
        have hs1 := HSS.out
        have hs2 : (strB M1).size ≤ 1600000 := by rw [strB_lenJ, DK1.out]; exact hKle
        have hsb : ¬ (S.size + (strB M1).size > maxLen) := by unfold maxLen; omega
        refine wpAnyH_take (i := 0) (v := .slice A3 K1 c3) (List.getElem?_toArray.trans rfl) (by kernel_rfl) (by kernel_rfl) (by kernel_rfl) (fun _ _ _ h => h) (.inl ⟨rfl, fun w' hS => rfl⟩) (SinceG.self _) ?_
        refine act_normG (by simp only [Act.put, List.setIfInBounds_toArray, List.set_cons_zero, List.set_cons_succ]; rfl) ?_
        refine wpAnyH_take (i := 1) (v := .int .i64 (K1 : Int)) (List.getElem?_toArray.trans rfl) (by kernel_rfl) (by kernel_rfl) (by kernel_rfl) (fun _ _ _ h => h) (.inl ⟨rfl, fun w' hS => by simp [go_sem]⟩) (SinceG.self _) ?_
        refine act_normG (by simp only [Act.put, List.setIfInBounds_toArray, List.set_cons_zero, List.set_cons_succ]; rfl) ?_
        refine wpAnyH_take (i := 2) (v := .string S) (List.getElem?_toArray.trans rfl) (by kernel_rfl) (by kernel_rfl) (by kernel_rfl) (fun _ _ _ h => h) (.inl ⟨rfl, fun w' hS => rfl⟩) (SinceG.self _) ?_
        refine act_normG (by simp only [Act.put, List.setIfInBounds_toArray, List.set_cons_zero, List.set_cons_succ]; rfl) ?_
        refine wpAnyH_take (i := 3) (v := .slice A3 K1 c3) (List.getElem?_toArray.trans rfl) (by kernel_rfl) (by kernel_rfl) (by kernel_rfl) (fun _ _ _ h => h) (.inl ⟨rfl, fun w' hS => rfl⟩) (SinceG.self _) ?_
        refine act_normG (by simp only [Act.put, List.setIfInBounds_toArray, List.set_cons_zero, List.set_cons_succ]; rfl) ?_
        refine wpAnyH_take (i := 4) (v := .string (strB M1)) (List.getElem?_toArray.trans rfl) (by kernel_rfl) (by kernel_rfl) (by kernel_rfl) (fun _ _ _ h => h) (yieldsIf_strJ rfl 22 9 5 (.tmp 48) rfl Tryd.underlying22 Tryd.underlying5 Tryd.underlying9 w4.heap.size A3 K1 c3 M1 rfl DK1.out (fun w' h => HS4.out.below h)) (SinceG.self _) ?_
        refine act_normG (by simp only [Act.put, List.setIfInBounds_toArray, List.set_cons_zero, List.set_cons_succ]; rfl) ?_
        refine wpAnyH_take (i := 5) (v := .string (S ++ strB M1)) (List.getElem?_toArray.trans rfl) (by kernel_rfl) (by kernel_rfl) (by kernel_rfl) (fun _ _ _ h => h) (.inl ⟨rfl, fun w' hS => by simp [go_sem]; omega⟩) (SinceG.self _) ?_
        refine act_normG (by simp only [Act.put, List.setIfInBounds_toArray, List.set_cons_zero, List.set_cons_succ]; rfl) ?_
        refine wpAnyH_take (i := 6) (v := .int .i64 (K1 : Int)) (List.getElem?_toArray.trans rfl) (by kernel_rfl) (by kernel_rfl) (by kernel_rfl) (fun _ _ _ h => h) (.inl ⟨rfl, fun w' hS => rfl⟩) (SinceG.self _) ?_
        refine act_normG (by simp only [Act.put, List.setIfInBounds_toArray, List.set_cons_zero, List.set_cons_succ]; rfl) ?_
        refine wpAnyH_take (i := 7) (v := .string (S ++ strB M1)) (List.getElem?_toArray.trans rfl) (by kernel_rfl) (by kernel_rfl) (by kernel_rfl) (fun _ _ _ h => h) (.inl ⟨rfl, fun w' hS => rfl⟩) (SinceG.self _) ?_
        refine act_normG (by simp only [Act.put, List.setIfInBounds_toArray, List.set_cons_zero, List.set_cons_succ]; rfl) ?_
        refine wpAnyH_done (by kernel_rfl) ?_ _
        clear hs1 hs2 hsb HS4
        have DS2 : Dp (S ++ strB M1 = strB (wants b (l.take (j + 1)))) := ⟨by rw [DNW.out, DS.out, strB_appJ]⟩
        clear HSS DNW DK1
        generalize S ++ strB M1 = T at *
        go_upto_region 15 with fail
        have c0 : w4.cell? ⟨g, 0, none⟩ = some (.int .u64 y) := by rw [HW4.out.cell]; exact HRK.out
        have hN0 := n0.out
        have hN2 := n2.out
        have hN3 := n3.out
        have hN28 := n28.out
        have hN29 := n29.out
        clear n0 n2 n3 n28 n29
        go_step
        refine wpL_val (.pointer (some ⟨g, 0, none⟩)) rfl (by simp [go_sem, gv]) ?_
        refine act_normL (by simp only [Act.put, List.setIfInBounds_toArray, List.set_cons_zero, List.set_cons_succ]; rfl) ?_
        refine wpL_val (.int .u64 y) rfl (by simp [go_sem, gv, c0]) ?_
        refine act_normL (by simp only [Act.put, List.setIfInBounds_toArray, List.set_cons_zero, List.set_cons_succ]; rfl) ?_
        refine wpL_val (.bool N0) rfl (by simp [go_sem, gv, hN0]) ?_
        refine act_normL (by simp only [Act.put, List.setIfInBounds_toArray, List.set_cons_zero, List.set_cons_succ]; rfl) ?_
        refine wpL_val (.bool N0) rfl (by simp [go_sem, gv]) ?_
        refine act_normL (by simp only [Act.put, List.setIfInBounds_toArray, List.set_cons_zero, List.set_cons_succ]; rfl) ?_
        refine wpL_sym (N0) (.pointer (some ⟨g, 0, none⟩)) (by cases N0 <;> rfl) (by cases N0 <;> simp [go_sem, gv]) ?_
        refine act_normL (by simp only [Act.put, List.setIfInBounds_toArray, List.set_cons_zero, List.set_cons_succ]; rfl) ?_
        refine wpL_sym (N0) (.int .u64 y) (by cases N0 <;> rfl) (by cases N0 <;> simp [go_sem, gv, c0]) ?_
        refine act_normL (by simp only [Act.put, List.setIfInBounds_toArray, List.set_cons_zero, List.set_cons_succ]; rfl) ?_
        refine wpL_sym (N0) (.bool N2) (by cases N0 <;> rfl) (by cases N0 <;> simp [go_sem, gv, hN2]) ?_
        refine act_normL (by simp only [Act.put, List.setIfInBounds_toArray, List.set_cons_zero, List.set_cons_succ]; rfl) ?_
        refine wpL_val (.bool (N0 && N2)) rfl (by cases N0 <;> simp [go_sem, gv]) ?_
        refine act_normL (by simp only [Act.put, List.setIfInBounds_toArray, List.set_cons_zero, List.set_cons_succ]; rfl) ?_
        generalize (N0 && N2) = M2 at *
        refine wpL_val (.bool M2) rfl (by simp [go_sem, gv]) ?_
        refine act_normL (by simp only [Act.put, List.setIfInBounds_toArray, List.set_cons_zero, List.set_cons_succ]; rfl) ?_
        refine wpL_sym (M2) (.pointer (some ⟨g, 0, none⟩)) (by cases M2 <;> rfl) (by cases M2 <;> simp [go_sem, gv]) ?_
        refine act_normL (by simp only [Act.put, List.setIfInBounds_toArray, List.set_cons_zero, List.set_cons_succ]; rfl) ?_
        refine wpL_sym (M2) (.int .u64 y) (by cases M2 <;> rfl) (by cases M2 <;> simp [go_sem, gv, c0]) ?_
        refine act_normL (by simp only [Act.put, List.setIfInBounds_toArray, List.set_cons_zero, List.set_cons_succ]; rfl) ?_
        refine wpL_sym (M2) (.bool N3) (by cases M2 <;> rfl) (by cases M2 <;> simp [go_sem, gv, hN3]) ?_
        refine act_normL (by simp only [Act.put, List.setIfInBounds_toArray, List.set_cons_zero, List.set_cons_succ]; rfl) ?_
        refine wpL_val (.bool (M2 && N3)) rfl (by cases M2 <;> simp [go_sem, gv]) ?_
        refine act_normL (by simp only [Act.put, List.setIfInBounds_toArray, List.set_cons_zero, List.set_cons_succ]; rfl) ?_
        generalize (M2 && N3) = M3 at *
        refine wpL_val (.bool M3) rfl (by simp [go_sem, gv]) ?_
        refine act_normL (by simp only [Act.put, List.setIfInBounds_toArray, List.set_cons_zero, List.set_cons_succ]; rfl) ?_
        refine wpL_sym (M3) (.pointer (some ⟨g, 0, none⟩)) (by cases M3 <;> rfl) (by cases M3 <;> simp [go_sem, gv]) ?_
        refine act_normL (by simp only [Act.put, List.setIfInBounds_toArray, List.set_cons_zero, List.set_cons_succ]; rfl) ?_
        refine wpL_sym (M3) (.int .u64 y) (by cases M3 <;> rfl) (by cases M3 <;> simp [go_sem, gv, c0]) ?_
        refine act_normL (by simp only [Act.put, List.setIfInBounds_toArray, List.set_cons_zero, List.set_cons_succ]; rfl) ?_
        refine wpL_sym (M3) (.bool N28) (by cases M3 <;> rfl) (by cases M3 <;> simp [go_sem, gv, hN28]) ?_
        refine act_normL (by simp only [Act.put, List.setIfInBounds_toArray, List.set_cons_zero, List.set_cons_succ]; rfl) ?_
        refine wpL_val (.bool (M3 && N28)) rfl (by cases M3 <;> simp [go_sem, gv]) ?_
        refine act_normL (by simp only [Act.put, List.setIfInBounds_toArray, List.set_cons_zero, List.set_cons_succ]; rfl) ?_
        generalize (M3 && N28) = M28 at *
        refine wpL_val (.bool M28) rfl (by simp [go_sem, gv]) ?_
        refine act_normL (by simp only [Act.put, List.setIfInBounds_toArray, List.set_cons_zero, List.set_cons_succ]; rfl) ?_
        refine wpL_sym (M28) (.pointer (some ⟨g, 0, none⟩)) (by cases M28 <;> rfl) (by cases M28 <;> simp [go_sem, gv]) ?_
        refine act_normL (by simp only [Act.put, List.setIfInBounds_toArray, List.set_cons_zero, List.set_cons_succ]; rfl) ?_
        refine wpL_sym (M28) (.int .u64 y) (by cases M28 <;> rfl) (by cases M28 <;> simp [go_sem, gv, c0]) ?_
        refine act_normL (by simp only [Act.put, List.setIfInBounds_toArray, List.set_cons_zero, List.set_cons_succ]; rfl) ?_
        refine wpL_sym (M28) (.bool N29) (by cases M28 <;> rfl) (by cases M28 <;> simp [go_sem, gv, hN29]) ?_
        refine act_normL (by simp only [Act.put, List.setIfInBounds_toArray, List.set_cons_zero, List.set_cons_succ]; rfl) ?_
        refine wpL_val (.bool (M28 && N29)) rfl (by cases M28 <;> simp [go_sem, gv]) ?_
        refine act_normL (by simp only [Act.put, List.setIfInBounds_toArray, List.set_cons_zero, List.set_cons_succ]; rfl) ?_
        generalize (M28 && N29) = EB at *
        refine wpL_val (.bool EB) rfl (by simp [go_sem, gv]) ?_
        refine act_normL (by simp only [Act.put, List.setIfInBounds_toArray, List.set_cons_zero, List.set_cons_succ]; rfl) ?_
        clear c0 hN0 hN2 hN3 hN28 hN29
        go_upto_region 18 with (first
          | (refine wpList_load_any 32 (.tmp 13) rfl rfl g rfl _ R _ HW4.out Tryd.underlying32 rfl HI.out ?_)
          | (refine wpList_load_any 32 (.tmp 13) rfl rfl g rfl _ R _ HW5.out Tryd.underlying32 rfl HI.out ?_)
          | (refine wpList_load_any 32 (.tmp 13) rfl rfl g rfl _ R _ HW6.out Tryd.underlying32 rfl HI.out ?_)
          | (go_at_call 10; refine (HPM.out _ HF4.out (HT.out.below HB4.out HT.out.lt)).mono ?_; rintro e w5 ⟨hy, _, hb⟩; obtain rfl := hy HM0.out; have HW5 := Lib.hid (HW4.out.below hb HW4.out.lt); have HB5 := Lib.hid (HB4.out.trans (hb.mono HB4.out.size)); have HF5 := Lib.hid (HF4.out.up hb hb.size); clear hb; clear hy)
          | (go_at_call 11; refine (HPS.out _ HF5.out (HT.out.below HB5.out HT.out.lt)).mono ?_; rintro e w6 ⟨hy, _, hb⟩; obtain rfl := hy HM0.out; have HW6 := Lib.hid (HW5.out.below hb HW5.out.lt); have HB6 := Lib.hid (HB5.out.trans (hb.mono HB5.out.size)); have HF6 := Lib.hid (HF5.out.up hb hb.size); clear hb; clear hy)
          | (refine wpList_build_oneG rfl 23 32 (.tmp 85) rfl R 30 rfl HR30.out (by omega) (by omega) ie ze Tryd.underlying23 hie hze hse ?_)
          | (go_at_call 12; have hbn : Below w6.heap.size w6 (w6.alloc (.cells R 32)) := (Below.refl _ _).alloc (Nat.le_refl _) _; refine (HPE.out _ _ (Wh.new _ _ R) (HF6.out.up hbn hbn.size)).mono ?_; rintro e w7 ⟨rfl, hb⟩; have HB7 := Lib.hid (HB6.out.trans ((hbn.trans (hb.mono hbn.size)).mono HB6.out.size)); clear hb hbn))
        go_step
        refine wpL_val (.bool P) rfl (by simp [go_sem, gv]) ?_
        refine act_normL (by simp only [Act.put, List.setIfInBounds_toArray, List.set_cons_zero, List.set_cons_succ]; rfl) ?_
        refine wpL_val (.bool P) rfl (by simp [go_sem, gv]) ?_
        refine act_normL (by simp only [Act.put, List.setIfInBounds_toArray, List.set_cons_zero, List.set_cons_succ]; rfl) ?_
        refine wpL_sym (P) (.bool true) (by cases P <;> rfl) (by cases P <;> simp [go_sem, gv]) ?_
        refine act_normL (by simp only [Act.put, List.setIfInBounds_toArray, List.set_cons_zero, List.set_cons_succ]; rfl) ?_
        refine wpL_val (.bool (P && true)) rfl (by cases P <;> simp [go_sem, gv]) ?_
        refine act_normL (by simp only [Act.put, List.setIfInBounds_toArray, List.set_cons_zero, List.set_cons_succ]; rfl) ?_
        refine wpL_val (.bool E) rfl (by simp [go_sem, gv]) ?_
        refine act_normL (by simp only [Act.put, List.setIfInBounds_toArray, List.set_cons_zero, List.set_cons_succ]; rfl) ?_
        refine wpL_val (.bool E) rfl (by simp [go_sem, gv]) ?_
        refine act_normL (by simp only [Act.put, List.setIfInBounds_toArray, List.set_cons_zero, List.set_cons_succ]; rfl) ?_
        refine wpL_sym (!E) (.bool EB) (by cases E <;> rfl) (by cases E <;> simp [go_sem, gv]) ?_
        refine act_normL (by simp only [Act.put, List.setIfInBounds_toArray, List.set_cons_zero, List.set_cons_succ]; rfl) ?_
        refine wpL_val (.bool (E || EB)) rfl (by cases E <;> simp [go_sem, gv]) ?_
        refine act_normL (by simp only [Act.put, List.setIfInBounds_toArray, List.set_cons_zero, List.set_cons_succ]; rfl) ?_
        refine wpL_val (.bool (P && true)) rfl (by simp [go_sem, gv]) ?_
        refine act_normL (by simp only [Act.put, List.setIfInBounds_toArray, List.set_cons_zero, List.set_cons_succ]; rfl) ?_
        refine wpL_val (.bool (E || EB)) rfl (by simp [go_sem, gv]) ?_
        refine act_normL (by simp only [Act.put, List.setIfInBounds_toArray, List.set_cons_zero, List.set_cons_succ]; rfl) ?_
        go_wp2_with fail
        go_roundw
        case rel => exact ⟨j + 1, T, P && true, E || EB, by omega, by go_num, DS2, rfl, rfl, rfl, ⟨by rw [DPY.out, DP.out]⟩, ⟨by rw [DNE.out, DE.out, HEL.out]⟩, HB7⟩
        case measure => simp [intOf]; omega
      · have HM0 := Lib.hid hm
        have HMR := Lib.hid (fun h => hm (HMI.out.1 h))
        have DPY := Dp.mk (DNN.out hm)
        have DS2 : Dp (S = strB (wants b (l.take (j + 1)))) := ⟨by rw [DNW.out, wB_no hm, List.append_nil]; exact DS.out⟩
        clear hm DNW DNY DNN HSS hwt
        go_upto_region 15 with (first
          | (refine wpList_load_any 32 (.tmp 13) rfl rfl g rfl _ R _ HW1.out Tryd.underlying32 rfl HI.out ?_)
          | (go_at_call 8; refine (HMM.out _ HF1.out).mono ?_; rintro e w4 ⟨_, hy, hb⟩; obtain rfl := hy HMR.out; have HW4 := Lib.hid (HW1.out.below hb HW1.out.lt); have HB4 := Lib.hid (HB1.out.trans (hb.mono HB1.out.size)); have HF4 := Lib.hid (HF1.out.up hb hb.size); clear hb; clear hy))
        clear HW1 HB1 HF1 HMM HMR HMI
        have c0 : w4.cell? ⟨g, 0, none⟩ = some (.int .u64 y) := by rw [HW4.out.cell]; exact HRK.out
        have hN0 := n0.out
        have hN2 := n2.out
        have hN3 := n3.out
        have hN28 := n28.out
        have hN29 := n29.out
        clear n0 n2 n3 n28 n29
        go_step
        refine wpL_val (.pointer (some ⟨g, 0, none⟩)) rfl (by simp [go_sem, gv]) ?_
        refine act_normL (by simp only [Act.put, List.setIfInBounds_toArray, List.set_cons_zero, List.set_cons_succ]; rfl) ?_
        refine wpL_val (.int .u64 y) rfl (by simp [go_sem, gv, c0]) ?_
        refine act_normL (by simp only [Act.put, List.setIfInBounds_toArray, List.set_cons_zero, List.set_cons_succ]; rfl) ?_
        refine wpL_val (.bool N0) rfl (by simp [go_sem, gv, hN0]) ?_
        refine act_normL (by simp only [Act.put, List.setIfInBounds_toArray, List.set_cons_zero, List.set_cons_succ]; rfl) ?_
        refine wpL_val (.bool N0) rfl (by simp [go_sem, gv]) ?_
        refine act_normL (by simp only [Act.put, List.setIfInBounds_toArray, List.set_cons_zero, List.set_cons_succ]; rfl) ?_
        refine wpL_sym (N0) (.pointer (some ⟨g, 0, none⟩)) (by cases N0 <;> rfl) (by cases N0 <;> simp [go_sem, gv]) ?_
        refine act_normL (by simp only [Act.put, List.setIfInBounds_toArray, List.set_cons_zero, List.set_cons_succ]; rfl) ?_
        refine wpL_sym (N0) (.int .u64 y) (by cases N0 <;> rfl) (by cases N0 <;> simp [go_sem, gv, c0]) ?_
        refine act_normL (by simp only [Act.put, List.setIfInBounds_toArray, List.set_cons_zero, List.set_cons_succ]; rfl) ?_
        refine wpL_sym (N0) (.bool N2) (by cases N0 <;> rfl) (by cases N0 <;> simp [go_sem, gv, hN2]) ?_
        refine act_normL (by simp only [Act.put, List.setIfInBounds_toArray, List.set_cons_zero, List.set_cons_succ]; rfl) ?_
        refine wpL_val (.bool (N0 && N2)) rfl (by cases N0 <;> simp [go_sem, gv]) ?_
        refine act_normL (by simp only [Act.put, List.setIfInBounds_toArray, List.set_cons_zero, List.set_cons_succ]; rfl) ?_
        generalize (N0 && N2) = M2 at *
        refine wpL_val (.bool M2) rfl (by simp [go_sem, gv]) ?_
        refine act_normL (by simp only [Act.put, List.setIfInBounds_toArray, List.set_cons_zero, List.set_cons_succ]; rfl) ?_
        refine wpL_sym (M2) (.pointer (some ⟨g, 0, none⟩)) (by cases M2 <;> rfl) (by cases M2 <;> simp [go_sem, gv]) ?_
        refine act_normL (by simp only [Act.put, List.setIfInBounds_toArray, List.set_cons_zero, List.set_cons_succ]; rfl) ?_
        refine wpL_sym (M2) (.int .u64 y) (by cases M2 <;> rfl) (by cases M2 <;> simp [go_sem, gv, c0]) ?_
        refine act_normL (by simp only [Act.put, List.setIfInBounds_toArray, List.set_cons_zero, List.set_cons_succ]; rfl) ?_
        refine wpL_sym (M2) (.bool N3) (by cases M2 <;> rfl) (by cases M2 <;> simp [go_sem, gv, hN3]) ?_
        refine act_normL (by simp only [Act.put, List.setIfInBounds_toArray, List.set_cons_zero, List.set_cons_succ]; rfl) ?_
        refine wpL_val (.bool (M2 && N3)) rfl (by cases M2 <;> simp [go_sem, gv]) ?_
        refine act_normL (by simp only [Act.put, List.setIfInBounds_toArray, List.set_cons_zero, List.set_cons_succ]; rfl) ?_
        generalize (M2 && N3) = M3 at *
        refine wpL_val (.bool M3) rfl (by simp [go_sem, gv]) ?_
        refine act_normL (by simp only [Act.put, List.setIfInBounds_toArray, List.set_cons_zero, List.set_cons_succ]; rfl) ?_
        refine wpL_sym (M3) (.pointer (some ⟨g, 0, none⟩)) (by cases M3 <;> rfl) (by cases M3 <;> simp [go_sem, gv]) ?_
        refine act_normL (by simp only [Act.put, List.setIfInBounds_toArray, List.set_cons_zero, List.set_cons_succ]; rfl) ?_
        refine wpL_sym (M3) (.int .u64 y) (by cases M3 <;> rfl) (by cases M3 <;> simp [go_sem, gv, c0]) ?_
        refine act_normL (by simp only [Act.put, List.setIfInBounds_toArray, List.set_cons_zero, List.set_cons_succ]; rfl) ?_
        refine wpL_sym (M3) (.bool N28) (by cases M3 <;> rfl) (by cases M3 <;> simp [go_sem, gv, hN28]) ?_
        refine act_normL (by simp only [Act.put, List.setIfInBounds_toArray, List.set_cons_zero, List.set_cons_succ]; rfl) ?_
        refine wpL_val (.bool (M3 && N28)) rfl (by cases M3 <;> simp [go_sem, gv]) ?_
        refine act_normL (by simp only [Act.put, List.setIfInBounds_toArray, List.set_cons_zero, List.set_cons_succ]; rfl) ?_
        generalize (M3 && N28) = M28 at *
        refine wpL_val (.bool M28) rfl (by simp [go_sem, gv]) ?_
        refine act_normL (by simp only [Act.put, List.setIfInBounds_toArray, List.set_cons_zero, List.set_cons_succ]; rfl) ?_
        refine wpL_sym (M28) (.pointer (some ⟨g, 0, none⟩)) (by cases M28 <;> rfl) (by cases M28 <;> simp [go_sem, gv]) ?_
        refine act_normL (by simp only [Act.put, List.setIfInBounds_toArray, List.set_cons_zero, List.set_cons_succ]; rfl) ?_
        refine wpL_sym (M28) (.int .u64 y) (by cases M28 <;> rfl) (by cases M28 <;> simp [go_sem, gv, c0]) ?_
        refine act_normL (by simp only [Act.put, List.setIfInBounds_toArray, List.set_cons_zero, List.set_cons_succ]; rfl) ?_
        refine wpL_sym (M28) (.bool N29) (by cases M28 <;> rfl) (by cases M28 <;> simp [go_sem, gv, hN29]) ?_
        refine act_normL (by simp only [Act.put, List.setIfInBounds_toArray, List.set_cons_zero, List.set_cons_succ]; rfl) ?_
        refine wpL_val (.bool (M28 && N29)) rfl (by cases M28 <;> simp [go_sem, gv]) ?_
        refine act_normL (by simp only [Act.put, List.setIfInBounds_toArray, List.set_cons_zero, List.set_cons_succ]; rfl) ?_
        generalize (M28 && N29) = EB at *
        refine wpL_val (.bool EB) rfl (by simp [go_sem, gv]) ?_
        refine act_normL (by simp only [Act.put, List.setIfInBounds_toArray, List.set_cons_zero, List.set_cons_succ]; rfl) ?_
        clear c0 hN0 hN2 hN3 hN28 hN29
        go_upto_region 18 with (first
          | (refine wpList_load_any 32 (.tmp 13) rfl rfl g rfl _ R _ HW4.out Tryd.underlying32 rfl HI.out ?_)
          | (refine wpList_load_any 32 (.tmp 13) rfl rfl g rfl _ R _ HW5.out Tryd.underlying32 rfl HI.out ?_)
          | (refine wpList_load_any 32 (.tmp 13) rfl rfl g rfl _ R _ HW6.out Tryd.underlying32 rfl HI.out ?_)
          | (go_at_call 10; refine (HPM.out _ HF4.out (HT.out.below HB4.out HT.out.lt)).mono ?_; rintro e w5 ⟨_, hy, hb⟩; obtain rfl := hy HM0.out; have HW5 := Lib.hid (HW4.out.below hb HW4.out.lt); have HB5 := Lib.hid (HB4.out.trans (hb.mono HB4.out.size)); have HF5 := Lib.hid (HF4.out.up hb hb.size); clear hb; clear hy)
          | (go_at_call 11; refine (HPS.out _ HF5.out (HT.out.below HB5.out HT.out.lt)).mono ?_; rintro e w6 ⟨_, hy, hb⟩; obtain rfl := hy HM0.out; have HW6 := Lib.hid (HW5.out.below hb HW5.out.lt); have HB6 := Lib.hid (HB5.out.trans (hb.mono HB5.out.size)); have HF6 := Lib.hid (HF5.out.up hb hb.size); clear hb; clear hy)
          | (refine wpList_build_oneG rfl 23 32 (.tmp 85) rfl R 30 rfl HR30.out (by omega) (by omega) ie ze Tryd.underlying23 hie hze hse ?_)
          | (go_at_call 12; have hbn : Below w6.heap.size w6 (w6.alloc (.cells R 32)) := (Below.refl _ _).alloc (Nat.le_refl _) _; refine (HPE.out _ _ (Wh.new _ _ R) (HF6.out.up hbn hbn.size)).mono ?_; rintro e w7 ⟨rfl, hb⟩; have HB7 := Lib.hid (HB6.out.trans ((hbn.trans (hb.mono hbn.size)).mono HB6.out.size)); clear hb hbn))
        go_step
        refine wpL_val (.bool P) rfl (by simp [go_sem, gv]) ?_
        refine act_normL (by simp only [Act.put, List.setIfInBounds_toArray, List.set_cons_zero, List.set_cons_succ]; rfl) ?_
        refine wpL_val (.bool P) rfl (by simp [go_sem, gv]) ?_
        refine act_normL (by simp only [Act.put, List.setIfInBounds_toArray, List.set_cons_zero, List.set_cons_succ]; rfl) ?_
        refine wpL_sym (P) (.bool false) (by cases P <;> rfl) (by cases P <;> simp [go_sem, gv]) ?_
        refine act_normL (by simp only [Act.put, List.setIfInBounds_toArray, List.set_cons_zero, List.set_cons_succ]; rfl) ?_
        refine wpL_val (.bool (P && false)) rfl (by cases P <;> simp [go_sem, gv]) ?_
        refine act_normL (by simp only [Act.put, List.setIfInBounds_toArray, List.set_cons_zero, List.set_cons_succ]; rfl) ?_
        refine wpL_val (.bool E) rfl (by simp [go_sem, gv]) ?_
        refine act_normL (by simp only [Act.put, List.setIfInBounds_toArray, List.set_cons_zero, List.set_cons_succ]; rfl) ?_
        refine wpL_val (.bool E) rfl (by simp [go_sem, gv]) ?_
        refine act_normL (by simp only [Act.put, List.setIfInBounds_toArray, List.set_cons_zero, List.set_cons_succ]; rfl) ?_
        refine wpL_sym (!E) (.bool EB) (by cases E <;> rfl) (by cases E <;> simp [go_sem, gv]) ?_
        refine act_normL (by simp only [Act.put, List.setIfInBounds_toArray, List.set_cons_zero, List.set_cons_succ]; rfl) ?_
        refine wpL_val (.bool (E || EB)) rfl (by cases E <;> simp [go_sem, gv]) ?_
        refine act_normL (by simp only [Act.put, List.setIfInBounds_toArray, List.set_cons_zero, List.set_cons_succ]; rfl) ?_
        refine wpL_val (.bool (P && false)) rfl (by simp [go_sem, gv]) ?_
        refine act_normL (by simp only [Act.put, List.setIfInBounds_toArray, List.set_cons_zero, List.set_cons_succ]; rfl) ?_
        refine wpL_val (.bool (E || EB)) rfl (by simp [go_sem, gv]) ?_
        refine act_normL (by simp only [Act.put, List.setIfInBounds_toArray, List.set_cons_zero, List.set_cons_succ]; rfl) ?_
        go_wp2_with fail
        go_roundw
        case rel => exact ⟨j + 1, S, P && false, E || EB, by omega, by go_num, DS2, rfl, rfl, rfl, ⟨by rw [DPY.out, DP.out]⟩, ⟨by rw [DNE.out, DE.out, HEL.out]⟩, HB7⟩
        case measure => simp [intOf]; omega
    · obtain rfl : j = len := by omega
      have htk : l.take j = l := List.take_of_length_le (by rw [HL.out]; exact Nat.le_refl _)
      rw [htk] at DS DP DE
      rw [← DE.out] at HELL
      clear htk hlt HSS hws DE
      generalize wr = wl at *
      have HTR : Hid (PT wl) := HT.out.below HB.out HT.out.lt
      go_upto_region 21 with (go_at_call 13; obtain ⟨ff, hff⟩ := HFO.out wl; refine hff.mono ?_; rintro e w' ⟨rfl, rfl⟩; clear hff)
      have hK4 := k4.out
      have hK6 := k6.out
      have hK28 := k28.out
      have hS2 := s2.out
      have hS1 := s1.out
      clear k4 k6 k28 s2 s1 HFO
      go_step
      refine wpL_val (.int .u64 yk) rfl (by simp [go_sem, gv]) ?_
      refine act_normL (by simp only [Act.put, List.setIfInBounds_toArray, List.set_cons_zero, List.set_cons_succ]; rfl) ?_
      refine wpL_val (.bool K4) rfl (by simp [go_sem, gv, hK4]) ?_
      refine act_normL (by simp only [Act.put, List.setIfInBounds_toArray, List.set_cons_zero, List.set_cons_succ]; rfl) ?_
      refine wpL_val (.bool K4) rfl (by simp [go_sem, gv]) ?_
      refine act_normL (by simp only [Act.put, List.setIfInBounds_toArray, List.set_cons_zero, List.set_cons_succ]; rfl) ?_
      refine wpL_sym (!K4) (.int .u64 yk) (by cases K4 <;> rfl) (by cases K4 <;> simp [go_sem, gv]) ?_
      refine act_normL (by simp only [Act.put, List.setIfInBounds_toArray, List.set_cons_zero, List.set_cons_succ]; rfl) ?_
      refine wpL_sym (!K4) (.bool K6) (by cases K4 <;> rfl) (by cases K4 <;> simp [go_sem, gv, hK6]) ?_
      refine act_normL (by simp only [Act.put, List.setIfInBounds_toArray, List.set_cons_zero, List.set_cons_succ]; rfl) ?_
      refine wpL_val (.bool (K4 || K6)) rfl (by cases K4 <;> simp [go_sem, gv]) ?_
      refine act_normL (by simp only [Act.put, List.setIfInBounds_toArray, List.set_cons_zero, List.set_cons_succ]; rfl) ?_
      generalize (K4 || K6) = C1 at *
      refine wpL_val (.bool C1) rfl (by simp [go_sem, gv]) ?_
      refine act_normL (by simp only [Act.put, List.setIfInBounds_toArray, List.set_cons_zero, List.set_cons_succ]; rfl) ?_
      refine wpL_sym (!C1) (.int .u64 yk) (by cases C1 <;> rfl) (by cases C1 <;> simp [go_sem, gv]) ?_
      refine act_normL (by simp only [Act.put, List.setIfInBounds_toArray, List.set_cons_zero, List.set_cons_succ]; rfl) ?_
      refine wpL_sym (!C1) (.bool K28) (by cases C1 <;> rfl) (by cases C1 <;> simp [go_sem, gv, hK28]) ?_
      refine act_normL (by simp only [Act.put, List.setIfInBounds_toArray, List.set_cons_zero, List.set_cons_succ]; rfl) ?_
      refine wpL_val (.bool (C1 || K28)) rfl (by cases C1 <;> simp [go_sem, gv]) ?_
      refine act_normL (by simp only [Act.put, List.setIfInBounds_toArray, List.set_cons_zero, List.set_cons_succ]; rfl) ?_
      generalize (C1 || K28) = EA at *
      refine wpL_val (.bool EA) rfl (by simp [go_sem, gv]) ?_
      refine act_normL (by simp only [Act.put, List.setIfInBounds_toArray, List.set_cons_zero, List.set_cons_succ]; rfl) ?_
      go_upto_region 22 with fail
      go_step
      refine wpL_val (.int .u8 ys) rfl (by simp [go_sem, gv]) ?_
      refine act_normL (by simp only [Act.put, List.setIfInBounds_toArray, List.set_cons_zero, List.set_cons_succ]; rfl) ?_
      refine wpL_val (.int .u64 yk) rfl (by simp [go_sem, gv]) ?_
      refine act_normL (by simp only [Act.put, List.setIfInBounds_toArray, List.set_cons_zero, List.set_cons_succ]; rfl) ?_
      refine wpL_call (.bool AL) rfl (by simp [go_sem, gv]) (HAW.out _ HTR.out) ?_
      refine act_normL (by simp only [Act.put, List.setIfInBounds_toArray, List.set_cons_zero, List.set_cons_succ]; rfl) ?_
      refine wpL_val (.bool NF) rfl (by simp [go_sem, gv]) ?_
      refine act_normL (by simp only [Act.put, List.setIfInBounds_toArray, List.set_cons_zero, List.set_cons_succ]; rfl) ?_
      refine wpL_val (.bool NF) rfl (by simp [go_sem, gv]) ?_
      refine act_normL (by simp only [Act.put, List.setIfInBounds_toArray, List.set_cons_zero, List.set_cons_succ]; rfl) ?_
      refine wpL_sym (NF) (.int .u8 ys) (by cases NF <;> rfl) (by cases NF <;> simp [go_sem, gv]) ?_
      refine act_normL (by simp only [Act.put, List.setIfInBounds_toArray, List.set_cons_zero, List.set_cons_succ]; rfl) ?_
      refine wpL_sym (NF) (.bool S2) (by cases NF <;> rfl) (by cases NF <;> simp [go_sem, gv, hS2]) ?_
      refine act_normL (by simp only [Act.put, List.setIfInBounds_toArray, List.set_cons_zero, List.set_cons_succ]; rfl) ?_
      refine wpL_sym (NF) (.bool S2) (by cases NF <;> rfl) (by cases NF <;> simp [go_sem, gv]) ?_
      refine act_normL (by simp only [Act.put, List.setIfInBounds_toArray, List.set_cons_zero, List.set_cons_succ]; rfl) ?_
      refine wpL_sym (NF && !S2) (.int .u8 ys) (by cases NF <;> cases S2 <;> rfl) (by cases NF <;> cases S2 <;> simp [go_sem, gv]) ?_
      refine act_normL (by simp only [Act.put, List.setIfInBounds_toArray, List.set_cons_zero, List.set_cons_succ]; rfl) ?_
      refine wpL_sym (NF && !S2) (.bool S1) (by cases NF <;> cases S2 <;> rfl) (by cases NF <;> cases S2 <;> simp [go_sem, gv, hS1]) ?_
      refine act_normL (by simp only [Act.put, List.setIfInBounds_toArray, List.set_cons_zero, List.set_cons_succ]; rfl) ?_
      refine wpL_sym (NF && !S2) (.bool S1) (by cases NF <;> cases S2 <;> rfl) (by cases NF <;> cases S2 <;> simp [go_sem, gv]) ?_
      refine act_normL (by simp only [Act.put, List.setIfInBounds_toArray, List.set_cons_zero, List.set_cons_succ]; rfl) ?_
      refine wpL_sym ((NF && !S2) && S1) (.bool EA) (by cases NF <;> cases S2 <;> cases S1 <;> rfl) (by cases NF <;> cases S2 <;> cases S1 <;> simp [go_sem, gv]) ?_
      refine act_normL (by simp only [Act.put, List.setIfInBounds_toArray, List.set_cons_zero, List.set_cons_succ]; rfl) ?_
      refine wpL_sym (NF && !S2) (.bool (S1 && EA)) (by cases NF <;> cases S2 <;> rfl) (by cases NF <;> cases S2 <;> cases S1 <;> simp [go_sem, gv]) ?_
      refine act_normL (by simp only [Act.put, List.setIfInBounds_toArray, List.set_cons_zero, List.set_cons_succ]; rfl) ?_
      refine wpL_sym (NF) (.bool (S2 || (S1 && EA))) (by cases NF <;> rfl) (by cases NF <;> cases S2 <;> simp [go_sem, gv]) ?_
      refine act_normL (by simp only [Act.put, List.setIfInBounds_toArray, List.set_cons_zero, List.set_cons_succ]; rfl) ?_
      refine wpL_val (.bool AL) rfl (by rw [← HAL.out]; cases NF <;> simp [go_sem, gv]) ?_
      refine act_normL (by simp only [Act.put, List.setIfInBounds_toArray, List.set_cons_zero, List.set_cons_succ]; rfl) ?_
      refine wpL_val (.bool false) rfl (by simp [go_sem, gv]) ?_
      refine act_normL (by simp only [Act.put, List.setIfInBounds_toArray, List.set_cons_zero, List.set_cons_succ]; rfl) ?_
      refine wpL_val (.bool false) rfl (by simp [go_sem, gv]) ?_
      refine act_normL (by simp only [Act.put, List.setIfInBounds_toArray, List.set_cons_zero, List.set_cons_succ]; rfl) ?_
      clear hK4 hK6 hK28 hS2 hS1 HAL HAW
      go_upto_region 24 with (go_at_call 12; refine (HELL.out _ HB.out).mono ?_; rintro e w5 ⟨rfl, hb⟩; have HB5 := Lib.hid (HB.out.trans (hb.mono HB.out.size)); clear hb)
      go_wp2_with fail
      refine (HAPP.out _ HB5.out).mono ?_
      rintro e w6 ⟨hyes, hno, hb⟩
      have HB6 := Lib.hid (HB5.out.trans (hb.mono HB5.out.size))
      clear hb HB5
      have DP2 := DP.out
      clear DP
      cases P
      · obtain rfl := hno (mays_not DP2.symm)
        clear hyes hno DP2
        go_wp2_with fail
        go_ret
        exact ⟨rfl, HB6.out⟩
      · have hall := mays_all DP2.symm
        obtain ⟨A6, c6, rfl, h6a, h6b, hown⟩ := hyes hall
        have DSL := DS.out
        rw [wants_all hall] at DSL
        clear hyes hno DP2 hall DS
        have hsl := Sv.of_own hown
        clear hown
        generalize b ++ bytesL l = M at *
        obtain ⟨K, hK⟩ : ∃ K, M.length = K := ⟨_, rfl⟩
        rw [hK] at h6a ⊢
        have hstr := run_string_sl (P := Tryd.prog) w6 22 9 5 Tryd.underlying22 Tryd.underlying5 Tryd.underlying9 w6.heap.size A6 K c6 M hsl hK
        clear hsl hK
        rw [← DSL] at hstr
        clear DSL
        go_wp2_with fail
        go_ret
        exact ⟨rfl, HB6.out⟩

theorem fapp_any (l : List (PF × SA)) (b : List UInt8) (A : Option Addr) (n c : Nat) (A2 : Option Addr) (len c2 : Nat) (s k : Nat) (w : World) (hT : PT w) (hTab : Tab w) (hl : l.length = len) (hlen : len ≤ 140737488355328) (hf : Sf w w.heap.size A2 l)
    (hb : b.length = n) (hbn : n ≤ 140737488351232) (hs : Sl w w.heap.size A b) :
    Calls Tryd.prog 3 #[.slice A n c, .slice A2 len c2, .int .u8 (s : Int), .int .u64 (k : Int)] w fun e w' => e = .returned (.bool true) ∧ Below w.heap.size w w' := by
  by_cases ho : 4000 < greatN 0 l ∨ 1000 < n
  · exact fapp_out l A n c A2 len c2 s k w hT hl hf hlen hbn ho
  · exact fapp_in l b A n c A2 len c2 s k w hT hTab hl hf hb hs (fun h => ho (.inl h)) (by omega)
end

end Go.Proofs.YtkkojhkglcigmaaDoor
