/-
  slices.SortFunc at ranges: a row of one's own is brought in order, by where its ranges begin.
-/
import Derived.Test.YtaemfoelhijbjaaSpDel3
namespace Go.Proofs.Ytaemfoelhijbjaa
open Go.RowKit
set_option linter.unusedVariables false

theorem lt_from (x y : Nat × Nat) : ltOf (fun x y : Nat × Nat => cmpS x.1 y.1) x y = decide (x.1 < y.1) := by
  unfold ltOf cmpS
  by_cases h1 : x.1 < y.1
  · simp [h1]
  · by_cases h2 : y.1 < x.1 <;> simp [h1, h2]

theorem swo_from : Go.Sort.SWO (ltOf fun x y : Nat × Nat => cmpS x.1 y.1) where
  irrefl x := by rw [lt_from]; simp
  trans x y z h1 h2 := by rw [lt_from] at *; simp at *; omega
  ntrans x y z h1 h2 := by rw [lt_from] at *; simp at *; omega

/-- A row, by its cells. -/
theorem RowAt.of {w : World} {base g n c : Nat} {cur : Array Value} {l : List (Nat × Nat)} (hb : base ≤ g) (hw : Wh w g 42 cur) (hc : n ≤ c) (hm : c ≤ maxLen) (hs : cur.size = c * 2) (hl : l.length = n)
    (h : ∀ i x, l[i]? = some x → w.cell? ⟨g, 0 + i * 2, none⟩ = some (.int .u64 (x.1 : Int)) ∧ w.cell? ⟨g, 0 + i * 2 + 1, none⟩ = some (.int .u64 (x.2 : Int))) : RowAt w base g n c l := by
  have hf := cells_of_flat h
  refine ownR_of hb hw hc hm hs (by rw [rcS_len, hl]) ?_
  apply List.ext_getElem?
  intro j
  by_cases hj : j < n * 2
  · rw [List.getElem?_take_of_lt hj]
    obtain ⟨u, hu⟩ : ∃ u, (l.flatMap rcS)[j]? = some u := ⟨_, List.getElem?_eq_getElem (by rw [rcS_len]; omega)⟩
    have := hf j u hu
    rw [Nat.zero_add, hw.cell] at this
    rw [hu, ← this]
    simp
  · rw [List.getElem?_eq_none (by simp; omega), List.getElem?_eq_none (by rw [rcS_len]; omega)]

theorem holds_of {w : World} {base g n c : Nat} {l : List (Nat × Nat)} (h : RowAt w base g n c l) (hl : l.length = n) : Go.Sort.HoldsK rcS 2 w g 0 l.toArray := by
  by_cases hn : n = 0
  · have : l = [] := List.eq_nil_of_length_eq_zero (by omega)
    subst this
    intro j hj
    rw [Go.Sort.size_flatK] at hj
    simp at hj
  obtain ⟨cur, hwh, _⟩ := h.wh
  intro j hj
  rw [Go.Sort.size_flatK] at hj
  simp only [List.size_toArray] at hj
  rw [Go.Sort.get_flatK _ _ _ _ (by simpa using hj)]
  obtain ⟨i, hji⟩ : ∃ i, j = i * 2 ∨ j = i * 2 + 1 := ⟨j / 2, by omega⟩
  have hi : i < l.length := by omega
  have hx : l[i]? = some l[i] := List.getElem?_eq_getElem hi
  have hc := h.cell hx
  have hd : j / 2 = i := by omega
  have he : l.toArray[j / 2]! = l[i] := by rw [hd]; simp [hi]
  rw [he, Nat.zero_add]
  refine ⟨?_, hwh.frozen j⟩
  rcases hji with rfl | rfl
  · rw [hc.1, show i * 2 % 2 = 0 by omega]
    rfl
  · rw [hc.2, show (i * 2 + 1) % 2 = 1 by omega]
    rfl

theorem perm_of {d d' : Array (Nat × Nat)} (h : Go.Sort.PermIn 0 d.size d d') : d'.size = d.size ∧ d'.toList.Perm d.toList := by
  obtain ⟨h1, _, h3⟩ := h
  refine ⟨h1, ?_⟩
  have e1 : d.extract 0 d.size = d := by simp
  have e2 : d'.extract 0 d.size = d' := by rw [← h1]; simp
  rwa [e1, e2] at h3

theorem sorted_of {d : Array (Nat × Nat)} (h : Go.Sort.SortedIn (ltOf fun x y : Nat × Nat => cmpS x.1 y.1) 0 d.size d) : d.toList.Pairwise (fun r s => r.1 ≤ s.1) := by
  rw [List.pairwise_iff_getElem]
  intro i j hi hj hij
  have := h i j (Nat.zero_le _) hij (by simpa using hj)
  rw [lt_from] at this
  simp only [decide_eq_false_iff_not, Nat.not_lt] at this
  have hi' : i < d.size := by simpa using hi
  have hj' : j < d.size := by simpa using hj
  rw [getElem!_pos d i hi', getElem!_pos d j hj'] at this
  simpa using this

theorem sort_any (base g n c : Nat) (l : List (Nat × Nat)) (w : World) (hown : RowAt w base g n c l) (hl : l.length = n) (hlen : n ≤ 16777216) :
    Calls Try.prog 30 #[.slice (some ⟨g, 0, none⟩) n c, .func (.func 31) #[] #[]] w fun e w' =>
      e = .returned (.tuple #[]) ∧ ∃ l', l'.Perm l ∧ l'.Pairwise (fun r s => r.1 ≤ s.1) ∧ RowAt w' base g n c l' ∧ w.grownBy w' (some g) := by
  obtain ⟨cur, hwh, hb, hnc, hcm, hsz⟩ := hown.wh
  have hg := hwh.lt
  have hH := holds_of hown hl
  have eg : ∀ args w, (callFunc 31 args).run Try.prog w = .ok (.enter 31 args) w := enters_of Try.func31 (by kernel_rfl) rfl
  have hcmp : CmpLays Try.prog 31 #[] rcS 2 (fun x y : Nat × Nat => cmpS x.1 y.1) g 0 l.toArray.size w := fun _ _ _ _ x y => byFrom_any x y _
  have hcon := AnyQ.slices_SortFunc sortRg 2 Try.isAgg42 Try.sizeOf42 rcS (fun _ => rfl) rcS_one (fun x y => cmpS x.1 y.1) swo_from 31 #[] g 0 c l.toArray w eg hcmp hH hg (by simp; omega)
  rw [show l.toArray.size = n by simpa using hl] at hcon
  refine Calls.mono hcon ?_
  rintro e w' ⟨rfl, d', m, os, hp, hs, rfl⟩
  refine ⟨rfl, d'.toList, ?_, ?_, ?_, ?_⟩
  · have := (perm_of (d := l.toArray) (d' := d') (by simpa [hl] using hp)).2
    simpa using this
  · have h1 : d'.size = n := by have := hp.1; simpa [hl] using this
    exact sorted_of (by rw [h1]; exact hs)
  · have h1 : d'.size = n := by have := hp.1; simpa [hl] using this
    have hH2 := Go.Sort.holdsK_grow rcS 2 (Go.Sort.putRowK rcS 2 (Go.Sort.ahead w m) g 0 d') os g 0 d' (by simpa [Go.Sort.putRowK] using hg) (Go.Sort.holdsK_putRowK rcS 2 (Go.Sort.ahead w m) g 0 l.toArray d' (Go.Sort.holdsK_ahead rcS 2 w m g 0 l.toArray hH) (by simp [h1, hl]))
    have hwh2 : Wh (Go.Sort.grow (Go.Sort.putRowK rcS 2 (Go.Sort.ahead w m) g 0 d') os) g 42 (Go.Sort.putCells id 0 (Go.Sort.flatK rcS 2 d') cur) := by
      unfold Wh
      rw [Go.Sort.heap_grow_old _ _ (by simpa [Go.Sort.putRowK] using hg)]
      unfold Wh at hwh
      simp [Go.Sort.putRowK, Go.Sort.putRow, Go.Sort.mapBlock, Go.Sort.ahead, Array.getElem?_modify, hwh, Go.Sort.onCells]
    refine RowAt.of hb hwh2 hnc hcm (by simpa [Go.Sort.putCells] using hsz) (by simpa using h1) fun i x hx => ?_
    have hi : i < d'.size := by have := (List.getElem?_eq_some_iff.1 hx).1; simpa using this
    have he : d'[i]! = x := by
      rw [getElem!_pos _ i hi]
      have := (List.getElem?_eq_some_iff.1 hx).2
      simpa using this
    have c0 := (hH2.cell hi (show 0 < 2 by omega)).1
    have c1 := (hH2.cell hi (show 1 < 2 by omega)).1
    rw [he] at c0 c1
    exact ⟨c0, c1⟩
  · refine ⟨rfl, rfl, rfl, by simp [sortWorldK, Go.Sort.putRowK, Go.Sort.ahead], fun k hk hne => ?_⟩
    have hkg : ¬ g = k := fun e => hne (by rw [e])
    unfold sortWorldK
    rw [Go.Sort.heap_grow_old _ _ (by simpa [Go.Sort.putRowK] using hk)]
    simp [Go.Sort.putRowK, Go.Sort.putRow, Go.Sort.mapBlock, Go.Sort.ahead, Array.getElem?_modify, hkg]

end Go.Proofs.Ytaemfoelhijbjaa
