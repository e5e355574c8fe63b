/-
  The walk through hostlerlaw14.RenoFlight.
-/
import Derived.Test.YtmidlgojknfooaaRnSms
namespace Go.Proofs.Ytmidlgojknfooaa
open Go.RowKit
set_option linter.unusedVariables false

theorem info64N : (Try.prog.info? 28).map (fun i => (i.zero, i.size, i.bytes)) = some (some (.int .u64 0), 1, 8) := by kernel_rfl
theorem cell64_one (l : List Nat) : ∀ u ∈ l.map cell64, u.oneCell' = true := by
  intro u hu
  obtain ⟨_, _, rfl⟩ := List.mem_map.1 hu
  rfl

theorem sum_le {l : List Nat} {m : Nat} (h : ∀ n ∈ l, n ≤ m) : l.sum ≤ l.length * m := by
  induction l with
  | nil => simp
  | cons x l ih =>
    have h1 := h x (List.mem_cons_self ..)
    have h2 := ih fun n hn => h n (List.mem_cons_of_mem _ hn)
    rw [List.sum_cons, List.length_cons, Nat.add_mul]
    omega
theorem sum_step {l : List Nat} {k x : Nat} (h : l[k]? = some x) : (l.take (k + 1)).sum = (l.take k).sum + x := by
  rw [List.take_add_one, h, List.sum_append]
  simp
theorem take_sum_le (l : List Nat) (k : Nat) : (l.take k).sum ≤ l.sum := by
  have := congrArg List.sum (List.take_append_drop k l)
  rw [List.sum_append] at this
  omega
theorem moreL_sum {l : List Nat} {b : Nat} (h : ∀ n ∈ l, n ≤ 1073741824) (hb : b + l.sum ≤ mB) : moreL b l = b + l.sum := by
  unfold moreL
  induction l generalizing b with
  | nil => simp
  | cons x l ih =>
    have h1 := h x (List.mem_cons_self ..)
    rw [List.sum_cons] at hb ⊢
    rw [List.foldl_cons, show min (b + cN x) mB = b + x by unfold cN; omega, ih (fun n hn => h n (List.mem_cons_of_mem _ hn)) (by omega)]
    omega
theorem moreN_sum {l : List Nat} {b : Nat} (h : ∀ n ∈ l, n ≤ 1073741824) (hb : b + l.sum ≤ mB) : moreN b l = b + l.sum := by
  unfold moreN
  rw [Nat.min_eq_left (by omega)]
  exact moreL_sum h hb
theorem goneN_one {f x : Nat} (hx : x ≤ 1073741824) (hf : x ≤ f) (hb : f ≤ mB) : goneN f [x] = f - x := by
  show min (f - min f (cN x)) mB = _
  unfold cN
  omega

set_option maxRecDepth 10000 in
set_option maxHeartbeats 4000000 in
theorem flight_any (A1 A2 : Option Addr) (n1 c1 n2 cc : Nat) (l1 l2 : List Nat) (w : World) (h1 : l1.length = n1) (h2 : l2.length = n2) (s1 : Sv w w.heap.size A1 (l1.map cell64)) (s2 : Sv w w.heap.size A2 (l2.map cell64)) (k1 : n1 ≤ c1) (k2 : n2 ≤ cc) (m1 : c1 ≤ maxLen) (m2 : cc ≤ maxLen) :
    Calls Try.prog 4 #[.slice A1 n1 c1, .slice A2 n2 cc] w (SaysN w) := by
  obtain ⟨i0, hi0, hz0, hz1, hz2⟩ := info_parts info64N
  have L1 := Lib.hid h1
  have L2 := Lib.hid h2
  have S1 := Lib.hid s1
  have S2 := Lib.hid s2
  clear h1 h2 s1 s2 k1 k2 m1 m2
  go_enter Try.func4, Try.ntmps4
  go_wp2_with fail
  refine (nworks_any w).mono ?_
  rintro e w1 ⟨rfl, hb1⟩
  have HB1 := Lib.hid hb1
  clear hb1
  have early : ∀ wx, Below w.heap.size w wx → Calls Try.prog 5 #[] wx (SaysN w) := fun wx hb => (nworks_any wx).mono fun e w' ⟨h1, h2⟩ => ⟨h1, hb.trans (h2.mono hb.size)⟩
  have HE := Lib.hid early
  clear early
  rcases d1 : decide ((n1 : Int) > 100) with _ | _
  rotate_left
  · go_wp2_with fail
    refine (HE.out w1 HB1.out).mono ?_
    rintro e w2 ⟨rfl, hb2⟩
    go_wp2
    go_ret
    exact ⟨rfl, hb2⟩
  rcases d2 : decide ((n2 : Int) > 100) with _ | _
  rotate_left
  · go_wp2_with fail
    refine (HE.out w1 HB1.out).mono ?_
    rintro e w2 ⟨rfl, hb2⟩
    go_wp2
    go_ret
    exact ⟨rfl, hb2⟩
  have hn1 : n1 ≤ 100 := by have := of_decide_eq_false d1; omega
  have hn2 : n2 ≤ 100 := by have := of_decide_eq_false d2; omega
  go_wp2_with (first
    | (at_builtin; refine wpList_append_sv _ rfl (.tmp 24) (.tmp 25) _ rfl w1.heap.size 28 i0 _ 8 Try.underlying27 hi0 hz0 hz1 hz2 rfl (.slice (some ⟨w1.heap.size, 0, none⟩) 0 0) 0 [] rfl (World.ownsRow_made w1 #[] 0 (Nat.le_refl _) (Nat.zero_le _) rfl) w.heap.size A1 n1 c1 (l1.map cell64) rfl (S1.out.below (HB1.out.alloc HB1.out.size _)) ((List.length_map _).trans L1.out) (cell64_one _) (by unfold maxLen; omega) (by omega) (by simp) ?_; intro v2 w2 hown2 hg2 hat2; have HO2 := Lib.hid hown2; have HS2 : Hid (w1.heap.size ≤ w2.heap.size) := Lib.hid (by have := hg2.size; simp at this; omega); have HQ2 : Hid (∀ q, v2.ownBlock = some q → w.heap.size ≤ q) := Lib.hid (fun q hq => by have := HB1.out.size; rcases hat2 with h | h <;> (rw [h] at hq; simp [Value.ownBlock] at hq; omega)); have HB2 := Lib.hid ((HB1.out.alloc HB1.out.size (.cells #[] 28)).grown hg2 (by have := HB1.out.size; simp; omega) (fun q hq => by have := HB1.out.size; simp [Value.ownBlock] at hq; omega)); clear hown2 hg2 hat2)
    | (at_builtin; refine wpList_append_sv _ rfl (.tmp 26) (.tmp 27) _ rfl w1.heap.size 28 i0 _ 8 Try.underlying27 hi0 hz0 hz1 hz2 rfl v2 (0 + n1) _ rfl HO2.out w.heap.size A2 n2 cc (l2.map cell64) rfl (S2.out.below HB2.out) ((List.length_map _).trans L2.out) (cell64_one _) (by unfold maxLen; omega) (by omega) HS2.out ?_; intro v3 w3 hown3 hg3 _; obtain ⟨A3, c3, rfl, hc3, hm3⟩ := own_form hown3; have HO3 := Lib.hid (Sv.of_own hown3); have HB3 := Lib.hid (HB2.out.grown hg3 HB2.out.size HQ2.out); clear hown3 hg3 hc3 hm3))
  obtain ⟨n3, hn3⟩ : ∃ n3, n3 = n1 + n2 := ⟨_, rfl⟩
  have HN3 : Hid ((l1 ++ l2).length = n3) := Lib.hid (by rw [List.length_append, L1.out, L2.out, hn3])
  have HO4 : Hid (Sv w3 w3.heap.size A3 ((l1 ++ l2).map cell64)) := Lib.hid (by have := HO3.out; rwa [List.nil_append, ← List.map_append] at this)
  have e3 : (n1 : Int) + (n2 : Int) = (n3 : Int) := by omega
  rw [e3, ← hn3]
  clear e3
  have hn300 : n3 ≤ 200 := by omega
  clear hn3 HO3 HO2 HB2 HS2 HQ2
  go_loopw [30] (fun s30 wr => ∃ k : Nat, k ≤ n3 ∧ s30 = .int .i64 (k : Int) ∧ Hid (∀ n ∈ (l1 ++ l2).take k, n ≤ 1073741824) ∧ wr = w3) (fun s30 _ => n3 - (intOf s30).toNat)
  case atStart => exact ⟨0, Nat.zero_le _, rfl, Lib.hid (by simp), rfl⟩
  case round =>
    obtain ⟨k, hk, rfl, HK, rfl⟩ := hrel
    by_cases hlt : k < n3
    · obtain ⟨x, hx⟩ : ∃ x, (l1 ++ l2)[k]? = some x := ⟨_, List.getElem?_eq_getElem (by rw [HN3.out]; exact hlt)⟩
      obtain ⟨q, off, rfl, hbl, hcc⟩ := Sv.at_ HO4.out (by rw [List.length_map, HN3.out]; omega)
      have hc : wr.cell? ⟨q, off + k, none⟩ = some (.int .u64 (x : Int)) := hcc k _ (by rw [List.getElem?_map, hx]; rfl)
      have d0 : decide (k < n3) = true := decide_eq_true hlt
      clear hcc
      rcases hg : decide ((x : Int) > 1073741824) with _ | _
      · have HK1 : Hid (∀ n ∈ (l1 ++ l2).take (k + 1), n ≤ 1073741824) := Lib.hid (fun n hn => by
          rw [List.take_add_one, hx, List.mem_append] at hn
          rcases hn with hn | hn
          · exact HK.out n hn
          · simp at hn
            subst hn
            have := of_decide_eq_false hg
            omega)
        clear hx
        go_wp2
        go_roundw
        case rel => exact ⟨k + 1, by omega, by go_num, HK1, trivial⟩
        case measure => simp [intOf]; omega
      · clear hx
        go_wp2_with fail
        refine (HE.out wr HB3.out).mono ?_
        rintro e w4 ⟨rfl, hb4⟩
        go_wp2
        go_ret
        exact ⟨rfl, hb4⟩
    · obtain rfl : k = n3 := by omega
      have d0 : decide (k < k) = false := decide_eq_false (by omega)
      have HA1 : Hid (∀ n ∈ l1, n ≤ 1073741824) := Lib.hid (fun n hn => HK.out n (by rw [List.take_of_length_le (by rw [HN3.out]; exact Nat.le_refl _)]; exact List.mem_append_left _ hn))
      have HA2 : Hid (∀ n ∈ l2, n ≤ 1073741824) := Lib.hid (fun n hn => HK.out n (by rw [List.take_of_length_le (by rw [HN3.out]; exact Nat.le_refl _)]; exact List.mem_append_right _ hn))
      clear HK HN3 HO4 hn300
      obtain ⟨t1, ht1⟩ : ∃ t1, t1 = l1.sum := ⟨_, rfl⟩
      obtain ⟨t2, ht2⟩ : ∃ t2, t2 = l2.sum := ⟨_, rfl⟩
      have ht1b : t1 ≤ 107374182400 := by have := sum_le HA1.out; rw [L1.out] at this; omega
      have ht2b : t2 ≤ 107374182400 := by have := sum_le HA2.out; rw [L2.out] at this; omega
      have HM1 : Hid (moreN NS.new.fl l1 = t1) := Lib.hid (by rw [moreN_sum HA1.out (by rw [← ht1]; unfold mB; show 0 + _ ≤ _; omega), ← ht1]; exact Nat.zero_add _)
      have HM2 : Hid (moreN t1 l2 = t1 + t2) := Lib.hid (by rw [moreN_sum HA2.out (by rw [← ht2]; unfold mB; omega), ← ht2])
      have HT2 := Lib.hid ht2
      clear ht1 ht2
      go_wp2_with fail
      refine (nnew_any wr).mono ?_
      rintro e w4 ⟨g, rfl, hgl, hb4, h4⟩
      have H4 := Lib.hid h4
      have HG : Hid (w.heap.size ≤ g) := Lib.hid (Nat.le_trans HB3.out.size hgl)
      have HB4 := Lib.hid (HB3.out.trans (hb4.mono HB3.out.size))
      clear h4 hgl hb4 HB3
      have HS1 := sent_any w4 g A1 n1 c1 l1 NS.new H4.out L1.out ((S1.out.below HB4.out).keep HB4.out.size fun _ _ => rfl) (by unfold maxLen; omega)
      rw [HM1.out] at HS1
      go_wp2_with fail
      refine HS1.mono ?_
      rintro e w5 ⟨rfl, hg5, h5⟩
      have H5 := Lib.hid h5
      have HB5 : Hid (Below w.heap.size w w5) := Lib.hid (below_grownN HB4.out hg5 HG.out HB4.out.size)
      have c2 : w5.cell? ⟨g, 2, none⟩ = some (.int .u64 (t1 : Int)) := h5.c2
      clear h5 hg5 H4 HB4 HS1 HM1
      obtain ⟨t3, ht3⟩ : ∃ t3, t3 = t1 + t2 := ⟨_, rfl⟩
      have HS2 : Calls Try.prog 8 #[.pointer (some ⟨g, 0, none⟩), .slice A2 n2 cc] w5 (NGave g { NS.new with fl := t3 } w5) := by
        have := sent_any w5 g A2 n2 cc l2 _ H5.out L2.out ((S2.out.below HB5.out).keep HB5.out.size fun _ _ => rfl) (by unfold maxLen; omega)
        rw [show moreN ({ NS.new with fl := t1 } : NS).fl l2 = t3 by rw [ht3]; exact HM2.out] at this
        exact this
      have ew3 : IntKind.u64.wrap ((t1 : Int) + (t2 : Int)) = (t3 : Int) := by rw [IntKind.wrap_u64]; omega
      have HT3 := Lib.hid ht3
      clear ht3
      go_wp2_with fail
      refine HS2.mono ?_
      rintro e w6 ⟨rfl, hg6, h6⟩
      have H6 := Lib.hid h6
      have HB6 : Hid (Below w.heap.size w w6) := Lib.hid (below_grownN HB5.out hg6 HG.out HB5.out.size)
      have c2 : w6.cell? ⟨g, 2, none⟩ = some (.int .u64 (t3 : Int)) := h6.c2
      clear h6 hg6 H5 HB5 HS2 HM2
      go_wp2
      go_loopw [5, 52] (fun s5 s52 wx => ∃ k t : Nat, k ≤ n2 ∧ s52 = .int .i64 (k : Int) ∧ s5 = .int .u64 (t : Int) ∧ Hid (t = (l2.take k).sum) ∧ wx = w6) (fun _ s52 _ => n2 - (intOf s52).toNat)
      case atStart => exact ⟨0, 0, Nat.zero_le _, rfl, rfl, Lib.hid (by simp), rfl⟩
      case round =>
        obtain ⟨k, t, hk, rfl, rfl, HT, rfl⟩ := hrel
        by_cases hlt : k < n2
        · obtain ⟨x, hx⟩ : ∃ x, l2[k]? = some x := ⟨_, List.getElem?_eq_getElem (by rw [L2.out]; exact hlt)⟩
          obtain ⟨q, off, rfl, hbl, hcc⟩ := Sv.at_ (S2.out.below HB6.out) (by rw [List.length_map, L2.out]; omega)
          have hc : wr.cell? ⟨q, off + k, none⟩ = some (.int .u64 (x : Int)) := hcc k _ (by rw [List.getElem?_map, hx]; rfl)
          have d0 : decide (k < n2) = true := decide_eq_true hlt
          obtain ⟨t', ht'⟩ : ∃ t', t' = t + x := ⟨_, rfl⟩
          have HT' : Hid (t' = (l2.take (k + 1)).sum) := Lib.hid (by rw [sum_step hx, ← HT.out, ht'])
          have ht'b : t' ≤ t2 := by rw [HT'.out, HT2.out]; exact take_sum_le _ _
          have ew : IntKind.u64.wrap ((t : Int) + (x : Int)) = (t' : Int) := by rw [IntKind.wrap_u64]; omega
          clear hcc hx ht' ht'b c2
          go_wp2
          go_roundw
          case rel => exact ⟨k + 1, t', by omega, by go_num, rfl, HT', trivial⟩
          case measure => simp [intOf]; omega
        · obtain rfl : k = n2 := by omega
          have d0 : decide (k < k) = false := decide_eq_false (by omega)
          obtain rfl : t = t2 := by rw [HT.out, HT2.out, List.take_of_length_le (by rw [L2.out]; exact Nat.le_refl _)]
          have hne : ((t3 : Int) != (t3 : Int)) = false := by simp
          have H7 : Hid (NAt wr g { NS.new with fl := t1 + (l2.take k).sum }) := Lib.hid (by
            have := H6.out
            rw [List.take_of_length_le (by rw [L2.out]; exact Nat.le_refl _), ← HT2.out, ← HT3.out]
            exact this)
          clear HT
          go_wp2
          go_loopw [12] (fun s12 wx => ∃ j : Nat, j ≤ k ∧ s12 = .int .i64 ((j : Int) - 1) ∧ Hid (NAt wx g { NS.new with fl := t1 + (l2.take j).sum }) ∧ Hid (Below w.heap.size w wx)) (fun s12 _ => (intOf s12 + 1).toNat)
          case atStart => exact ⟨k, Nat.le_refl _, rfl, H7, HB6⟩
          case round =>
            obtain ⟨j, hj, rfl, H8, HB8⟩ := hrel
            clear H7 HB6 H6 c2
            by_cases hj0 : 0 < j
            · obtain ⟨i, rfl⟩ : ∃ i, j = i + 1 := ⟨j - 1, by omega⟩
              have ei : (((i + 1 : Nat) : Int) - 1) = (i : Int) := by omega
              rw [ei]
              have hik : i < k := by omega
              obtain ⟨x, hx⟩ : ∃ x, l2[i]? = some x := ⟨_, List.getElem?_eq_getElem (by rw [L2.out]; exact hik)⟩
              obtain ⟨q, off, rfl, hbl, hcc⟩ := Sv.at_ (S2.out.below HB8.out) (by rw [List.length_map, L2.out]; omega)
              have hc : wr.cell? ⟨q, off + i, none⟩ = some (.int .u64 (x : Int)) := hcc i _ (by rw [List.getElem?_map, hx]; rfl)
              have hxb := HA2.out x (List.mem_of_getElem? hx)
              have HSM : Hid ((l2.take (i + 1)).sum = (l2.take i).sum + x) := Lib.hid (sum_step hx)
              have HSB : Hid ((l2.take (i + 1)).sum ≤ 107374182400) := Lib.hid (by have := take_sum_le l2 (i + 1); have := HT2.out; omega)
              have hb9 := (Below.refl wr.heap.size wr).alloc (Nat.le_refl _) (.cells #[.int .u64 (x : Int)] 28)
              have HGO := gone_any _ g _ 1 1 [x] _ (H8.out.below hb9) (by show t1 + _ ≤ mU; have := HSB.out; unfold mU; omega) rfl (one_sx wr x H8.out.lt) (by decide)
              rw [show goneN ({ NS.new with fl := t1 + (l2.take (i + 1)).sum } : NS).fl [x] = t1 + (l2.take i).sum by
                have h1 := HSM.out
                have h2 := HSB.out
                have h3 := goneN_one (f := t1 + (l2.take (i + 1)).sum) hxb (by omega) (by unfold mB; omega)
                show goneN (t1 + (l2.take (i + 1)).sum) [x] = _
                omega] at HGO
              have HG9 := Lib.hid HGO
              have HB9 := Lib.hid (HB8.out.trans (hb9.mono HB8.out.size))
              have d0 : decide ((i : Int) ≥ 0) = true := decide_eq_true (by omega)
              have hik2 : (i : Int) < (k : Int) := by omega
              clear HGO hb9 hcc hx HSM HSB hxb H8 ei
              go_wp2_with fail
              generalize wr.alloc (.cells #[.int .u64 (x : Int)] 28) = w9 at *
              refine HG9.out.mono ?_
              rintro e w10 ⟨rfl, hg10, h10⟩
              have H10 := Lib.hid h10
              have HB10 : Hid (Below w.heap.size w w10) := Lib.hid (below_grownN HB9.out hg10 HG.out HB9.out.size)
              clear h10 hg10 HG9 HB9 hc
              go_wp2
              go_roundw
              case rel => exact ⟨i, by omega, by go_num, H10, HB10⟩
              case measure => simp [intOf]
            · obtain rfl : j = 0 := by omega
              have H9 : Hid (NAt wr g { NS.new with fl := t1 }) := Lib.hid (by have := H8.out; simpa using this)
              have c2 : wr.cell? ⟨g, 2, none⟩ = some (.int .u64 (t1 : Int)) := H9.out.c2
              have c0 : wr.cell? ⟨g, 0, none⟩ = some (.int .u64 12000) := H9.out.c0
              have hee : ((t1 : Int) == (t1 : Int)) = true := by simp
              clear H8 H9
              go_wp2_with fail
              refine (HE.out wr HB8.out).mono ?_
              rintro e w9 ⟨rfl, hb9⟩
              go_wp2
              go_ret
              exact ⟨rfl, hb9⟩

end Go.Proofs.Ytmidlgojknfooaa
