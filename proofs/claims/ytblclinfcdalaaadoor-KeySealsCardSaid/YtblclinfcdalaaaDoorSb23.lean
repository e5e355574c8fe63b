/-
  Lists of texts in memory. No program's function is named here.
  The document's own Sum (hostlerref06).
-/
import Derived.Test.YtblclinfcdalaaaDoorSb22
import Derived.Test.YtblclinfcdalaaaDoorSb8
import Derived.Test.YtblclinfcdalaaaDoorSb7
namespace Go.Proofs.YtblclinfcdalaaaDoor
section
open Go.RowKit
set_option linter.unusedVariables false

/-- A list of texts in memory. -/
def PartsIn (w : World) (B : Nat) (vs : List Value) (ps : List (List UInt8)) : Prop :=
  vs.length = ps.length ∧ ∀ (i : Nat) (v : Value) (l : List UInt8), vs[i]? = some v → ps[i]? = some l → ∃ A c, v = .slice A l.length c ∧ l.length ≤ c ∧ c ≤ maxLen ∧ Sl w B A l

theorem PartsIn.at_ {w : World} {B : Nat} {vs : List Value} {ps : List (List UInt8)} (h : PartsIn w B vs ps) (k : Nat) (hk : k < vs.length) :
    ∃ (l : List UInt8) (A : Option Addr) (c : Nat), ps[k]? = some l ∧ vs[k]? = some (.slice A l.length c) ∧ l.length ≤ c ∧ c ≤ maxLen ∧ Sl w B A l := by
  have hp : k < ps.length := by rw [← h.1]; exact hk
  obtain ⟨A, c, h1, h2, h3, h4⟩ := h.2 k vs[k] ps[k] (List.getElem?_eq_getElem hk) (List.getElem?_eq_getElem hp)
  exact ⟨ps[k], A, c, List.getElem?_eq_getElem hp, by rw [List.getElem?_eq_getElem hk, h1], h2, h3, h4⟩

theorem flat_succ (ps : List (List UInt8)) (k : Nat) (p : List UInt8) (h : ps[k]? = some p) : (ps.take (k + 1)).flatten = (ps.take k).flatten ++ p := by
  rw [List.take_add_one, h]
  simp

/-- Texts that are more than are gone through. -/
def greatB (len : Nat) (ps : List (List UInt8)) : Bool := decide (3000 < len + ps.flatten.length)
end

section
open Go.RowKit
set_option linter.unusedVariables false

def chW (s : S8) : W32 := (s.e &&& s.f) ^^^ (~~~s.e &&& s.g)
def majW (s : S8) : W32 := (s.a &&& s.b) ^^^ (s.a &&& s.c) ^^^ (s.b &&& s.c)
theorem wi_subn (x : W32) : 4294967295 - wi x = wi (~~~x) := by
  unfold wi
  rw [BitVec.toNat_not]
  have := x.isLt
  omega
theorem wi_subw (x : W32) : IntKind.u32.wrap (4294967295 - wi x) = wi (~~~x) := by
  rw [wi_subn, IntKind.wrap_u32']
  exact Int.emod_eq_of_lt (wi_nn _) (wi_lt _)

theorem endB_le' (n : Nat) : (endB n).length ≤ 72 := by
  simp [endB, be_length]; omega

/-- A word of a row of the call's own. -/
theorem own_cell {w : World} {base g n c : Nat} {l : List W32} (h : w.ownsRow base 130 1 (.slice (some ⟨g, 0, none⟩) n c) n (l.map cw)) (j : Nat) (hj : j < n) : w.cell? ⟨g, j, none⟩ = some (.int .u32 (wi (l.getD j 0))) := by
  have hl : l.length = n := by have := h.1; simpa using this
  have hjl : j < l.length := by omega
  have h1 := h.cells (g := g) rfl j (.int .u32 (wi (l.getD j 0))) (by simp [List.getD, hjl, cw])
  rw [Addr.add_lit, Nat.zero_add] at h1
  exact h1

theorem own_le {w : World} {base base' n : Nat} {e : TypeId} {v : Value} {xs : List Value} (h : w.ownsRow base e 1 v n xs) (hb : base' ≤ base) : w.ownsRow base' e 1 v n xs :=
  ⟨h.1, h.2.elim .inl (fun ⟨g, cap, cur, hv, hg, r⟩ => .inr ⟨g, cap, cur, hv, Nat.le_trans hb hg, r⟩)⟩

theorem sx_cell {w : World} {g b off : Nat} {l : List W32} (h : Sx w g (some ⟨b, off, none⟩) (l.map cw)) (j : Nat) (hj : j < l.length) : w.cell? ⟨b, off + j, none⟩ = some (.int .u32 (wi (l.getD j 0))) := by
  obtain ⟨b', o', e, _, _, hc⟩ := h (by intro e; rw [List.map_eq_nil_iff] at e; rw [e] at hj; simp at hj)
  simp only [Option.some.injEq, Addr.mk.injEq, and_true] at e
  obtain ⟨rfl, rfl⟩ := e
  exact hc j _ (by simp [List.getD, hj, cw])

theorem wi_ch (r : S8) : bits .xor .u32 (bits .and .u32 (wi r.e) (wi r.f)) (bits .and .u32 ((4294967295 - wi r.e) % 4294967296) (wi r.g)) = wi (chW r) := by
  rw [wi_subn, Int.emod_eq_of_lt (wi_nn _) (wi_lt _), wi_and, wi_and, wi_xor]
  rfl
theorem wi_maj (r : S8) : bits .xor .u32 (bits .xor .u32 (bits .and .u32 (wi r.a) (wi r.b)) (bits .and .u32 (wi r.a) (wi r.c))) (bits .and .u32 (wi r.b) (wi r.c)) = wi (majW r) := by
  rw [wi_and, wi_and, wi_and, wi_xor, wi_xor]
  rfl

theorem wi_rt1 (r : S8) (k x : W32) : ((wi r.h + bits .xor .u32 (bits .xor .u32 (wi (rr r.e 6)) (wi (rr r.e 11))) (wi (rr r.e 25)) + wi (chW r) + wi k) % 4294967296 + wi x) % 4294967296 = wi (t1W r k x) := by
  rw [wi_xor, wi_xor]
  show _ = wi (r.h + mix3 r.e 6 11 25 + chW r + k + x)
  show ((wi r.h + wi (mix3 r.e 6 11 25) + wi (chW r) + wi k) % 4294967296 + wi x) % 4294967296 = _
  rw [wi_addm (r.h + mix3 r.e 6 11 25 + chW r + k), wi_addm (r.h + mix3 r.e 6 11 25 + chW r), wi_addm (r.h + mix3 r.e 6 11 25), wi_addm r.h]
  omega
theorem wi_rt2 (r : S8) : (bits .xor .u32 (bits .xor .u32 (wi (rr r.a 2)) (wi (rr r.a 13))) (wi (rr r.a 22)) + wi (majW r)) % 4294967296 = wi (t2W r) := by
  rw [wi_xor, wi_xor, wi_add']
  rfl

theorem wi_byte (x : W32) (k : Nat) (h : k < 32) : Value.int .u8 (wi (sr x (24 - 8 * (k % 4))) % 256) = cell8 (byteW x (3 - k % 4)) := by
  rw [show 24 - 8 * (k % 4) = 8 * (3 - k % 4) by omega, ← wi_shr]
  exact be_cell x.toNat (3 - k % 4)

/-- What a round reads. -/
structure RV (w : World) (gv : Nat) (r : S8) (bk o : Nat) (k : W32) (bw t : Nat) (x : W32) : Prop where
  v0 : w.cell? ⟨gv, 0, none⟩ = some (.int .u32 (wi r.a))
  v1 : w.cell? ⟨gv, 1, none⟩ = some (.int .u32 (wi r.b))
  v2 : w.cell? ⟨gv, 2, none⟩ = some (.int .u32 (wi r.c))
  v3 : w.cell? ⟨gv, 3, none⟩ = some (.int .u32 (wi r.d))
  v4 : w.cell? ⟨gv, 4, none⟩ = some (.int .u32 (wi r.e))
  v5 : w.cell? ⟨gv, 5, none⟩ = some (.int .u32 (wi r.f))
  v6 : w.cell? ⟨gv, 6, none⟩ = some (.int .u32 (wi r.g))
  v7 : w.cell? ⟨gv, 7, none⟩ = some (.int .u32 (wi r.h))
  kt : w.cell? ⟨bk, o, none⟩ = some (.int .u32 (wi k))
  wt : w.cell? ⟨bw, t, none⟩ = some (.int .u32 (wi x))
theorem RV.drewN {w : World} {gv : Nat} {r : S8} {bk o : Nat} {k : W32} {bw t : Nat} {x : W32} (h : RV w gv r bk o k bw t x) (n : Nat) : RV (w.drewN n) gv r bk o k bw t x :=
  ⟨by simpa using h.v0, by simpa using h.v1, by simpa using h.v2, by simpa using h.v3, by simpa using h.v4, by simpa using h.v5, by simpa using h.v6, by simpa using h.v7, by simpa using h.kt, by simpa using h.wt⟩

set_option maxRecDepth 100000 in
set_option maxHeartbeats 1600000 in
theorem rsum_any (l : List UInt8) (n c B : Nat) (A : Option Addr) (w : World) (hB : B ≤ w.heap.size) (hl : l.length = n) (hs : Sl w B A l) (hn : n ≤ 15000000) :
    Calls Tryd.prog 60 #[.slice A n c] w fun e w' => e = .returned (.agg (bRow (sumK kW l))) ∧ Below w.heap.size w w' := by
  obtain ⟨i0, hi0, hz0, hz1, hz2⟩ := info_parts info32
  obtain ⟨ks, hks⟩ : ∃ ks, ks = kW := ⟨_, rfl⟩
  have hkl : ks.length = 64 := by rw [hks]; exact kW_len
  rw [← hks]
  have HKW := Lib.hid (fun w => rconst_any w)
  rw [← hks] at HKW
  have HKL := Deep.mk hkl
  have HL := Deep.mk hl
  have HS := Lib.hid hs
  clear hks hkl hl hs
  go_enter Tryd.func60, Tryd.ntmps60
  go_upto_region 1 with (fail)
  rw [zeros32]
  have hb0 : Below w.heap.size w (w.alloc (.cells (bRow (List.replicate 32 0)) 22)) := (Below.refl _ _).alloc (Nat.le_refl _) _
  have hwr : Wh (w.alloc (.cells (bRow (List.replicate 32 0)) 22)) w.heap.size 22 (bRow (List.replicate 32 0)) := Wh.new _ _ _
  generalize w.alloc (.cells (bRow (List.replicate 32 0)) 22) = w0 at *
  obtain ⟨r, hr⟩ : ∃ r, r = w.heap.size := ⟨_, rfl⟩
  rw [← hr] at hwr
  rw [← hr]
  have HRR := Lib.hid hr
  have HWR := Lib.hid hwr
  have HB0 := Lib.hid hb0
  have hr0 : r < w0.heap.size := hwr.lt
  clear hr hwr hb0
  go_upto_region 4 with (first
    | (go_at_call 90; refine (rfirst_any _).mono ?_; rintro e w1 ⟨A3, c3, rfl, h3a, h3b, hown3, hb1⟩; have HO3 := Lib.hid hown3; have HB1 := Lib.hid hb1; clear hown3 hb1 h3a h3b)
    | (go_at_call 91; refine (HKW.out _).mono ?_; rintro e w2 ⟨A4, c4, rfl, h4a, h4b, hown4, hb2⟩; have HO4 := Lib.hid hown4; have HB2 := Lib.hid hb2; have H4A := Lib.hid h4a; clear hown4 hb2 h4a h4b)
    | (go_at_call 92; refine (blocks_any l n c B A w2 (Nat.le_trans hB (Nat.le_trans HB0.out.size (Nat.le_trans HB1.out.size HB2.out.size))) HL.out (((HS.out.below (HB0.out.mono hB)).below (HB1.out.mono (Nat.le_trans hB HB0.out.size))).below (HB2.out.mono (Nat.le_trans hB (Nat.le_trans HB0.out.size HB1.out.size)))) (by omega)).mono ?_; rintro e w3 ⟨A5, c5, rfl, h5a, h5b, hown5, hb3⟩; have HO5 := Lib.hid hown5; have HB3 := Lib.hid hb3; have H5A := Lib.hid h5a; have H5B := Lib.hid h5b; clear hown5 hb3 h5a h5b))
  obtain ⟨gh, ch, e3, hbh, hgh⟩ := HO3.out.form (by decide)
  simp only [Value.slice.injEq] at e3
  obtain ⟨rfl, _, rfl⟩ := e3
  obtain ⟨AL, hAL⟩ : ∃ AL, AL = l ++ endB n := ⟨_, rfl⟩
  rw [← hAL] at HO5 H5A
  obtain ⟨N, hN⟩ : ∃ N, N = AL.length := ⟨_, rfl⟩
  rw [← hN] at HO5 H5A
  have hNl : l.length + (endB n).length = N := by rw [hN, hAL, List.length_append]
  have hN64 : N % 64 = 0 := by rw [← hNl, HL.out]; exact endB_len n
  have hNmax : N ≤ 15000072 := by have := endB_le' n; rw [← hNl, HL.out]; omega
  have hN1 : 1 ≤ N := by rw [← hNl]; simp [endB]; omega
  have HSUM : Deep (sumK ks l = bytesS (stB ks AL (N / 64))) := ⟨by rw [sumK, HL.out, ← hAL, ← hN]⟩
  have HOh := Lib.hid ((own_below (own_below HO3.out HB2.out) HB3.out))
  have hKx : Sx w3 gh A4 (ks.map cw) := (Sx.of_own HO4.out hgh).below HB3.out
  have hAx : Sx w3 gh A5 (AL.map cell8) := Sx.of_own HO5.out (Nat.lt_of_lt_of_le hgh HB2.out.size)
  obtain ⟨bk, ok, rfl, hbk, hbkg, _⟩ := hKx (by intro e; rw [List.map_eq_nil_iff] at e; have := HKL.out; rw [e] at this; simp at this)
  obtain ⟨ba, oa, rfl, hba, hbag, _⟩ := hAx (by intro e; rw [List.map_eq_nil_iff] at e; rw [e] at hN; simp at hN; omega)
  have HKX := Lib.hid hKx
  have HAX := Lib.hid hAx
  have HB4 := Lib.hid (((HB0.out.trans (HB1.out.mono HB0.out.size)).trans (HB2.out.mono (Nat.le_trans HB0.out.size HB1.out.size))).trans (HB3.out.mono (Nat.le_trans HB0.out.size (Nat.le_trans HB1.out.size HB2.out.size))))
  have hrg : r < gh := Nat.lt_of_lt_of_le hr0 hbh
  have HWR3 := Lib.hid (((HWR.out.below HB1.out hr0).below HB2.out (Nat.lt_of_lt_of_le hr0 HB1.out.size)).below HB3.out (Nat.lt_of_lt_of_le hr0 (Nat.le_trans HB1.out.size HB2.out.size)))
  have hg3 : gh < w3.heap.size := Nat.lt_of_lt_of_le hgh (Nat.le_trans HB2.out.size HB3.out.size)
  have h64 : ks.length = 64 := HKL.out
  have h8 : initS.l.length = 8 := rfl
  have HAL := Deep.mk hAL
  have HN := Deep.mk hN
  have hca : N ≤ c5 := H5A.out
  have hcam : c5 ≤ 9223372036854775807 := by have := H5B.out; unfold maxLen at this; omega
  have hwg : w.heap.size ≤ gh := by rw [← HRR.out]; omega
  rw [hNl, h64, h8]
  rw [h8] at HOh
  have HSH : Hid (w3.ownsRow w0.heap.size 130 1 (.slice (some ⟨gh, 0, none⟩) 8 c3) 8 ((stB ks AL 0).l.map cw)) := HOh.out
  clear hAL hN hNl h64 h8 hKx hAx HO3 HO4 HO5 H5A H5B HB0 HB1 HB2 HB3 HKW HS HWR HOh HL
  go_wp2
  go_loopw [6, 7, 8, 9, 10, 11, 12, 13, 14] (fun i _ _ _ _ _ _ _ _ wr => ∃ (p q : Nat), p ≤ N ∧ i = .int .i64 (p : Int) ∧ Deep (p = 64 * q) ∧ Hid (wr.ownsRow w0.heap.size 130 1 (.slice (some ⟨gh, 0, none⟩) 8 c3) 8 ((stB ks AL q).l.map cw)) ∧ Hid (w3.grownBy wr (some gh))) (fun i _ _ _ _ _ _ _ _ _ => N - (intOf i).toNat)
  case atStart => exact ⟨0, 0, by omega, rfl, ⟨rfl⟩, HSH, Lib.hid (World.grownBy.refl _ _)⟩
  case round =>
    obtain ⟨p, q, hpN, rfl, HPQ, HOW, HG⟩ := hrel
    clear HSH
    by_cases hlt : p < N
    · have hp64 : p + 64 ≤ N := by have := HPQ.out; omega
      generalize wr = w4 at *
      obtain ⟨bs, hbs⟩ : ∃ bs, bs = (AL.drop p).take 64 := ⟨_, rfl⟩
      have hbl : bs.length = 64 := by rw [hbs, List.length_take, List.length_drop, ← HN.out]; omega
      have hsl : Sl w4 w4.heap.size (some ⟨ba, oa + p, none⟩) bs := by
        rw [hbs]
        unfold Sl
        rw [List.map_take, List.map_drop]
        exact ((HAX.out.grown HG.out).sv.drop p).take 64
      have HSL := Lib.hid hsl
      have HBL := Deep.mk hbl
      have HBS := Deep.mk hbs
      have hcne : ¬ (c5 = p) := by omega
      have hc64 : 64 ≤ c5 - p := by omega
      have hadd : (p : Int) + 64 ≤ (c5 : Int) := by omega
      have hg4 : gh < w4.heap.size := Nat.lt_of_lt_of_le hg3 HG.out.size
      have t1 : decide (p < N) = true := decide_eq_true hlt
      clear hsl hbl hbs
      go_upto_region 8 with (go_at_call 93; refine (words_any _ (c5 - p) w4.heap.size bs w4 (Nat.le_refl _) HBL.out HSL.out hc64 (by unfold maxLen; omega)).mono ?_; rintro e w5 ⟨A7, c7, rfl, h7a, h7b, hown7, hb7⟩; have HO7 := Lib.hid hown7; have HB7 := Lib.hid hb7; clear hown7 hb7 h7a h7b)
      obtain ⟨ws, hws⟩ : ∃ ws, ws = wsW bs := ⟨_, rfl⟩
      have hwl : ws.length = 64 := by rw [hws]; exact wsW_len bs
      rw [← hws] at HO7
      rw [← hws, hwl]
      rw [hwl] at HO7
      obtain ⟨bw, cw7, e7, hbw, hgw⟩ := HO7.out.form (by omega)
      simp only [Value.slice.injEq] at e7
      obtain ⟨rfl, _, rfl⟩ := e7
      obtain ⟨s, hs⟩ : ∃ s, s = stB ks AL q := ⟨_, rfl⟩
      rw [← hs] at HOW
      have HOW5 := Lib.hid (own_below HOW.out HB7.out)
      have HWS := Deep.mk hws
      have HWL := Deep.mk hwl
      have HSS := Deep.mk hs
      have hbw4 : gh < bw := Nat.lt_of_lt_of_le hg4 hbw
      have hg5 : gh < w5.heap.size := Nat.lt_of_lt_of_le hg4 HB7.out.size
      have hs8 : (s.l.map cw).length = 8 := by simp [S8.len]
      have hsv5 : Sv w5 w5.heap.size (some ⟨gh, 0, none⟩) (s.l.map cw) := Sv.of_own HOW5.out
      have HSV5 := Lib.hid hsv5
      clear hws hwl hs HOW hsv5
      go_upto_region 9 with (at_builtin; refine wpList_append_sv _ rfl (.tmp 33) (.tmp 34) _ rfl w5.heap.size 130 i0 _ 4 Tryd.underlying127 hi0 hz0 hz1 hz2 rfl (.slice (some ⟨w5.heap.size, 0, none⟩) 0 0) 0 [] rfl (World.ownsRow_made w5 #[] 0 (Nat.le_refl _) (Nat.zero_le _) rfl) w5.heap.size (some ⟨gh, 0, none⟩) 8 c3 (s.l.map cw) rfl (HSV5.out.keep (Nat.le_refl _) (fun p hp => ((Below.refl w5.heap.size w5).alloc (Nat.le_refl _) _).cell hp)) hs8 (cw_one _) (by unfold maxLen; omega) (by omega) (by simp) ?_; intro v6 w6 hown6 hg6 _; have HO6 := Lib.hid hown6; have HB6 := Lib.hid (((Below.refl w5.heap.size w5).alloc (Nat.le_refl _) _).grown hg6 (by simp) (fun q hq => by simp [Value.ownBlock] at hq; omega)); clear hown6 hg6)
      obtain ⟨gv6, cv6, rfl, hbv6, hgv6⟩ := HO6.out.form (by omega)
      have HO6' : Hid (w6.ownsRow w5.heap.size 130 1 (.slice (some ⟨gv6, 0, none⟩) 8 cv6) 8 (s.l.map cw)) := by
        have h := HO6.out
        rw [Nat.zero_add, List.nil_append] at h
        exact Lib.hid h
      clear HO6
      rw [Nat.zero_add]
      go_wp2
      go_loopw [8, 9, 10, 11, 12, 13] (fun v i _ _ _ _ wr => ∃ (t : Nat) (r8 : S8) (gv cv : Nat), t ≤ 64 ∧ i = .int .i64 (t : Int) ∧ Deep (r8 = rndN ks ws s t) ∧ v = .slice (some ⟨gv, 0, none⟩) 8 cv ∧ Hid (wr.ownsRow w5.heap.size 130 1 (.slice (some ⟨gv, 0, none⟩) 8 cv) 8 (r8.l.map cw)) ∧ Hid (Below w5.heap.size w5 wr)) (fun _ i _ _ _ _ _ => 64 - (intOf i).toNat)
      case atStart => exact ⟨0, s, gv6, cv6, by omega, rfl, ⟨rfl⟩, rfl, HO6', HB6⟩
      case round =>
        obtain ⟨t, r8, gv, cv, ht, rfl, HR8, rfl, HOV, HBV⟩ := hrel
        clear HO6' HB6
        by_cases htl : t < 64
        · have hgv := HOV.out.lt gv rfl
          obtain ⟨kt, hkk⟩ : ∃ kt, kt = ks.getD t 0 := ⟨_, rfl⟩
          obtain ⟨wt, hww⟩ : ∃ wt, wt = ws.getD t 0 := ⟨_, rfl⟩
          have hrv : RV wr gv r8 bk (ok + t) kt bw t wt :=
            ⟨own_cell HOV.out 0 (by omega), own_cell HOV.out 1 (by omega), own_cell HOV.out 2 (by omega), own_cell HOV.out 3 (by omega), own_cell HOV.out 4 (by omega), own_cell HOV.out 5 (by omega), own_cell HOV.out 6 (by omega), own_cell HOV.out 7 (by omega),
              by rw [hkk]; exact sx_cell ((((HKX.out.grown HG.out).grown (grown_below HB7.out)).below (HBV.out))) t (by rw [HKL.out]; exact htl),
              by rw [hww]; exact own_cell (own_below HO7.out HBV.out) t (by omega)⟩
          have HRV := Deep.mk hrv
          have HKK := Deep.mk hkk
          have HWW := Deep.mk hww
          clear hkk hww hrv
          go_upto_region 12 with fail
          obtain ⟨v0, v1, v2, v3, v4, v5, v6, v7, kt0, wt0⟩ := HRV.out
          go_quiet (fail)
          rw [wi_ch]
          have HRV2 := Deep.mk (HRV.out.drewN nq)
          have HBV2 := Lib.hid (below_drewN HBV.out nq)
          have HOV2 := Lib.hid (own_below HOV.out (below_drewN (Below.refl _ _) nq))
          generalize wr.drewN nq = wa at *
          clear v0 v1 v2 v3 v4 v5 v6 v7 kt0 wt0 HRV HBV HOV nq
          go_upto_region 13 with fail
          obtain ⟨v0, v1, v2, v3, v4, v5, v6, v7, kt0, wt0⟩ := HRV2.out
          go_quiet (fail)
          rw [wi_maj]
          have HRV3 := Deep.mk (HRV2.out.drewN nq)
          have HBV3 := Lib.hid (below_drewN HBV2.out nq)
          have HOV3 := Lib.hid (own_below HOV2.out (below_drewN (Below.refl _ _) nq))
          generalize wa.drewN nq = wb at *
          clear v0 v1 v2 v3 v4 v5 v6 v7 kt0 wt0 HRV2 HBV2 HOV2 nq
          go_upto_region 14 with fail
          obtain ⟨v0, v1, v2, v3, v4, v5, v6, v7, kt0, wt0⟩ := HRV3.out
          have hti : (t : Int) < 64 := by omega
          go_quiet ((go_at_call 94; exact Calls.quiet_of_same ((turn_i _ _ _ (by decide) (by decide)).mono fun _ _ h => ⟨h.1, h.2.symm⟩)))
          rw [wi_rt1]
          have HRV4 := Deep.mk (HRV3.out.drewN nq)
          have HBV4 := Lib.hid (below_drewN HBV3.out nq)
          have HOV4 := Lib.hid (own_below HOV3.out (below_drewN (Below.refl _ _) nq))
          generalize wb.drewN nq = wc at *
          clear v0 v1 v2 v3 v4 v5 v6 v7 kt0 wt0 HRV3 HBV3 HOV3 nq
          go_upto_region 15 with fail
          obtain ⟨v0, v1, v2, v3, v4, v5, v6, v7, kt0, wt0⟩ := HRV4.out
          go_quiet ((go_at_call 94; exact Calls.quiet_of_same ((turn_i _ _ _ (by decide) (by decide)).mono fun _ _ h => ⟨h.1, h.2.symm⟩)))
          rw [wi_rt2]
          have HBV5 := Lib.hid (below_drewN HBV4.out nq)
          have HOV5 := Lib.hid (own_below HOV4.out (below_drewN (Below.refl _ _) nq))
          generalize wc.drewN nq = wd at *
          clear v0 v1 v2 v3 v4 v5 v6 v7 kt0 wt0 HRV4 HBV4 HOV4 nq
          obtain ⟨x1, hx1⟩ : ∃ x1, x1 = t1W r8 kt wt := ⟨_, rfl⟩
          obtain ⟨x2, hx2⟩ : ∃ x2, x2 = t2W r8 := ⟨_, rfl⟩
          rw [← hx1, ← hx2]
          have HX1 := Deep.mk hx1
          have HX2 := Deep.mk hx2
          clear hx1 hx2
          have h7c : (7 : Nat) ≤ cv := by
            obtain ⟨A9, c9, e9, h9, _⟩ := own_form HOV5.out
            simp only [Value.slice.injEq] at e9
            omega
          have hbv5 := HBV5.out.size
          have hlit : (wd.alloc (.cells #[.int .u32 ((wi x1 + wi x2) % 4294967296)] 130)).ownsRow wd.heap.size 130 1 (.slice (some ⟨wd.heap.size, 0, none⟩) 1 1) 1 [.int .u32 ((wi x1 + wi x2) % 4294967296)] :=
            own_of_wh (l := [.int .u32 ((wi x1 + wi x2) % 4294967296)]) (Wh.new wd 130 _) wd.heap.size 1 1 (Nat.le_refl _) rfl (Nat.le_refl _) (by unfold maxLen; omega)
          have hsv7 : Sv wd wd.heap.size (some ⟨gv, 0, none⟩) ((r8.l.take 7).map cw) := by
            rw [List.map_take]
            exact (Sv.of_own HOV5.out).take 7
          have HLIT := Lib.hid hlit
          have HSV7 := Lib.hid hsv7
          clear hlit hsv7
          have h78 : ((r8.l.take 7).map cw).length = 7 := by simp [S8.len]
          go_upto_region 17 with (at_builtin; refine wpList_append_sv _ rfl (.tmp 128) (.tmp 130) _ rfl wd.heap.size 130 i0 _ 4 Tryd.underlying127 hi0 hz0 hz1 hz2 rfl (.slice (some ⟨wd.heap.size, 0, none⟩) 1 1) 1 _ rfl HLIT.out wd.heap.size (some ⟨gv, 0, none⟩) 7 cv ((r8.l.take 7).map cw) rfl (HSV7.out.keep (Nat.le_refl _) (fun p hp => ((Below.refl wd.heap.size wd).alloc (Nat.le_refl _) _).cell hp)) h78 (cw_one _) (by unfold maxLen; omega) (by omega) (by simp) ?_; intro v9 w9 hown9 hg9 _; have HO9 := Lib.hid hown9; have HB9 := Lib.hid (((Below.refl wd.heap.size wd).alloc (Nat.le_refl _) _).grown hg9 (by simp) (fun q hq => by simp [Value.ownBlock] at hq; omega)); clear hown9 hg9)
          obtain ⟨g9, c9, rfl, hb9, hg9⟩ := HO9.out.form (by omega)
          have HOX : Hid (w9.ownsRow wd.heap.size 130 1 (.slice (some ⟨g9, 0, none⟩) 8 c9) 8 (((x1 + x2) :: r8.l.take 7).map cw)) := by
            have h := HO9.out
            rw [wi_add'] at h
            exact Lib.hid h
          rw [show 1 + 7 = 8 from rfl]
          have q4 : w9.cell? ⟨g9, 4, none⟩ = some (.int .u32 (wi r8.d)) := own_cell HOX.out 4 (by omega)
          have f4 := HOX.out.frozenAt 4
          have HRN : Deep (rnd r8 kt wt = rndN ks ws s (t + 1)) := ⟨by rw [rndN, ← HR8.out, ← HKK.out, ← HWW.out]⟩
          have HRX : Deep (rnd r8 kt wt = ⟨x1 + x2, r8.a, r8.b, r8.c, r8.d + x1, r8.e, r8.f, r8.g⟩) := ⟨by rw [HX1.out, HX2.out]; rfl⟩
          have hbx := HBV5.out.trans (HB9.out.mono hbv5)
          have HBX := Lib.hid (hbx.setCell (p := ⟨g9, 4, none⟩) (by show _ ≤ g9; omega) (.int .u32 (wi (r8.d + x1))))
          clear HO9 HLIT HSV7 hbx HBV5 HOV5 HB9
          go_wp2
          refine ⟨⟨t + 1, rnd r8 kt wt, g9, c9, by omega, rfl, HRN, rfl, ?_, ?_⟩, by simp [intOf]; omega⟩
          · rw [wi_add']
            have h := (own_le HOX.out hbv5).stored 4 (.int .u32 (wi (r8.d + x1)))
            have h1 := h.1
            rw [HRX.out]
            exact Lib.hid h1
          · rw [wi_add']
            exact HBX
        · have htd : decide ((t : Int) < 64) = false := by rw [decide_eq_false_iff_not]; omega
          have HR64 : Deep (r8 = rndN ks ws s 64) := ⟨by rw [HR8.out, show t = 64 by omega]⟩
          clear HR8 htl ht
          go_wp2
          generalize wr = wz at *
          clear htd
          have HOH := Lib.hid (own_below HOW5.out HBV.out)
          have hgv := HOV.out.lt gv rfl
          have hgvh : gv ≠ gh := by omega
          go_loopw [14] (fun i wr => ∃ j : Nat, j ≤ 8 ∧ i = .int .i64 (j : Int) ∧ Hid (wr.ownsRow w0.heap.size 130 1 (.slice (some ⟨gh, 0, none⟩) 8 c3) 8 ((midS s r8 j).map cw)) ∧ Hid (wz.grownBy wr (some gh))) (fun i _ => 8 - (intOf i).toNat)
          case atStart => exact ⟨0, by omega, rfl, HOH, Lib.hid (World.grownBy.refl _ _)⟩
          case round =>
            obtain ⟨j, hj, rfl, HOJ, HGJ⟩ := hrel
            by_cases hjl : j < 8
            · have hmj := midS_at s r8 j hjl
              have hst := midS_step s r8 j hjl
              have hhc := own_cell HOJ.out j hjl
              have hvc := own_cell (own_grown HOV.out HGJ.out (fun q hq e => by have h1 := Option.some.inj e; have h2 : gv = q := (by simpa [Value.ownBlock] using hq); omega)) j hjl
              have hfj := HOJ.out.frozenAt j
              have hgd : (midS s r8 j).getD j 0 = s.l.getD j 0 := by rw [List.getD_eq_getElem?_getD, hmj, Option.getD_some]
              rw [hgd] at hhc
              obtain ⟨xs, hxs⟩ : ∃ xs, xs = s.l.getD j 0 := ⟨_, rfl⟩
              obtain ⟨xr, hxr⟩ : ∃ xr, xr = r8.l.getD j 0 := ⟨_, rfl⟩
              rw [← hxs] at hhc hst
              rw [← hxr] at hvc hst
              have HST := Deep.mk hst
              clear hmj hst hxs hxr hgd
              go_wp2
              have hji : (j : Int) < 8 := by omega
              go_region_law (fail)
              all_goals
                rw [wi_add]
                have HO7' : Hid (((wr.setCell ⟨gh, j, none⟩ (.int .u32 (wi (xs + xr)))).drewN 1).ownsRow w0.heap.size 130 1 (.slice (some ⟨gh, 0, none⟩) 8 c3) 8 ((midS s r8 (j + 1)).map cw)) := by
                  have h := (HOJ.out.stored j (.int .u32 (wi (xs + xr)))).1
                  rw [← HST.out, List.map_set]
                  exact Lib.hid (own_below h (below_drewN (Below.refl _ _) 1))
                have HG7 := Lib.hid (grown_drewN (grown_trans HGJ.out (grown_set _ gh j (.int .u32 (wi (xs + xr))))) 1)
                change Exit.inBlock _ _ _ _ ((wr.setCell ⟨gh, j, none⟩ (.int .u32 (wi (xs + xr)))).drewN 1)
                generalize (wr.setCell ⟨gh, j, none⟩ (.int .u32 (wi (xs + xr)))).drewN 1 = w8 at *
                clear hji hhc hvc hfj
                go_wp2
                exact ⟨⟨j + 1, by omega, rfl, HO7', HG7⟩, by simp [intOf]; omega⟩
            · have hjd : decide ((j : Int) < 8) = false := by rw [decide_eq_false_iff_not]; omega
              have hst : addS s r8 = stB ks AL (q + 1) := by
                rw [stB, takeS, HR64.out, HWS.out, HBS.out, HSS.out, ← HPQ.out]
              have HOF : Hid (wr.ownsRow w0.heap.size 130 1 (.slice (some ⟨gh, 0, none⟩) 8 c3) 8 ((stB ks AL (q + 1)).l.map cw)) := by
                have h := HOJ.out
                rw [show j = 8 by omega, midS_full, hst] at h
                exact Lib.hid h
              have HGF := Lib.hid (grown_trans (grown_trans (grown_trans HG.out (grown_below HB7.out)) (grown_below HBV.out)) HGJ.out)
              have HP9 : Deep (p + 64 = 64 * (q + 1)) := ⟨by have := HPQ.out; omega⟩
              clear hst HOJ hjl hj
              go_wp2
              exact ⟨⟨p + 64, q + 1, by omega, rfl, HP9, HOF, HGF⟩, by simp [intOf]; omega⟩
    · have hpd : decide (p < N) = false := decide_eq_false hlt
      obtain ⟨sF, hsF⟩ : ∃ sF, sF = stB ks AL q := ⟨_, rfl⟩
      have hF : bytesS sF = sumK ks l := by rw [HSUM.out, hsF, show N / 64 = q by have := HPQ.out; omega]
      rw [← hsF] at HOW
      have HFF := Deep.mk hF
      have hg4 : gh < wr.heap.size := Nat.lt_of_lt_of_le hg3 HG.out.size
      have HWR4 := Lib.hid (HWR3.out.grown HG.out (by intro e; have := Option.some.inj e; omega))
      have HBW4 := Lib.hid (below_grown HB4.out HG.out hwg HB4.out.size)
      generalize wr = w4 at *
      have hbo : Below w4.heap.size w4 (w4.alloc (.cells (bRow (List.replicate 32 0)) 22)) := (Below.refl _ _).alloc (Nat.le_refl _) _
      have hwo : Wh (w4.alloc (.cells (bRow (List.replicate 32 0)) 22)) w4.heap.size 22 (bRow (List.replicate 32 0)) := Wh.new _ _ _
      clear hsF hF hlt hpN HSUM HWR3 HB4 HG HKX HAX
      go_upto_region 23 with fail
      clear hpd
      rw [zeros32]
      obtain ⟨go, hgo⟩ : ∃ go, go = w4.heap.size := ⟨_, rfl⟩
      rw [← hgo] at hwo
      rw [← hgo]
      generalize w4.alloc (.cells (bRow (List.replicate 32 0)) 22) = w6 at *
      have HOW6 := Lib.hid (own_below HOW.out hbo)
      have HWR6 := Lib.hid (HWR4.out.below hbo HWR4.out.lt)
      have HBW6 := Lib.hid (HBW4.out.trans (hbo.mono HBW4.out.size))
      have HWO := Lib.hid hwo
      have hgg : gh < go := by omega
      have hwgo : w.heap.size ≤ go := by have := HBW4.out.size; omega
      have HGO := Lib.hid hgo
      clear hbo hwo hgo HOW HWR4 HBW4
      go_wp2
      go_loopw [16] (fun i wr => ∃ k : Nat, k ≤ 32 ∧ i = .int .i64 (k : Int) ∧ Hid (Wh wr go 22 (bRow (midB (bytesS sF) k))) ∧ Hid (w6.grownBy wr (some go))) (fun i _ => 32 - (intOf i).toNat)
      case atStart => exact ⟨0, by omega, rfl, HWO, Lib.hid (World.grownBy.refl _ _)⟩
      case round =>
        obtain ⟨k, hk, rfl, HW, HGr⟩ := hrel
        by_cases hlt : k < 32
        · have hx : wr.cell? ⟨gh, k / 4, none⟩ = some (.int .u32 (wi (sF.l.getD (k / 4) 0))) := own_cell (own_grown HOW6.out HGr.out (fun q hq e => by have h1 := Option.some.inj e; have h2 : gh = q := (by simpa [Value.ownBlock] using hq); omega)) (k / 4) (by omega)
          have hu : ∃ u, wr.cell? ⟨go, k, none⟩ = some (.int .u8 u) := by
            have h1 : k < (midB (bytesS sF) k).length := by rw [midB_len _ k hk (bytesS_len sF)]; exact hlt
            refine ⟨(((midB (bytesS sF) k)[k]).toNat : Int), ?_⟩
            rw [HW.out.cell, bRow, List.getElem?_toArray, List.getElem?_map, List.getElem?_eq_getElem h1]
            rfl
          obtain ⟨u, hu⟩ := hu
          have hf := HW.out.frozen k
          have hby := bytesS_at sF k hlt
          have hst := midB_set (bytesS sF) k hlt (bytesS_len sF)
          rw [hby] at hst
          have HST := Deep.mk hst
          clear hby hst
          obtain ⟨x, hxx⟩ : ∃ x, x = sF.l.getD (k / 4) 0 := ⟨_, rfl⟩
          rw [← hxx] at hx HST
          clear hxx
          have k1 : (0 : Int) ≤ 24 - 8 * ((k : Int) % 4) := by omega
          have k2 : 24 - 8 * ((k : Int) % 4) ≤ 31 := by omega
          go_wp2_with (go_at_call 95; refine (shift_i x (24 - 8 * ((k : Int) % 4)) _ k1 k2).mono ?_; rintro e w9 ⟨rfl, rfl⟩)
          refine ⟨⟨k + 1, by omega, rfl, ?_, Lib.hid (grown_trans HGr.out (grown_set _ _ _ _))⟩, by simp [intOf]; omega⟩
          rw [wi_byte x k hlt]
          have h := HW.out.put k (cell8 (byteW x (3 - k % 4)))
          rw [bRow, List.setIfInBounds_toArray, ← List.map_set, HST.out] at h
          exact Lib.hid h
        · obtain ⟨HB, HS⟩ : Hid (Wh wr go 22 (bRow (bytesS sF))) ∧ Hid (Wh wr r 22 (bRow (List.replicate 32 0))) := by
            have h := HW.out
            have hk32 : k = 32 := by omega
            rw [hk32, midB, show 32 - 32 = 0 from rfl, List.replicate_zero, List.append_nil, List.take_of_length_le (by rw [bytesS_len]; exact Nat.le_refl _)] at h
            exact ⟨Lib.hid h, Lib.hid (HWR6.out.grown HGr.out (by intro e; have := Option.some.inj e; omega))⟩
          have hBe := Lib.hid (below_grown HBW6.out HGr.out hwgo HBW6.out.size)
          have hwr : w.heap.size ≤ r := by rw [HRR.out]; exact Nat.le_refl _
          have htd : decide ((k : Int) < 32) = false := by rw [decide_eq_false_iff_not]; omega
          obtain ⟨out, hout⟩ : ∃ out, out = bytesS sF := ⟨_, rfl⟩
          have hol : out.length = 32 := by rw [hout]; exact bytesS_len _
          rw [← hout] at HB
          have HOUT : Deep (out = sumK ks l) := ⟨by rw [hout]; exact HFF.out⟩
          clear HW HGr hlt hk HBW6 HWR6 HWO HOW6 hout
          go_wp2_with (first
            | (refine wpList_load_row rfl 22 (.tmp 15) rfl go rfl _ (bRow out) _ _ HB.out Tryd.underlying22 rfl (info_bRow hol) ?_)
            | (refine wpList_store_row rfl 22 (.tmp 2) (.tmp 172) rfl r (bRow out) rfl rfl _ _ HS.out (info_bRow hol) (by rw [bRow_size, bRow_size, hol]; rfl) (bRow_one _) ?_))
          refine bodyPost_ret (v := .agg (bRow out)) (results_cell_row Tryd.results60 _ _ r _ _ (0, 0) _ rfl (setRow_heap wr r _ _ _ _ HS.out) Tryd.underlying22 rfl (info_bRow hol)) rfl ?_
          exact ⟨by rw [HOUT.out], below_setRow hBe.out hwr _⟩
end
end Go.Proofs.YtblclinfcdalaaaDoor
