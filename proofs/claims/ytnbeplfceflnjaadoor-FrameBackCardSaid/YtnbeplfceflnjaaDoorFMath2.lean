/-
  Frames: what was appended is read as it was; cut short it is none. Plain mathematics.
-/
import Derived.Test.YtnbeplfceflnjaaDoorFMath
namespace Go.Proofs.YtnbeplfceflnjaaDoor
set_option linter.unusedVariables false

theorem s4_enc {f F : PF} {a e t d c : Bool} (ha : a = true → OkR f.acks ∧ f.acks ≠ [] ∧ f.delay ≤ 4611686018427387903 ∧ f.acks.length ≤ 65536) (hz : a = false → F.acks = f.acks ∧ F.delay = f.delay) (R : List UInt8) :
    s4 a e t d c F (encs (if a = true then ackNums f else []) ++ R) = s5 e t d c { F with acks := f.acks, delay := f.delay } R := by
  cases a
  · obtain ⟨h1, h2⟩ := hz rfl
    have hF : { F with acks := f.acks, delay := f.delay } = F := by rw [← h1, ← h2]
    rw [hF]
    unfold s4
    simp [encs_none]
  · obtain ⟨h1, h2, h3, h4⟩ := ha rfl
    unfold s4
    simp only [if_true]
    rw [acks_enc h1 h2 h3 h4]

theorem s5_enc {f F : PF} {e t d c : Bool} (h : f.e0 ≤ 4611686018427387903 ∧ f.e1 ≤ 4611686018427387903 ∧ f.e2 ≤ 4611686018427387903) (hz : e = false → f.e0 = 0 ∧ f.e1 = 0 ∧ f.e2 = 0) (R : List UInt8) :
    s5 e t d c F (encs (if e = true then [f.e0, f.e1, f.e2] else []) ++ R) = s8 t d c { F with e0 := f.e0, e1 := f.e1, e2 := f.e2 } R := by
  cases e
  · obtain ⟨h1, h2, h3⟩ := hz rfl
    rw [h1, h2, h3]
    unfold s5 s6 s7
    simp [encs_none, numIf_]
  · have e3 : encs [f.e0, f.e1, f.e2] ++ R = enc f.e0 ++ (enc f.e1 ++ (enc f.e2 ++ R)) := by simp [encs]
    simp only [if_true]
    rw [e3]
    unfold s5 s6 s7 numIf_
    simp only [if_true]
    rw [num_enc h.1]
    simp only
    rw [num_enc h.2.1]
    simp only
    rw [num_enc h.2.2]

theorem s8_enc {f F : PF} {t d c : Bool} (hk : F.kind = f.kind) (hl : f.data.length ≤ 4611686018427387903) (hz : F.data = [] ∧ F.cid = [] ∧ F.token = List.replicate 16 0) (htd : t = true → d = true) (hdc : d = true → c = false)
    (h8 : d = true → t = false → f.kind ≠ 8 ∧ f.data.length = 8) (hd : d = false → f.data = []) (hc0 : c = false → f.cid = [] ∧ f.token = List.replicate 16 0) (hc : c = true → f.cid.length ≤ 20 ∧ f.token.length = 16) (r : List UInt8) :
    s8 t d c F (encs (if t = true then [f.data.length] else []) ++ (encs (if c = true then [f.cid.length] else []) ++ (f.data ++ (f.cid ++ ((if c = true then f.token else []) ++ r))))) = sF { F with data := f.data, cid := f.cid, token := f.token } r := by
  obtain ⟨z1, z2, z3⟩ := hz
  obtain ⟨F1, F2, F3, F4, F5, F6, F7, F8, F9, F10, F11, F12, F13, F14, F15⟩ := F
  dsimp only at hk z1 z2 z3
  subst z1 z2 z3
  cases d
  · have ht : t = false := by
      cases t
      · rfl
      · exact absurd (htd rfl) (by decide)
    subst ht
    rw [hd rfl]
    unfold s8
    cases c
    · obtain ⟨c1, c2⟩ := hc0 rfl
      rw [c1, c2]
      unfold s9
      simp [encs_none]
    · obtain ⟨c1, c2⟩ := hc rfl
      unfold s9
      simp only [Bool.false_eq_true, if_false, if_true, encs_none, List.nil_append, encs_one]
      rw [cid_enc c1 c2]
  · obtain rfl : c = false := hdc rfl
    obtain ⟨c1, c2⟩ := hc0 rfl
    rw [c1, c2]
    unfold s8
    simp only [Bool.false_eq_true, if_false, if_true, encs_none, List.nil_append]
    rw [hk, data_enc hl (fun e => h8 rfl e)]
    simp only
    unfold s9
    simp only [Bool.false_eq_true, if_false]

/-- What stands behind the kind. -/
def restF (f : PF) (r : List UInt8) : List UInt8 :=
  encs (pn f 2 [f.id]) ++ (encs (pn f 4 [f.off]) ++ (encs (pn f 8 [f.code]) ++ (encs (pn f 16 [f.max]) ++ (encs (pn f 128 (ackNums f)) ++ (encs (pn f 256 [f.e0, f.e1, f.e2]) ++
    (encs (pn f 512 [f.data.length]) ++ (encs (pn f 2048 [f.cid.length]) ++ (f.data ++ (f.cid ++ ((if bt (wireP f) 2048 = true then f.token else []) ++ r))))))))))

theorem sP_back {f : PF} (h : MayF f) (h0 : f.kind ≠ 0) (ht : f.token.length = 16) (hal : f.acks.length ≤ 65536) (r : List UInt8) : sP (wireP f) { zP f.kind with fin := f.fin } (restF f r) = some (f, r) := by
  have hw := onW_wire h
  have hc := cls_wire h h0
  obtain ⟨m1, m2, m3, m4, m5, m6, m7, m8, m9⟩ := may_le h
  have hmay := h
  obtain ⟨_, _, _, hk⟩ := h
  obtain ⟨_, k2, _, _, k24, k8⟩ := hk
  have hn := hw.n hc.pad
  unfold sP restF pn
  rw [if_pos hw.b1]
  unfold sM
  rw [hc.pad]
  simp only [Bool.false_eq_true, if_false]
  unfold s0
  rw [numIf_enc m1 hw.id]
  dsimp only
  unfold s1
  rw [numIf_enc m2 hw.off]
  dsimp only
  unfold s2
  rw [numIf_enc m3 hw.code]
  dsimp only
  unfold s3
  rw [numIf_enc m4 hw.max]
  dsimp only
  rw [s4_enc (fun e => ⟨(k2 (hc.acks e)).1, (k2 (hc.acks e)).2, m5, hal⟩) (fun e => by obtain ⟨x1, x2⟩ := hw.acks e; exact ⟨x1.symm, x2.symm⟩)]
  rw [s5_enc ⟨m6, m7, m8⟩ hw.ecn]
  refine Eq.trans (s8_enc (f := f) (by rfl) m9 ⟨by rfl, by rfl, by rfl⟩ hc.told hc.dc (fun e e' => by rcases hc.eight e e' with h | h <;> exact ⟨by omega, k8 (by omega)⟩) hw.data hw.cid (fun e => ⟨(k24 (hc.cid e)).2.1, ht⟩) r) ?_
  have hF : ∀ g : PF, g = f → MayF f → sF g r = some (f, r) := fun g hg hm => by subst hg; exact sF_may hm r
  refine hF _ ?_ hmay
  obtain ⟨a1, a2, a3, a4, a5, a6, a7, a8, a9, a10, a11, a12, a13, a14, a15⟩ := f
  simp only at hn
  subst hn
  rfl

theorem wire_2048 {f : PF} (h : MayF f) : bt (wireP f) 2048 = bt (partsN f.kind) 2048 := by
  unfold wireP
  by_cases hk : f.kind = 8 ∧ f.off = 0
  · rw [if_pos hk, hk.1]; decide
  · rw [if_neg hk]

theorem bytesF_form {f : PF} (h : MayF f) (h0 : f.kind ≠ 0) (r : List UInt8) : bytesF f ++ r = enc (wireN f) ++ restF f r := by
  unfold bytesF restF numsN
  rw [if_neg h0, ← wire_2048 h]
  simp only [encs_app, encs_one, List.append_assoc]

theorem enc_byte : ∀ n : Nat, n < 64 → enc n = [UInt8.ofNat n] := by decide

theorem frame_cons (x : UInt8) (t : List UInt8) : frame_ (x :: t) = if x.toNat / 8 = 1 then sP (strN x.toNat) { zP x.toNat with kind := 8, fin := decide (x.toNat % 2 = 1) } t else sP (partsN x.toNat) (zP x.toNat) t := rfl

theorem frame_first {f : PF} (h : MayF f) (h0 : f.kind ≠ 0) (L : List UInt8) : frame_ (enc (wireN f) ++ L) = sP (wireP f) { zP f.kind with fin := f.fin } L := by
  have h31 := kind_small h
  have hcl := wire_class f.kind h31 h.1 h0
  have hfin := (onW_parts h).2
  by_cases h8 : f.kind = 8
  · have hx : ∀ (n p : Nat) (b : Bool), n < 64 → wireN f = n → wireP f = p → f.fin = b → n / 8 = 1 → strN n = p → decide (n % 2 = 1) = b → frame_ (enc (wireN f) ++ L) = sP (wireP f) { zP f.kind with fin := f.fin } L := by
      intro n p b hn e1 e2 e3 e4 e5 e6
      rw [e1, e2, e3, enc_byte n hn, h8]
      have hb : (UInt8.ofNat n).toNat = n := by rw [UInt8.toNat_ofNat', Nat.mod_eq_of_lt (by omega)]
      rw [List.singleton_append, frame_cons, hb, if_pos e4, e5, e6]
      have hrec : ({ zP n with kind := 8, fin := b } : PF) = { zP 8 with fin := b } := rfl
      rw [hrec]
    by_cases ho : f.off = 0
    · have hp : wireP f = 1603 := by unfold wireP; rw [if_pos ⟨h8, ho⟩]; decide
      rcases Bool.eq_false_or_eq_true f.fin with hf | hf
      · exact hx 11 1603 true (by omega) (by unfold wireN; simp [h8, ho, hf]) hp hf rfl (by decide) (by decide)
      · exact hx 10 1603 false (by omega) (by unfold wireN; simp [h8, ho, hf]) hp hf rfl (by decide) (by decide)
    · have hp : wireP f = 1607 := by unfold wireP; rw [if_neg (fun e => ho e.2), h8]; decide
      rcases Bool.eq_false_or_eq_true f.fin with hf | hf
      · exact hx 15 1607 true (by omega) (by unfold wireN; simp [h8, ho, hf]) hp hf rfl (by decide) (by decide)
      · exact hx 14 1607 false (by omega) (by unfold wireN; simp [h8, ho, hf]) hp hf rfl (by decide) (by decide)
  · have hf : f.fin = false := hfin (by
      cases hb : bt (partsN f.kind) 64
      · rfl
      · exact absurd (hcl.2.2.2.2.2.2.1 hb) h8)
    have hp : wireP f = partsN f.kind := by unfold wireP; rw [if_neg (fun e => h8 e.1)]
    have hn : wireN f = f.kind := by unfold wireN; rw [if_neg h8]
    have hb : (UInt8.ofNat f.kind).toNat = f.kind := by rw [UInt8.toNat_ofNat', Nat.mod_eq_of_lt (by omega)]
    have hq : ¬ f.kind / 8 = 1 := fun e => h8 (hcl.2.2.2.2.2.2.2.1 (by omega) (by omega))
    rw [hn, hp, hf, enc_byte _ (by omega)]
    rw [List.singleton_append, frame_cons, hb, if_neg hq]
    have hrec : ({ zP f.kind with fin := false } : PF) = zP f.kind := rfl
    rw [hrec]

/-- What was appended is read as it was, whatever stands behind. -/
theorem frame_back {f : PF} (h : MayF f) (h0 : f.kind ≠ 0) (ht : f.token.length = 16) (hal : f.acks.length ≤ 65536) (r : List UInt8) : frame_ (bytesF f ++ r) = some (f, r) := by
  rw [bytesF_form h h0, frame_first h h0, sP_back h h0 ht hal]

end Go.Proofs.YtnbeplfceflnjaaDoor
