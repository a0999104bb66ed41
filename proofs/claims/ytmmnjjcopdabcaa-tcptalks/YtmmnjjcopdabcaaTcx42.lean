/- Texts joined: TcP -/
import Derived.Test.YtmmnjjcopdabcaaTcx10
namespace Go.Proofs.Ytmmnjjcopdabcaa
open Go.RowKit
set_option linter.unusedVariables false
set_option linter.unusedSimpArgs false
theorem i64_and1t (n : Int) : bits .and .i64 n 1 = n % 2 := by
 have h : (BitVec.ofInt 64 1).toNat = 2 ^ 1 - 1 := by decide
 have key : (BitVec.ofInt 64 n &&& BitVec.ofInt 64 1).toNat = (n % ((2 ^ 64 : Nat) : Int)).toNat % 2 ^ 1 := by
  rw [BitVec.toNat_and, BitVec.toNat_ofInt, h, Nat.and_two_pow_sub_one_eq_mod]
 show IntKind.i64.wrap ((BitVec.ofInt 64 n &&& BitVec.ofInt 64 1).toNat : Nat) = n % 2
 rw [key, IntKind.wrap_i64]
 omega
theorem fl16_4 : flB 16 4 = false := by kernel_rfl
theorem fl16_2 : flB 16 2 = false := by kernel_rfl
theorem fl16_1 : flB 16 1 = false := by kernel_rfl
theorem fl16_16 : flB 16 16 = true := by kernel_rfl
theorem fl17_4 : flB 17 4 = false := by kernel_rfl
theorem fl17_2 : flB 17 2 = false := by kernel_rfl
theorem fl17_1 : flB 17 1 = true := by kernel_rfl
theorem fl17_16 : flB 17 16 = true := by kernel_rfl
theorem fl18_4 : flB 18 4 = false := by kernel_rfl
theorem fl18_2 : flB 18 2 = true := by kernel_rfl
theorem fl18_1 : flB 18 1 = false := by kernel_rfl
theorem fl18_16 : flB 18 16 = true := by kernel_rfl
theorem fr_yes {a b : Int} (d : Int) (h : (a - b) % 4294967296 = d) (hd : d < 2147483648) : frB a b = true := by
 unfold frB; rw [h]; simpa using hd
theorem fr_no {a b : Int} (d : Int) (h : (a - b) % 4294967296 = d) (hd : 2147483648 ≤ d) : frB a b = false := by
 unfold frB; rw [h]; simpa using hd
/-- A stream behind its handshake. -/
def opn (a b v0 v1 : Int) : Cn := ⟨3, (a + 1) % 4294967296, (b + 1) % 4294967296, ((a + 1) % 4294967296 + v1) % 4294967296, ((b + 1) % 4294967296 + v0) % 4294967296, true, true, false, false⟩
def opn1 (a v0 : Int) : Cn := ⟨1, (a + 1) % 4294967296, 0, (a + 1) % 4294967296, v0 % 4294967296, true, false, false, false⟩
def opn2 (a b v0 v1 : Int) : Cn := ⟨2, (a + 1) % 4294967296, (b + 1) % 4294967296, ((a + 1) % 4294967296 + v1) % 4294967296, ((b + 1) % 4294967296 + v0) % 4294967296, true, true, false, false⟩
theorem in15 {v : Int} (h : 0 ≤ v ∧ v ≤ 65535) : inB15 v = true := by simp [inB15, h.1, h.2]
theorem opn_1 {a v0 : Int} (h0 : 0 ≤ v0 ∧ v0 ≤ 65535) : beg 2 a v0 0 = (opn1 a v0, 0) := by
 unfold beg
 rw [in15 h0, show inB15 0 = true from rfl, show (bits .and .i64 2 23 == 2) = true from by kernel_rfl]
 rfl
theorem cn_eq {c d : Cn} (h : c.st = d.st) (h0 : c.n0 = d.n0) (h1 : c.n1 = d.n1) (h2 : c.e0 = d.e0) (h3 : c.e1 = d.e1) (h4 : c.k0 = d.k0) (h5 : c.k1 = d.k1) (h6 : c.d0 = d.d0) (h7 : c.d1 = d.d1) : c = d := by
 cases c; cases d; simp_all
theorem stp_some {c d : Cn} {s : Bool} {g : Gt} (hr : c.right = true) (hw : inB15 g.win = true) (hz : inB15 g.sz = true) (ht : c.take s g = some d) : c.stp s g = (d, 0) := by
 unfold Cn.stp; rw [hr, hw, hz, ht]; rfl
theorem stp_none {c : Cn} {s : Bool} {g : Gt} (hr : c.right = true) (hw : inB15 g.win = true) (hz : inB15 g.sz = true) (ht : c.take s g = none) : c.stp s g = (cn0, 23) := by
 unfold Cn.stp; rw [hr, hw, hz, ht]; rfl
theorem opn_2 {a b v0 v1 : Int} (h0 : 0 ≤ v0 ∧ v0 ≤ 65535) (h1 : 0 ≤ v1 ∧ v1 ≤ 65535) : (opn1 a v0).step 1 ⟨18, v1, 0, b, (a + 1) % 4294967296⟩ = (opn2 a b v0 v1, 0) := by
 show (opn1 a v0).stp true _ = _
 refine stp_some rfl (in15 h1) rfl ?_
 unfold Cn.take Cn.syn
 dsimp only
 rw [fl18_4, fl18_2, fl18_1, fl18_16]
 simp only [opn1, Bool.false_eq_true, if_false, if_true, Bool.false_or, bne_self_eq_false, Bool.not_true, beq_self_eq_true, Int.reduceBEq, Bool.true_eq_false]
 refine congrArg some (cn_eq rfl rfl ?_ ?_ ?_ rfl rfl rfl rfl)
 ·show (b + 0 + bN (flB 18 2) + bN (flB 18 1)) % 4294967296 = (b + 1) % 4294967296
  rw [fl18_2, fl18_1]; simp [bN]
 ·show ((a + 1) % 4294967296 + v1) % 4294967296 = _
  rfl
 ·show ((b + 0 + bN (flB 18 2) + bN (flB 18 1)) % 4294967296 + v0 % 4294967296) % 4294967296 = ((b + 1) % 4294967296 + v0) % 4294967296
  rw [fl18_2, fl18_1]; simp [bN]
/-- Bytes, and perhaps the end, of a side in order, within what the other one lets it send: taken. -/
theorem byt_0 {c : Cn} {f v n P : Int} (h16 : flB f 16 = true) (h4 : flB f 4 = false) (h2 : flB f 2 = false) (k0 : c.k0 = true) (k1 : c.k1 = true) (hi : c.in32) (hst : (c.st == 1) = false) (hs6 : (c.st == 6) = false)
  (hr : c.right = true) (hv : 0 ≤ v ∧ v ≤ 65535) (hn : 0 ≤ n ∧ n ≤ 65535) (E : Int) (hE : E = n + bN (flB f 1)) (hd : E ≤ (c.e0 - c.n0) % 4294967296 ∧ (c.e0 - c.n0) % 4294967296 ≤ 65535) (hd1 : (c.e1 - c.n1) % 4294967296 ≤ v) (P' : (c.n0 + E) % 4294967296 = P) :
  c.step 0 ⟨f, v, n, c.n0, c.n1⟩ = (⟨stOf (flB f 1 || c.d0) c.d1, P, c.n1, c.e0, (c.n1 + v) % 4294967296, true, true, flB f 1 || c.d0, c.d1⟩, 0) := by
 show c.stp false _ = _
 refine stp_some hr (in15 hv) (in15 hn) ?_
 have hb : 0 ≤ bN (flB f 1) ∧ bN (flB f 1) ≤ 1 := by cases flB f 1 <;> simp [bN]
 have i0 := hi.n0
 have i1 := hi.n1
 have i2 := hi.e0
 have i3 := hi.e1
 have hg : Gt.e ⟨f, v, n, c.n0, c.n1⟩ = P := by
  show (c.n0 + n + bN (flB f 2) + bN (flB f 1)) % 4294967296 = P
  rw [h2]
  show (c.n0 + n + 0 + bN (flB f 1)) % 4294967296 = P
  omega
 have hl : Gt.lim ⟨f, v, n, c.n0, c.n1⟩ = (c.n1 + v) % 4294967296 := rfl
 unfold Cn.take
 dsimp only
 rw [h4, h2, h16, hst, hs6]
 simp only [Bool.false_eq_true, if_false, Bool.not_true, Bool.false_or, Bool.false_and]
 unfold Cn.byt
 rw [hg, hl]
 have hw : c.win false ⟨f, v, n, c.n0, c.n1⟩ = true := by
  show (c.k0 && wiB (Gt.e ⟨f, v, n, c.n0, c.n1⟩) c.n0 c.e0) = true
  rw [hg, k0, wiB, fr_yes (65535 + E) (by omega) (by omega), fr_yes ((c.e0 - c.n0) % 4294967296 - E) (by omega) (by omega)]
  rfl
 have ha : wiB c.n1 c.n1 c.n1 = true := by
  rw [wiB, fr_yes 65535 (by omega) (by omega), fr_yes 0 (by omega) (by omega)]; rfl
 rw [hw]
 show (if (true && wiB c.n1 c.n1 c.n1) = true then some (c.byR false P ((c.n1 + v) % 4294967296) (frB P c.n0) (frB ((c.n1 + v) % 4294967296) c.e1) (flB f 1)) else none) = _
 rw [ha, fr_yes (a := P) (b := c.n0) E (by omega) (by omega), fr_yes (a := (c.n1 + v) % 4294967296) (b := c.e1) (v - (c.e1 - c.n1) % 4294967296) (by omega) (by omega)]
 cases flB f 1 <;> simp [Cn.byR, k0, k1]
theorem byt_1 {c : Cn} {f v n P : Int} (h16 : flB f 16 = true) (h4 : flB f 4 = false) (h2 : flB f 2 = false) (k0 : c.k0 = true) (k1 : c.k1 = true) (hi : c.in32) (hst : (c.st == 1) = false) (hst2 : (c.st == 2) = false) (hs6 : (c.st == 6) = false)
  (hr : c.right = true) (hv : 0 ≤ v ∧ v ≤ 65535) (hn : 0 ≤ n ∧ n ≤ 65535) (E : Int) (hE : E = n + bN (flB f 1)) (hd : E ≤ (c.e1 - c.n1) % 4294967296 ∧ (c.e1 - c.n1) % 4294967296 ≤ 65535) (hd1 : (c.e0 - c.n0) % 4294967296 ≤ v) (P' : (c.n1 + E) % 4294967296 = P) :
  c.step 1 ⟨f, v, n, c.n1, c.n0⟩ = (⟨stOf c.d0 (flB f 1 || c.d1), c.n0, P, (c.n0 + v) % 4294967296, c.e1, true, true, c.d0, flB f 1 || c.d1⟩, 0) := by
 show c.stp true _ = _
 refine stp_some hr (in15 hv) (in15 hn) ?_
 have hb : 0 ≤ bN (flB f 1) ∧ bN (flB f 1) ≤ 1 := by cases flB f 1 <;> simp [bN]
 have i0 := hi.n0
 have i1 := hi.n1
 have i2 := hi.e0
 have i3 := hi.e1
 have hg : Gt.e ⟨f, v, n, c.n1, c.n0⟩ = P := by
  show (c.n1 + n + bN (flB f 2) + bN (flB f 1)) % 4294967296 = P
  rw [h2]
  show (c.n1 + n + 0 + bN (flB f 1)) % 4294967296 = P
  omega
 have hl : Gt.lim ⟨f, v, n, c.n1, c.n0⟩ = (c.n0 + v) % 4294967296 := rfl
 unfold Cn.take
 dsimp only
 rw [h4, h2, h16, hst, hst2, hs6]
 simp only [Bool.false_eq_true, if_false, Bool.not_true, Bool.false_or, Bool.and_false]
 unfold Cn.byt
 rw [hg, hl]
 have hw : c.win true ⟨f, v, n, c.n1, c.n0⟩ = true := by
  show (c.k1 && wiB (Gt.e ⟨f, v, n, c.n1, c.n0⟩) c.n1 c.e1) = true
  rw [hg, k1, wiB, fr_yes (65535 + E) (by omega) (by omega), fr_yes ((c.e1 - c.n1) % 4294967296 - E) (by omega) (by omega)]
  rfl
 have ha : wiB c.n0 c.n0 c.n0 = true := by
  rw [wiB, fr_yes 65535 (by omega) (by omega), fr_yes 0 (by omega) (by omega)]; rfl
 rw [hw]
 show (if (true && wiB c.n0 c.n0 c.n0) = true then some (c.byR true P ((c.n0 + v) % 4294967296) (frB P c.n1) (frB ((c.n0 + v) % 4294967296) c.e0) (flB f 1)) else none) = _
 rw [ha, fr_yes (a := P) (b := c.n1) E (by omega) (by omega), fr_yes (a := (c.n0 + v) % 4294967296) (b := c.e0) (v - (c.e0 - c.n0) % 4294967296) (by omega) (by omega)]
 cases flB f 1 <;> simp [Cn.byR, k0, k1]
theorem opn2_in {a b v0 v1 : Int} : (opn2 a b v0 v1).in32 := ⟨md32 _, md32 _, md32 _, md32 _⟩
theorem opn_in {a b v0 v1 : Int} : (opn a b v0 v1).in32 := ⟨md32 _, md32 _, md32 _, md32 _⟩
theorem opn_3 {a b v0 v1 : Int} (h0 : 0 ≤ v0 ∧ v0 ≤ 65535) (h1 : 0 ≤ v1 ∧ v1 ≤ 65535) : (opn2 a b v0 v1).step 0 ⟨16, v0, 0, (a + 1) % 4294967296, (b + 1) % 4294967296⟩ = (opn a b v0 v1, 0) := by
 have e : (opn2 a b v0 v1).step 0 ⟨16, v0, 0, (opn2 a b v0 v1).n0, (opn2 a b v0 v1).n1⟩ = _ := byt_0 (c := opn2 a b v0 v1) (v := v0) (n := 0) (P := (a + 1) % 4294967296) fl16_16 fl16_4 fl16_2 rfl rfl opn2_in rfl rfl rfl h0 (by decide) 0 (by rw [fl16_1]; rfl)
  (by show 0 ≤ (((a + 1) % 4294967296 + v1) % 4294967296 - (a + 1) % 4294967296) % 4294967296 ∧ (((a + 1) % 4294967296 + v1) % 4294967296 - (a + 1) % 4294967296) % 4294967296 ≤ 65535; omega)
  (by show (((b + 1) % 4294967296 + v0) % 4294967296 - (b + 1) % 4294967296) % 4294967296 ≤ v0; omega) (by show ((a + 1) % 4294967296 + 0) % 4294967296 = _; omega)
 rw [fl16_1] at e
 exact e
/-- Where talk in order stands: s: side 1 is next. -/
structure TalkI (c : Cn) (s : Bool) : Prop where
 st : c.st = 3
 k0 : c.k0 = true
 k1 : c.k1 = true
 d0 : c.d0 = false
 d1 : c.d1 = false
 hi : c.in32
 a0 : 1 ≤ (c.e0 - c.n0) % 4294967296 ∧ (c.e0 - c.n0) % 4294967296 ≤ 30000
 a1 : 1 ≤ (c.e1 - c.n1) % 4294967296 ∧ (c.e1 - c.n1) % 4294967296 ≤ 20000
 t0 : s = false → 10000 ≤ (c.e0 - c.n0) % 4294967296
 t1 : s = true → 10000 ≤ (c.e1 - c.n1) % 4294967296
theorem TalkI.right {c : Cn} {s : Bool} (h : TalkI c s) : c.right = true := by
 obtain ⟨st, n0, n1, e0, e1, k0, k1, d0, d1⟩ := c
 obtain ⟨rfl, rfl, rfl, rfl, rfl, _, _, _, _, _⟩ := h
 rfl
theorem talk_opn (a b : Int) : TalkI (opn a b 20000 30000) false := by
 refine ⟨rfl, rfl, rfl, rfl, rfl, opn_in, ?_, ?_, fun _ => ?_, fun h => by cases h⟩
 ·show 1 ≤ (((a + 1) % 4294967296 + 30000) % 4294967296 - (a + 1) % 4294967296) % 4294967296 ∧ _ ≤ _
  show 1 ≤ (((a + 1) % 4294967296 + 30000) % 4294967296 - (a + 1) % 4294967296) % 4294967296 ∧ (((a + 1) % 4294967296 + 30000) % 4294967296 - (a + 1) % 4294967296) % 4294967296 ≤ 30000
  omega
 ·show 1 ≤ (((b + 1) % 4294967296 + 20000) % 4294967296 - (b + 1) % 4294967296) % 4294967296 ∧ (((b + 1) % 4294967296 + 20000) % 4294967296 - (b + 1) % 4294967296) % 4294967296 ≤ 20000
  omega
 ·show 10000 ≤ (((a + 1) % 4294967296 + 30000) % 4294967296 - (a + 1) % 4294967296) % 4294967296
  omega
theorem talk_0 {c : Cn} {n : Int} (h : TalkI c false) (hn : 0 ≤ n ∧ n < 10000) :
  ∃ d, c.step 0 ⟨16, 20000, n, c.n0, c.n1⟩ = (d, 0) ∧ TalkI d true ∧ d.n0 = (c.n0 + n) % 4294967296 ∧ d.n1 = c.n1 := by
 have hh := h
 obtain ⟨st, k0, k1, d0, d1, hi, a0, a1, t0, _⟩ := h
 have i0 := hi.n0
 have i1 := hi.n1
 have i2 := hi.e0
 have i3 := hi.e1
 have t := t0 rfl
 refine ⟨_, byt_0 (c := c) (v := 20000) (n := n) (P := (c.n0 + n) % 4294967296) fl16_16 fl16_4 fl16_2 k0 k1 hi (by rw [st]; rfl) (by rw [st]; rfl) hh.right (by decide) (by omega) n (by rw [fl16_1]; simp [bN]) (by omega) (by omega) rfl, ?_, rfl, rfl⟩
 rw [fl16_1, d0, d1]
 refine ⟨rfl, rfl, rfl, rfl, rfl, ⟨md32 _, hi.n1, hi.e0, md32 _⟩, ?_, ?_, (fun e => by cases e), fun _ => ?_⟩ <;> dsimp only <;> omega
theorem talk_1 {c : Cn} {n : Int} (h : TalkI c true) (hn : 0 ≤ n ∧ n < 10000) :
  ∃ d, c.step 1 ⟨16, 30000, n, c.n1, c.n0⟩ = (d, 0) ∧ TalkI d false ∧ d.n0 = c.n0 ∧ d.n1 = (c.n1 + n) % 4294967296 := by
 have hh := h
 obtain ⟨st, k0, k1, d0, d1, hi, a0, a1, _, t1⟩ := h
 have i0 := hi.n0
 have i1 := hi.n1
 have i2 := hi.e0
 have i3 := hi.e1
 have t := t1 rfl
 refine ⟨_, byt_1 (c := c) (v := 30000) (n := n) (P := (c.n1 + n) % 4294967296) fl16_16 fl16_4 fl16_2 k0 k1 hi (by rw [st]; rfl) (by rw [st]; rfl) (by rw [st]; rfl) hh.right (by decide) (by omega) n (by rw [fl16_1]; simp [bN]) (by omega) (by omega) rfl, ?_, rfl, rfl⟩
 rw [fl16_1, d0, d1]
 refine ⟨rfl, rfl, rfl, rfl, rfl, ⟨hi.n0, md32 _, md32 _, hi.e1⟩, ?_, ?_, fun _ => ?_, (fun e => by cases e)⟩ <;> dsimp only <;> omega
/-- Both ends. -/
theorem talk_end {c : Cn} {s : Bool} (h : TalkI c s) : ∃ d e, c.step 0 ⟨17, 20000, 0, c.n0, c.n1⟩ = (d, 0) ∧ d.st = 4 ∧ d.step 1 ⟨17, 30000, 0, c.n1, (c.n0 + 1) % 4294967296⟩ = (e, 0) ∧ e.st = 5 := by
 have hh := h
 obtain ⟨st, k0, k1, d0, d1, hi, a0, a1, _, _⟩ := h
 have i0 := hi.n0
 have i1 := hi.n1
 have i2 := hi.e0
 have i3 := hi.e1
 have s1 := byt_0 (c := c) (f := 17) (v := 20000) (n := 0) (P := (c.n0 + 1) % 4294967296) fl17_16 fl17_4 fl17_2 k0 k1 hi (by rw [st]; rfl) (by rw [st]; rfl) hh.right (by decide) (by decide) 1 (by rw [fl17_1]; rfl) (by omega) (by omega) rfl
 rw [fl17_1, d0, d1] at s1
 obtain ⟨d, hd⟩ : ∃ d : Cn, (⟨stOf (true || false) false, (c.n0 + 1) % 4294967296, c.n1, c.e0, (c.n1 + 20000) % 4294967296, true, true, true || false, false⟩ : Cn) = d := ⟨_, rfl⟩
 rw [hd] at s1
 have j0 : d.n0 = (c.n0 + 1) % 4294967296 := by rw [← hd]
 have j1 : d.n1 = c.n1 := by rw [← hd]
 have j2 : d.e0 = c.e0 := by rw [← hd]
 have j3 : d.e1 = (c.n1 + 20000) % 4294967296 := by rw [← hd]
 have s2 := byt_1 (c := d) (f := 17) (v := 30000) (n := 0) (P := (d.n1 + 1) % 4294967296) fl17_16 fl17_4 fl17_2 (by rw [← hd]) (by rw [← hd]) (by rw [← hd]; exact ⟨md32 _, hi.n1, hi.e0, md32 _⟩) (by rw [← hd]; rfl) (by rw [← hd]; rfl) (by rw [← hd]; rfl) (by rw [← hd]; rfl) (by decide) (by decide) 1 (by rw [fl17_1]; rfl) (by rw [j1, j3]; omega) (by rw [j0, j2]; omega) rfl
 rw [j0, j1] at s2
 refine ⟨d, _, s1, by rw [← hd]; rfl, s2, ?_⟩
 rw [fl17_1, ← hd]
 rfl
theorem step_at0 (c : Cn) (g : Gt) : c.step 0 g = c.stp false g := rfl
theorem step_at1 (c : Cn) (g : Gt) : c.step 1 g = c.stp true g := rfl
/-- What no window holds and no state waits for. -/
theorem stray_win {c : Cn} {s : Bool} {g : Gt} (hr : c.right = true) (hst : c.st = 3) (hw : inB15 g.win = true) (hz : inB15 g.sz = true) (hn : c.win s g = false) : c.stp s g = (cn0, 23) := by
 refine stp_none hr hw hz ?_
 unfold Cn.take Cn.rst Cn.syn Cn.byt
 rw [hst, hn]
 simp only [Int.reduceBEq, Bool.false_and, Bool.and_false, Bool.or_false, Bool.false_eq_true, if_false]
 repeat' split
 all_goals rfl
theorem stray_0 (a b t f : Int) (ht : 70000 ≤ t ∧ t < 1070000) : (opn a b 100 100).step 0 ⟨f, 0, 0, ((a + 1) % 4294967296 + t) % 4294967296, (b + 1) % 4294967296⟩ = (cn0, 23) := by
 rw [step_at0]
 refine stray_win rfl rfl rfl rfl ?_
 have e : Gt.e ⟨f, 0, 0, ((a + 1) % 4294967296 + t) % 4294967296, (b + 1) % 4294967296⟩ = ((a + 1) % 4294967296 + t + bN (flB f 2) + bN (flB f 1)) % 4294967296 := by
  show (((a + 1) % 4294967296 + t) % 4294967296 + 0 + bN (flB f 2) + bN (flB f 1)) % 4294967296 = _
  omega
 have h2 : 0 ≤ bN (flB f 2) ∧ bN (flB f 2) ≤ 1 := by cases flB f 2 <;> simp [bN]
 have h1 : 0 ≤ bN (flB f 1) ∧ bN (flB f 1) ≤ 1 := by cases flB f 1 <;> simp [bN]
 show (true && wiB (Gt.e _) ((a + 1) % 4294967296) (((a + 1) % 4294967296 + 100) % 4294967296)) = false
 rw [e, wiB]
 generalize bN (flB f 2) = p at *
 generalize bN (flB f 1) = q at *
 rw [fr_no (a := ((a + 1) % 4294967296 + 100) % 4294967296) (4294967296 + 100 - t - p - q) (by omega) (by omega)]
 simp
theorem stray_1 (a b t f : Int) (ht : 70000 ≤ t ∧ t < 1070000) : (opn a b 100 100).step 1 ⟨f, 0, 0, (((b + 1) % 4294967296 - t) % 4294967296 - 2) % 4294967296, (a + 1) % 4294967296⟩ = (cn0, 23) := by
 rw [step_at1]
 refine stray_win rfl rfl rfl rfl ?_
 have e : Gt.e ⟨f, 0, 0, (((b + 1) % 4294967296 - t) % 4294967296 - 2) % 4294967296, (a + 1) % 4294967296⟩ = ((b + 1) % 4294967296 - t - 2 + bN (flB f 2) + bN (flB f 1)) % 4294967296 := by
  show ((((b + 1) % 4294967296 - t) % 4294967296 - 2) % 4294967296 + 0 + bN (flB f 2) + bN (flB f 1)) % 4294967296 = _
  omega
 have h2 : 0 ≤ bN (flB f 2) ∧ bN (flB f 2) ≤ 1 := by cases flB f 2 <;> simp [bN]
 have h1 : 0 ≤ bN (flB f 1) ∧ bN (flB f 1) ≤ 1 := by cases flB f 1 <;> simp [bN]
 show (true && wiB (Gt.e _) ((b + 1) % 4294967296) (((b + 1) % 4294967296 + 100) % 4294967296)) = false
 rw [e, wiB]
 generalize bN (flB f 2) = p at *
 generalize bN (flB f 1) = q at *
 rw [fr_no (b := ((b + 1) % 4294967296 - 65535) % 4294967296) (4294967296 + 65535 - t - 2 + p + q) (by omega) (by omega)]
 simp
theorem stray_2 (a b t : Int) (ht : 70000 ≤ t ∧ t < 1070000) : (opn a b 100 100).step 0 ⟨16, 0, 0, (a + 1) % 4294967296, ((b + 1) % 4294967296 + t) % 4294967296⟩ = (cn0, 23) := by
 rw [step_at0]
 refine stp_none rfl rfl rfl ?_
 unfold Cn.take Cn.byt
 dsimp only
 rw [fl16_4, fl16_2, fl16_16]
 show (if (false = true) then _ else if ((3 : Int) == 6) = true then none else if (false = true) then _ else if (!true || ((3 : Int) == 1 || (false && (3 : Int) == 2))) = true then none else if ((opn a b 100 100).win false _ && wiB (((b + 1) % 4294967296 + t) % 4294967296) ((b + 1) % 4294967296) ((b + 1) % 4294967296)) = true then _ else none) = none
 rw [wiB, fr_no (a := (b + 1) % 4294967296) (4294967296 - t) (by omega) (by omega)]
 simp
end Go.Proofs.Ytmmnjjcopdabcaa
