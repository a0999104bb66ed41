/- What was written is read; what is behind turns nothing; what was turned, or cut, is refused: in plain numbers. -/
import Derived.Test.YtgdpcomcndidcaaIp4M
namespace Go.Proofs.Ytgdpcomcndidcaa
set_option linter.unusedVariables false
set_option linter.unusedSimpArgs false

theorem bytes4_len {a : Ad} (hf : a.fam = 4) (hr : a.right = true) : a.bytes.length = 4 := by
  unfold Ad.bytes
  rw [if_pos hr, if_pos hf, bytesGo_length]
theorem bytes_bytes (a : Ad) : M.Bytes a.bytes := by
  unfold Ad.bytes
  split
  · exact bytesGo_bytes _ _ _
  · exact M.Bytes.nil
theorem front_bytes {p : Pk} (h : May p) : M.Bytes p.front := by
  intro x hx
  have h1 := h.hop
  have h2 := h.proto
  simp only [Pk.front, List.cons_append, List.nil_append, List.mem_cons, List.not_mem_nil, or_false] at hx
  rcases hx with rfl | rfl | rfl | rfl | rfl | rfl | rfl | rfl | rfl | rfl <;> omega
theorem chk_bd (p : Pk) : 0 ≤ p.chk ∧ p.chk ≤ 65535 := by
  have := M.nf_bd (M.raw true ([p.front, p.src.bytes, p.dst.bytes] : List (List Int)).flatten)
  unfold Pk.chk M.sumOf
  omega
theorem hdr_len {p : Pk} (h : May p) : p.hdr.length = 20 := by
  have h1 := bytes4_len h.sf h.sr
  have h2 := bytes4_len h.df h.dr
  simp only [Pk.hdr, Pk.front, List.length_append, List.length_cons, List.length_nil, h1, h2]
theorem made_len {p : Pk} (h : May p) : p.made.length = 20 + p.data.length := by
  rw [Pk.made, List.length_append, hdr_len h]
theorem hdr_bytes {p : Pk} (h : May p) : M.Bytes p.hdr := by
  have hc := chk_bd p
  refine M.Bytes.app (M.Bytes.app (M.Bytes.app (front_bytes h) fun x hx => ?_) (bytes_bytes _)) (bytes_bytes _)
  simp only [List.mem_cons, List.not_mem_nil, or_false] at hx
  rcases hx with rfl | rfl <;> omega
theorem made_bytes {p : Pk} (h : May p) (hd : M.Bytes p.data) : M.Bytes p.made := M.Bytes.app (hdr_bytes h) hd

theorem hdr_raw {p : Pk} (h : May p) : M.raw true p.hdr % 65535 = 0 ∧ 0 < M.raw true p.hdr := by
  have hs := bytes4_len h.sf h.sr
  have hd := bytes4_len h.df h.dr
  have c := chk_bd p
  have r1 := (M.raw_bd true p.src.bytes (bytes_bytes _)).1
  have r2 := (M.raw_bd true p.dst.bytes (bytes_bytes _)).1
  have f0 : 17664 ≤ M.raw true p.front := by
    have h1 := h.hop
    have h2 := h.proto
    simp only [Pk.front, List.cons_append, List.nil_append, M.raw_cons, M.raw_nil, Bool.not_true, Bool.not_false, if_true, Bool.false_eq_true, if_false]
    omega
  have e1 : M.raw true ([p.front, p.src.bytes, p.dst.bytes] : List (List Int)).flatten = M.raw true p.front + (M.raw true p.src.bytes + M.raw true p.dst.bytes) := by
    simp only [List.flatten_cons, List.flatten_nil, List.append_nil]
    rw [M.raw_append, M.raw_append, show p.front.length = 10 from rfl, M.par_even true (by decide : 10 % 2 = 0), hs, M.par_even true (by decide : 4 % 2 = 0)]
  have e2 : M.raw true p.hdr = M.raw true p.front + p.chk + (M.raw true p.src.bytes + M.raw true p.dst.bytes) := by
    rw [Pk.hdr, M.raw_append, M.raw_append, M.raw_append]
    simp only [List.length_append, List.length_cons, List.length_nil, hs, show p.front.length = 10 from rfl, M.par_even true (by decide : 10 % 2 = 0), M.par_even true (by decide : (10 + (0 + 1 + 1)) % 2 = 0), M.par_even true (by decide : (10 + (0 + 1 + 1) + 4) % 2 = 0), M.raw_cons, M.raw_nil, Bool.not_true, Bool.not_false, if_true, Bool.false_eq_true, if_false]
    omega
  have e3 : p.chk = 65535 - M.nf (M.raw true ([p.front, p.src.bytes, p.dst.bytes] : List (List Int)).flatten) := rfl
  rw [e1] at e3
  rw [e2, e3]
  generalize M.raw true p.front = f at *
  generalize M.raw true p.src.bytes = s at *
  generalize M.raw true p.dst.bytes = d at *
  clear e1 e2 e3 c
  unfold M.nf
  rw [if_neg (by omega)]
  omega
theorem hdr_sum {p : Pk} (h : May p) : M.sumOf [p.hdr] = 65535 := by
  have := hdr_raw h
  rw [M.sumOf_one]
  exact M.nf_full this.1 this.2

theorem getD_take (l : List Int) (n i : Nat) (h : i < n) : (l.take n).getD i 0 = l.getD i 0 := by
  simp only [List.getD_eq_getElem?_getD, List.getElem?_take, if_pos h]
theorem getD_left (l m : List Int) (i : Nat) (h : i < l.length) : (l ++ m).getD i 0 = l.getD i 0 := by
  simp only [List.getD_eq_getElem?_getD, List.getElem?_append_left h]

/-- The first twenty bytes are alike. -/
def Alike (b c : List Int) : Prop := ∀ i, i < 20 → b.getD i 0 = c.getD i 0
theorem alike_hd {b c : List Int} (h : Alike b c) : hd b = hd c := by unfold hd; rw [h 0 (by omega)]
theorem alike_sz {b c : List Int} (h : Alike b c) : sz b = sz c := by
  show 256 * b.getD 2 0 + b.getD 3 0 = 256 * c.getD 2 0 + c.getD 3 0
  rw [h 2 (by omega), h 3 (by omega)]
theorem alike_pl {b c : List Int} (h : Alike b c) : pl b = pl c := by
  show 256 * b.getD 6 0 + b.getD 7 0 = 256 * c.getD 6 0 + c.getD 7 0
  rw [h 6 (by omega), h 7 (by omega)]

theorem take_app {b m : List Int} {k : Nat} (h : k ≤ b.length) : (b ++ m).take k = b.take k := by
  rw [List.take_append_of_le_length h]
theorem part_app {b m : List Int} {x n : Int} (hx : 0 ≤ x) (hn : 0 ≤ n) (h : x + n ≤ b.length) : part (b ++ m) x n = part b x n := by
  unfold part
  rw [List.drop_append_of_le_length (by omega), List.take_append_of_le_length (by rw [List.length_drop]; omega)]
theorem alike_app {b : List Int} (m : List Int) (h : 20 ≤ b.length) : Alike (b ++ m) b := fun i hi => getD_left b m i (by omega)

/-- What stands behind turns nothing. -/
theorem behind {b : List Int} (m : List Int) (h : perr b = 0) : perr (b ++ m) = 0 ∧ pkt (b ++ m) = pkt b := by
  obtain ⟨h1, h2, h3, h4, h5, h6, h7, h8, h9, h10, h11, h12⟩ := perr_zero.1 h
  have al := alike_app m h1
  have e1 := alike_hd al
  have e2 := alike_sz al
  have e3 := alike_pl al
  have e4 : mr (b ++ m) = mr b := by unfold mr; rw [e3]
  have e5 : ofs (b ++ m) = ofs b := by unfold ofs; rw [e3]
  have e6 : (b ++ m).take (hd b).toNat = b.take (hd b).toNat := take_app (by omega)
  refine ⟨perr_zero.2 ⟨by rw [List.length_append]; omega, by rw [al 0 (by omega)]; exact h2, by rw [e1]; exact h3, by rw [e1, List.length_append]; omega, by rw [e1, e2]; exact h5, by rw [e2, List.length_append]; omega, by rw [e1, e6]; exact h7, by rw [al 8 (by omega)]; exact h8, by rw [e3]; exact h9, by rw [e1, e6]; exact h10, by rw [e1, e2, e4]; exact h11, by rw [e1, e2, e5]; exact h12⟩, ?_⟩
  have e7 : fr (b ++ m) = fr b := by unfold fr; rw [e4, e5]
  have e8 : u16 (b ++ m) 4 = u16 b 4 := by
    show 256 * (b ++ m).getD 4 0 + (b ++ m).getD 5 0 = 256 * b.getD 4 0 + b.getD 5 0
    rw [al 4 (by omega), al 5 (by omega)]
  unfold pkt
  rw [part_app (by omega) (by omega) (by omega), part_app (by omega) (by omega) (by omega), al 9 (by omega), al 8 (by omega), e7, e8, e5, e4, e1, e2, part_app (by omega) (by omega) (by omega)]

theorem made_at {p : Pk} (i : Nat) (h : i < 12) : p.made.getD i 0 = (p.front ++ [p.chk / 256 % 256, p.chk % 256]).getD i 0 := by
  unfold Pk.made Pk.hdr
  rw [List.append_assoc, List.append_assoc, getD_left _ _ i (by simp [Pk.front]; omega)]
theorem made_sz {p : Pk} (h : May p) : sz p.made = 20 + p.data.length := by
  show 256 * p.made.getD 2 0 + p.made.getD 3 0 = _
  rw [made_at 2 (by omega), made_at 3 (by omega)]
  show 256 * ((20 + (p.data.length : Int)) / 256 % 256) + (20 + (p.data.length : Int)) % 256 = _
  have := h.over
  have := h.off0
  omega
theorem made_hd (p : Pk) : hd p.made = 20 := by
  unfold hd
  rw [made_at 0 (by omega)]
  rfl
theorem made_pl {p : Pk} (h : May p) : pl p.made = p.place := by
  show 256 * p.made.getD 6 0 + p.made.getD 7 0 = _
  rw [made_at 6 (by omega), made_at 7 (by omega)]
  show 256 * (p.place / 256 % 256) + p.place % 256 = _
  have h1 := h.over
  have h2 := h.off0
  have : p.place = p.off / 8 + (if p.more then 8192 else 0) := rfl
  split at this <;> omega
theorem made_id {p : Pk} (h : May p) (ho : p.ok) : u16 p.made 4 = p.id := by
  show 256 * p.made.getD 4 0 + p.made.getD 5 0 = _
  rw [made_at 4 (by omega), made_at 5 (by omega)]
  show 256 * (p.id / 256 % 256) + p.id % 256 = _
  have h1 := h.id
  have h2 := ho.id
  omega
theorem made_take {p : Pk} (h : May p) : p.made.take 20 = p.hdr := by
  unfold Pk.made
  exact List.take_left' (hdr_len h)
theorem made_src {p : Pk} (h : May p) : part p.made 12 4 = p.src.bytes := by
  have h1 := bytes4_len h.sf h.sr
  show (p.made.drop 12).take 4 = _
  unfold Pk.made Pk.hdr
  rw [List.append_assoc, List.append_assoc, List.drop_left' (by simp [Pk.front])]
  exact List.take_left' h1
theorem made_dst {p : Pk} (h : May p) : part p.made 16 4 = p.dst.bytes := by
  have h1 := bytes4_len h.sf h.sr
  have h2 := bytes4_len h.df h.dr
  show (p.made.drop 16).take 4 = _
  unfold Pk.made Pk.hdr
  rw [List.append_assoc, List.drop_left' (by simp [Pk.front, h1])]
  exact List.take_left' h2
theorem made_data {p : Pk} (h : May p) : part p.made 20 (20 + p.data.length - 20) = p.data := by
  show (p.made.drop 20).take (20 + (p.data.length : Int) - 20).toNat = _
  unfold Pk.made
  rw [List.drop_left' (hdr_len h), show (20 + (p.data.length : Int) - 20).toNat = p.data.length by omega]
  exact List.take_length
theorem made_mr {p : Pk} (h : May p) : mr p.made = p.more := by
  unfold mr
  rw [made_pl h]
  have h1 := h.over
  have h2 := h.off0
  unfold Pk.place
  cases p.more
  · simp only [Bool.false_eq_true, if_false, decide_eq_false_iff_not]; omega
  · simp only [if_true, decide_eq_true_eq]; omega
theorem made_ofs {p : Pk} (h : May p) : ofs p.made = p.off := by
  unfold ofs
  rw [made_pl h]
  have h1 := h.over
  have h2 := h.off0
  have h3 := h.off8
  unfold Pk.place
  cases p.more
  · simp only [Bool.false_eq_true, if_false]; omega
  · simp only [if_true]; omega
theorem made_flag {p : Pk} (h : May p) : p.place / 32768 % 2 = 0 := by
  have h1 := h.over
  have h2 := h.off0
  unfold Pk.place
  cases p.more
  · simp only [Bool.false_eq_true, if_false]; omega
  · simp only [if_true]; omega
theorem made_reads {p : Pk} (h : May p) : perr p.made = 0 := by
  have hl := made_len h
  have e1 := made_hd p
  have e2 := made_sz h
  refine perr_zero.2 ⟨by omega, ?_, by omega, by omega, by omega, by omega, ?_, ?_, by rw [made_pl h]; exact made_flag h, ?_, ?_, ?_⟩
  · rw [made_at 0 (by omega)]
    rfl
  · rw [e1, show (20 : Int).toNat = 20 from rfl, made_take h]
    exact hdr_sum h
  · rw [made_at 8 (by omega)]
    show p.hop ≠ 0
    have := h.hop
    omega
  · rw [e1, show (20 : Int).toNat = 20 from rfl, made_take h, List.drop_of_length_le (by rw [hdr_len h]; exact Nat.le_refl _)]
    rfl
  · rw [made_mr h, e1, e2]
    intro hm
    have := h.mult hm
    omega
  · rw [made_ofs h, e1, e2]
    have := h.over
    omega
/-- Of a packet that is bare: a fragment is what has More or a place. -/
def Pk.isBare (p : Pk) : Prop := p.frag = false → p.id = 0 ∧ p.off = 0 ∧ p.more = false
theorem bare_isBare (p : Pk) : p.bare.isBare := by
  unfold Pk.bare
  split
  · next h => intro h'; rw [h] at h'; cases h'
  · exact fun _ => ⟨rfl, rfl, rfl⟩
theorem made_fr {p : Pk} (h : May p) (hb : p.isBare) : fr p.made = p.frag := by
  unfold fr
  rw [made_mr h, made_ofs h]
  cases hf : p.frag
  · obtain ⟨_, h1, h2⟩ := hb hf
    simp [h1, h2]
  · rcases h.kind hf with h1 | h1 <;> simp [h1]
theorem made_pkt {p : Pk} (h : May p) (ho : p.ok) (hb : p.isBare) : pkt p.made = p := by
  unfold pkt
  rw [made_src h, made_dst h, from_bytes ho.src h.sr, from_bytes ho.dst h.dr, made_fr h hb, made_id h ho, made_ofs h, made_mr h, made_hd, made_sz h, made_data h, made_at 9 (by omega), made_at 8 (by omega)]
  have e : (if p.frag = true then p.id else 0) = p.id := by
    cases hf : p.frag
    · rw [(hb hf).1]; rfl
    · rfl
  rw [e]
  have := h.fam
  obtain ⟨f, s, d, pr, ho', fg, i, of, mo, da⟩ := p
  simp only at this
  subst this
  rfl

/-- No beginning of a packet is a packet. -/
theorem made_cut {p : Pk} (h : May p) (cut : Nat) (hc : cut < p.made.length) : perr (p.made.take cut) ≠ 0 := by
  intro h0
  obtain ⟨h1, h2, h3, h4, h5, h6, _⟩ := perr_zero.1 h0
  rw [List.length_take] at h1 h6
  have al : Alike (p.made.take cut) p.made := fun i hi => getD_take _ _ _ (by omega)
  rw [alike_sz al, made_sz h] at h6
  rw [made_len h] at hc h6
  omega

/-- A byte of the header that was turned is found, but the header's length. -/
theorem made_turned {p : Pk} (h : May p) (hd' : M.Bytes p.data) (i : Nat) (z : Int) (hi : i < 20) (hz : 0 ≤ z ∧ z ≤ 255) (hne : z ≠ p.made.getD i 0) (h0 : i = 0 → z / 16 ≠ 4) : perr (p.made.set i z) ≠ 0 := by
  intro hr
  have hb := made_bytes h hd'
  obtain ⟨h1, h2, h3, h4, h5, h6, h7, _⟩ := perr_zero.1 hr
  have hl := made_len h
  by_cases hi0 : i = 0
  · subst hi0
    refine h0 rfl ?_
    have e : (p.made.set 0 z).getD 0 0 = z := by
      simp only [List.getD_eq_getElem?_getD, List.getElem?_set_self (show 0 < p.made.length by omega), Option.getD_some]
    rw [e] at h2
    exact h2
  · have e1 : hd (p.made.set i z) = 20 := by
      unfold hd
      rw [M.getD_set_ne _ _ _ _ hi0, made_at 0 (by omega)]
      rfl
    rw [e1, show (20 : Int).toNat = 20 from rfl, List.take_set, made_take h] at h7
    have hh : p.made.getD i 0 = p.hdr.getD i 0 := by
      unfold Pk.made
      exact getD_left _ _ _ (by rw [hdr_len h]; exact hi)
    rw [hh] at hne
    have hbh := (hdr_bytes h).get i
    exact M.turned p.hdr i z (hdr_raw h).1 (by rw [hdr_len h]; exact hi) hz hbh hne h7
end Go.Proofs.Ytgdpcomcndidcaa
