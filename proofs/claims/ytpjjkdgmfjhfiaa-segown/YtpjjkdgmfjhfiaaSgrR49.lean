/- Texts joined: SgRw -/
import Derived.Test.YtpjjkdgmfjhfiaaSgrR32
import Derived.Test.YtpjjkdgmfjhfiaaSgrR33
import Derived.Test.YtpjjkdgmfjhfiaaSgrR34
import Derived.Test.YtpjjkdgmfjhfiaaSgrR47
import Derived.Test.YtpjjkdgmfjhfiaaSgrR48
namespace Go.Proofs.Ytpjjkdgmfjhfiaa
open Go.RowKit
set_option linter.unusedVariables false
set_option linter.unusedSimpArgs false
theorem rparse_any (f sf sh sl df dh dl pr ho : Int) (fg : Bool) (id of : Int) (mo : Bool) (xa : Option Addr) (xn xc : Nat) (da : Option Addr) (dc : Nat) (l : List Int) (w : World) (h : Row w da l) (hnil : da = none → dc = 0) (hc : l.length ≤ dc) (hcm : dc ≤ 9223372036854775807) (hll : l.length ≤ 140737488351232) (hs : Ad.ok ⟨sf, sh, sl⟩) (hd : Ad.ok ⟨df, dh, dl⟩) :
    Calls Try.prog 17 #[.agg (sRa f sf sh sl df dh dl pr ho fg id of mo xa xn xc da l.length dc)] w (GotS w (segE f pr ⟨sf, sh, sl⟩ ⟨df, dh, dl⟩ l) (segX f pr ⟨sf, sh, sl⟩ ⟨df, dh, dl⟩ l)) := by
  unfold segX segE
  cases hE : endsB f ⟨sf, sh, sl⟩ ⟨df, dh, dl⟩ with
  | false =>
    rw [if_pos rfl, if_neg (by decide)]
    exact rparse_no f sf sh sl df dh dl pr ho fg id of mo xa xn xc da dc l w h hnil hc hcm hll hs hd hE
  | true =>
  rw [if_neg (by decide)]
  have hf46 := ends46 hE
  by_cases hp : pr = 6
  · rw [if_pos hp, if_pos hp]
    subst hp
    by_cases h20 : l.length < 20
    · have e2 : tcpE f 6 ⟨sf, sh, sl⟩ ⟨df, dh, dl⟩ l = 2 := by unfold tcpE; rw [if_pos h20]
      rw [e2, if_neg (by decide)]
      exact rparse_Et f sf sh sl df dh dl 6 ho fg id of mo xa xn xc da dc l w h hnil hc hcm hll hs hd hE rfl 2 (by decide) (fun W hW => Calls.mono (rtcp_e2 f sf sh sl df dh dl ho fg id of mo xa xn xc da dc l W hW hll hc hcm hs hd h20) (by rintro e w' ⟨a, c, h1, h2⟩; exact ⟨_, a, c, h1, h2.below⟩))
    obtain ⟨bk, off, ee, _⟩ := h.cells (by omega)
    subst ee
    by_cases h0 : tcpE f 6 ⟨sf, sh, sl⟩ ⟨df, dh, dl⟩ l = 0
    · rw [h0, if_pos rfl]
      exact rparse_Yt f sf sh sl df dh dl 6 ho fg id of mo xa xn xc (some ⟨bk, off, none⟩) dc l w h hnil hc hcm hll hs hd hE rfl (by omega) (tcpF l) (u32v l 4) (u32v l 8) (u16v l 14) 0 0 false 0 0 0 0 0 0 0 0 0 0 (l.drop (tcpH l).toNat) (fun W hW => by
        obtain ⟨Y, hY, hz⟩ := rtcp_any f sf sh sl df dh dl ho fg id of mo xa xn xc bk off dc l W hW hll hc hcm hs hd h20
        rw [h0] at hY
        have hz' := hz h0
        subst hz'
        exact hY)
    · rw [if_neg h0]
      exact rparse_Et f sf sh sl df dh dl 6 ho fg id of mo xa xn xc (some ⟨bk, off, none⟩) dc l w h hnil hc hcm hll hs hd hE rfl _ h0 (fun W hW => by
        obtain ⟨Y, hY, _⟩ := rtcp_any f sf sh sl df dh dl ho fg id of mo xa xn xc bk off dc l W hW hll hc hcm hs hd h20
        exact Calls.mono hY (by rintro e w' ⟨a, c, h1, h2⟩; exact ⟨_, a, c, h1, h2.below⟩))

  rw [if_neg hp, if_neg hp]
  have n6 := hp
  clear hp
  by_cases hp : pr = 17
  · rw [if_pos hp, if_pos hp]
    subst hp
    by_cases h20 : l.length < 8
    · have e2 : udpE f 17 ⟨sf, sh, sl⟩ ⟨df, dh, dl⟩ l = 2 := by unfold udpE; rw [if_pos h20]
      rw [e2, if_neg (by decide)]
      exact rparse_Eu f sf sh sl df dh dl 17 ho fg id of mo xa xn xc da dc l w h hnil hc hcm hll hs hd hE rfl 2 (by decide) (fun W hW => Calls.mono (rudp_e2 f sf sh sl df dh dl ho fg id of mo xa xn xc da dc l W hW hll hc hcm hs hd h20) (by rintro e w' ⟨a, c, h1, h2⟩; exact ⟨_, a, c, h1, h2.below⟩))
    obtain ⟨bk, off, ee, _⟩ := h.cells (by omega)
    subst ee
    by_cases h0 : udpE f 17 ⟨sf, sh, sl⟩ ⟨df, dh, dl⟩ l = 0
    · rw [h0, if_pos rfl]
      exact rparse_Yu f sf sh sl df dh dl 17 ho fg id of mo xa xn xc (some ⟨bk, off, none⟩) dc l w h hnil hc hcm hll hs hd hE rfl (by omega) 0 0 0 0 0 0 false 0 0 0 0 0 0 0 0 0 0 ((l.take (u16v l 4).toNat).drop 8) (fun W hW => by
        obtain ⟨Y, hY, hz⟩ := rudp_any f sf sh sl df dh dl ho fg id of mo xa xn xc bk off dc l W hW hll hc hcm hs hd h20
        rw [h0] at hY
        have hz' := hz h0
        subst hz'
        exact hY)
    · rw [if_neg h0]
      exact rparse_Eu f sf sh sl df dh dl 17 ho fg id of mo xa xn xc (some ⟨bk, off, none⟩) dc l w h hnil hc hcm hll hs hd hE rfl _ h0 (fun W hW => by
        obtain ⟨Y, hY, _⟩ := rudp_any f sf sh sl df dh dl ho fg id of mo xa xn xc bk off dc l W hW hll hc hcm hs hd h20
        exact Calls.mono hY (by rintro e w' ⟨a, c, h1, h2⟩; exact ⟨_, a, c, h1, h2.below⟩))

  rw [if_neg hp, if_neg hp]
  have n17 := hp
  clear hp
  by_cases hp : pr = icmpOf f
  case neg =>
    rw [if_neg hp, if_neg (by decide)]
    exact rparse_En f sf sh sl df dh dl pr ho fg id of mo xa xn xc da dc l w h hnil hc hcm hll hs hd hE n6 n17 hp
  rw [if_pos hp]
  have hfp : f = 4 ∧ pr = 1 ∨ f = 6 ∧ pr = 58 := by
    rcases hf46 with hf | hf
    · exact Or.inl ⟨hf, by rw [hp]; unfold icmpOf; rw [hf]; rfl⟩
    · exact Or.inr ⟨hf, by rw [hp]; unfold icmpOf; rw [hf]; rfl⟩
  by_cases h8 : l.length < 8
  · have e2 : icmpE f pr ⟨sf, sh, sl⟩ ⟨df, dh, dl⟩ l = 2 := by unfold icmpE; rw [if_pos h8]
    rw [e2, if_neg (by decide)]
    exact rparse_Ei f sf sh sl df dh dl pr ho fg id of mo xa xn xc da dc l w h hnil hc hcm hll hs hd hE n6 n17 hp 2 (by decide) (fun W hW => Calls.mono (ricmp_e2 f sf sh sl df dh dl ho fg id of mo xa xn xc da dc l W hW hll hc hcm hs hd pr h8) (by rintro e w' ⟨a, c, h1, h2⟩; exact ⟨_, a, c, h1, h2.below⟩))
  obtain ⟨bk, off, ee, _⟩ := h.cells (by omega)
  subst ee
  have hll8 : (l.drop 8).length ≤ 140737488351232 := by rw [List.length_drop]; omega
  cases hsum : sumsB ⟨sf, sh, sl⟩ ⟨df, dh, dl⟩ pr l with
  | false =>
    have e6 : icmpE f pr ⟨sf, sh, sl⟩ ⟨df, dh, dl⟩ l = 6 := by unfold icmpE; rw [if_neg h8, if_pos hsum]
    rw [e6, if_neg (by decide)]
    exact rparse_Ei f sf sh sl df dh dl pr ho fg id of mo xa xn xc _ dc l w h hnil hc hcm hll hs hd hE n6 n17 hp 6 (by decide) (fun W hW => Calls.mono (ricmp_e6 f sf sh sl df dh dl ho fg id of mo xa xn xc bk off dc l W hW hll hc hcm hs hd pr hfp h8 hsum) (by rintro e w' ⟨a, c, h1, h2⟩; exact ⟨_, a, c, h1, h2.below⟩))
  | true =>
    cases her : isErr f (l.getD 0 0) with
    | false =>
      have e0 : icmpE f pr ⟨sf, sh, sl⟩ ⟨df, dh, dl⟩ l = 0 := by unfold icmpE; rw [if_neg h8, if_neg (by rw [hsum]; decide), if_pos her]
      rw [e0, if_pos rfl]
      have ex : icmpX f pr ⟨sf, sh, sl⟩ ⟨df, dh, dl⟩ l = ⟨⟨f, pr, ⟨sf, sh, sl⟩, ⟨df, dh, dl⟩, (portsOf f pr l).1, (portsOf f pr l).2⟩, 0, 0, 0, 0, l.getD 0 0, l.getD 1 0, false, ⟨0, 0, ⟨0, 0, 0⟩, ⟨0, 0, 0⟩, 0, 0⟩, l.drop 8⟩ := by
        unfold icmpX endT
        rw [her]
        rfl
      rw [ex]
      exact rparse_Yi f sf sh sl df dh dl pr ho fg id of mo xa xn xc _ dc l w h hnil hc hcm hll hs hd hE n6 n17 hp (by omega) 0 0 0 0 (l.getD 0 0) (l.getD 1 0) false 0 0 0 0 0 0 0 0 0 0 (l.drop 8) (fun W hW => ricmp_ok0 f sf sh sl df dh dl ho fg id of mo xa xn xc bk off dc l W hW hll hc hcm hs hd pr hfp h8 hsum her)
    | true =>
      cases hin : inner f (l.drop 8) with
      | none =>
        have e4 : icmpE f pr ⟨sf, sh, sl⟩ ⟨df, dh, dl⟩ l = 4 := by unfold icmpE; rw [if_neg h8, if_neg (by rw [hsum]; decide), if_neg (by rw [her]; decide), hin]; rfl
        rw [e4, if_neg (by decide)]
        exact rparse_Ei f sf sh sl df dh dl pr ho fg id of mo xa xn xc _ dc l w h hnil hc hcm hll hs hd hE n6 n17 hp 4 (by decide) (fun W hW => Calls.mono (ricmp_e4 f sf sh sl df dh dl ho fg id of mo xa xn xc bk off dc l W hW hll hc hcm hs hd pr hfp h8 hsum her hin) (by rintro e w' ⟨a, c, h1, h2⟩; exact ⟨_, a, c, h1, h2.below⟩))
      | some T =>
        have e0 : icmpE f pr ⟨sf, sh, sl⟩ ⟨df, dh, dl⟩ l = 0 := by unfold icmpE; rw [if_neg h8, if_neg (by rw [hsum]; decide), if_neg (by rw [her]; decide), hin]; rfl
        rw [e0, if_pos rfl]
        have ex : icmpX f pr ⟨sf, sh, sl⟩ ⟨df, dh, dl⟩ l = ⟨⟨f, pr, ⟨sf, sh, sl⟩, ⟨df, dh, dl⟩, (portsOf f pr l).1, (portsOf f pr l).2⟩, 0, 0, 0, 0, l.getD 0 0, l.getD 1 0, true, T, l.drop 8⟩ := by
          unfold icmpX endT
          rw [her, hin]
          rfl
        rw [ex]
        have hok := fun W hW => ricmp_ok1 f sf sh sl df dh dl ho fg id of mo xa xn xc bk off dc l W hW hll hc hcm hs hd pr hfp h8 hsum her T hin
        obtain ⟨tf, tp, ⟨tsf, tsh, tsl⟩, ⟨tdf, tdh, tdl⟩, tsp, tdp⟩ := T
        exact rparse_Yi f sf sh sl df dh dl pr ho fg id of mo xa xn xc _ dc l w h hnil hc hcm hll hs hd hE n6 n17 hp (by omega) 0 0 0 0 (l.getD 0 0) (l.getD 1 0) true tf tp tsf tsh tsl tdf tdh tdl tsp tdp (l.drop 8) hok
end Go.Proofs.Ytpjjkdgmfjhfiaa
