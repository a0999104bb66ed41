/- Texts joined: AtO -/
import Derived.Test.YtjdapofjlbifjaaDoorTpa25
namespace Go.Proofs.YtjdapofjlbifjaaDoor
open Go.RowKit Go.Sort
set_option linter.unusedVariables false
set_option linter.unusedSimpArgs false
theorem text_len2 {a : Ad} (ho : a.ok) : a.text.length ≤ 1000 := by
  unfold Ad.text
  split
  · next hr =>
    have hl := bytes_len a
    rw [if_pos hr] at hl
    have hb : M.Bytes a.bytes := by unfold Ad.bytes; rw [if_pos hr]; exact bytesGo_bytes _ _ _
    split
    · next hf =>
      rw [if_pos hf] at hl
      have := join_dot (words4 a.bytes) (fun x hx => by
        obtain ⟨y, hy, rfl⟩ := List.mem_map.1 hx
        exact dec_le y (hb y hy).1 (hb y hy).2)
      have e : (words4 a.bytes).length = 4 := by simp [words4, hl]
      unfold text4
      omega
    · next hf =>
      rw [if_neg hf] at hl
      have e : (words a.bytes).length = 8 := by simp [words]
      have hw := words_le a.bytes
      unfold text6
      split
      · have := join_le (words a.bytes) hw
        unfold joinW
        omega
      · have h1 := join_le ((words a.bytes).take (lz (words a.bytes)).1) (fun x hx => hw x (List.mem_of_mem_take hx))
        have h2 := join_le ((words a.bytes).drop ((lz (words a.bytes)).1 + (lz (words a.bytes)).2)) (fun x hx => hw x (List.mem_of_mem_drop hx))
        have h3 : ((words a.bytes).take (lz (words a.bytes)).1).length ≤ 8 := by rw [List.length_take]; omega
        have h4 : ((words a.bytes).drop ((lz (words a.bytes)).1 + (lz (words a.bytes)).2)).length ≤ 8 := by rw [List.length_drop]; omega
        unfold joinW
        simp only [List.length_append, List.length_cons, List.length_nil]
        omega
  · simp
theorem add_lists2 (x y : List UInt8) (hx : x.length ≤ 100000) (hy : y.length ≤ 100000) (w : World) : (Op.stringOp .add (ByteArray.mk x.toArray) (ByteArray.mk y.toArray)).run Tryd.prog w = .ok (.string (ByteArray.mk (x ++ y).toArray)) w :=
  run_string_add_lists w x y (by omega) (by omega)
end Go.Proofs.YtjdapofjlbifjaaDoor
