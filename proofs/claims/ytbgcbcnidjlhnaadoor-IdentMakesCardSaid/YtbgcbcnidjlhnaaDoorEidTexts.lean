/- The statement EidTexts: its walk. -/
import Derived.Test.YtbgcbcnidjlhnaaDoorAlive04
import Derived.Test.YtbgcbcnidjlhnaaDoorZm2
import Derived.Test.YtbgcbcnidjlhnaaDoorEidEq
import Derived.Deep.CutBlock
namespace Go.Proofs.YtbgcbcnidjlhnaaDoor.Eid
open Go.RowKit Wd
theorem text_size (x : Nm) (hx : x.ok) (h : right x = true) : (textOf x).size ≤ 2100 := by
  unfold textOf
  by_cases h0 : kd x = 0
  · rw [if_pos h0]; decide
  · by_cases h1 : kd x = 1
    · rw [if_neg h0, if_pos h1]
      have := dec_size x.node hx.n0 hx.n1
      have := dec_size x.service hx.s0 hx.s1
      simp only [ByteArray.size_append]
      show 4 + (dec x.node).size + 1 + (dec x.service).size ≤ 2100
      omega
    · rw [if_neg h0, if_neg h1]
      obtain ⟨k1, k2⟩ := right_texts x h h0 h1
      simp only [ByteArray.size_append, path_size]
      show 4 + (2 + x.host.size + 1 + x.demux.size) ≤ 2100
      omega
theorem blank_size (t : ByteArray) : (t ++ (⟨#[32]⟩ : ByteArray)).size = t.size + 1 := by
  rw [ByteArray.size_append]
  rfl
end Go.Proofs.YtbgcbcnidjlhnaaDoor.Eid
