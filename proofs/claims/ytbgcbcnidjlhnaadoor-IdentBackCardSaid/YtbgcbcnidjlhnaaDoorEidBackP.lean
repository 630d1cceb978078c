/- Names there and back, plain: a name that may be is the only one of its text; no such text has a blank. -/
import Derived.Test.YtbgcbcnidjlhnaaDoorParse
import Derived.Test.YtbgcbcnidjlhnaaDoorEidL
namespace Go.Proofs.YtbgcbcnidjlhnaaDoor.Eid
open Go.RowKit Wd EidL

theorem kd_cases (x : Nm) : kd x = 0 ∨ kd x = 1 ∨ kd x = 2 := by
  unfold kd
  split
  · exact .inr (.inl rfl)
  · split
    · exact .inl rfl
    · exact .inr (.inr rfl)
theorem nil_eq {b : ByteArray} (h : b.toList = []) : b = ⟨#[]⟩ := toList_inj (by rw [h, Lib.toList_data])
theorem kd_zero_eq (x : Nm) (h : kd x = 0) : x = zeroNm := by
  obtain ⟨i, n, s, a, b⟩ := x
  unfold kd at h
  cases i
  · simp only [Bool.false_eq_true, if_false] at h
    by_cases hz : n = 0 ∧ s = 0 ∧ a.toList = [] ∧ b.toList = []
    · obtain ⟨rfl, rfl, h1, h2⟩ := hz
      rw [nil_eq h1, nil_eq h2]
    · rw [if_neg hz] at h; cases h
  · cases h
theorem right_one (x : Nm) (hr : right x = true) (h : kd x = 1) : x = ⟨true, x.node, x.service, ⟨#[]⟩, ⟨#[]⟩⟩ ∧ 1 ≤ x.node ∧ x.node ≤ 4294967295 ∧ x.service ≤ 4294967295 := by
  obtain ⟨i, n, s, a, b⟩ := x
  cases i
  · unfold kd at h
    simp only [Bool.false_eq_true, if_false] at h
    split at h <;> cases h
  · unfold right at hr
    simp only [if_true, Bool.and_eq_true, List.isEmpty_iff, rn, decide_eq_true_eq] at hr
    obtain ⟨⟨h1, h2⟩, ⟨h3, h4⟩, h5⟩ := hr
    exact ⟨by rw [nil_eq h1, nil_eq h2], h3, h4, h5⟩
theorem right_two (x : Nm) (hr : right x = true) (h : kd x = 2) : x = ⟨false, 0, 0, x.host, x.demux⟩ ∧ x.host.toList ≠ [] ∧ mk x.host 16 ⟨#[45]⟩ = true ∧ mk x.demux 24 ⟨#[45, 47]⟩ = true := by
  obtain ⟨i, n, s, a, b⟩ := x
  cases i
  · unfold kd at h
    unfold right at hr
    simp only [Bool.false_eq_true, if_false] at h hr
    by_cases hz : n = 0 ∧ s = 0 ∧ a.toList = [] ∧ b.toList = []
    · rw [if_pos hz] at h; cases h
    · rw [if_neg hz] at hr
      simp only [Bool.and_eq_true, rt, decide_eq_true_eq, Bool.not_eq_true', List.isEmpty_eq_false_iff] at hr
      obtain ⟨⟨rfl, rfl⟩, ⟨h1, h2⟩, h3⟩ := hr
      exact ⟨rfl, h1, h2, h3⟩
  · cases h
theorem mk_all {s : ByteArray} {m : Int} {more : ByteArray} (h : mk s m more = true) : ∀ c ∈ s.data.toList, okc more c.toNat = true := by
  unfold mk at h
  simp only [Bool.and_eq_true, List.all_eq_true] at h
  exact h.2
theorem ok_host {c : UInt8} (h : okc ⟨#[45]⟩ c.toNat = true) : c ≠ 47 ∧ c ≠ 32 :=
  ⟨by rintro rfl; exact absurd h (by decide), by rintro rfl; exact absurd h (by decide)⟩
theorem ok_demux {c : UInt8} (h : okc ⟨#[45, 47]⟩ c.toNat = true) : c ≠ 32 := by rintro rfl; exact absurd h (by decide)

theorem dlist (a b : ByteArray) : (a ++ b).data.toList = a.data.toList ++ b.data.toList := by
  rw [ByteArray.data_append]
  simp
theorem dec_list (n : Int) : (dec n).data.toList = Lib.decDigits n.toNat := by unfold dec; rfl
theorem text_one (n s : Int) (h d : ByteArray) : (textOf ⟨true, n, s, h, d⟩).data.toList = [105, 112, 110, 58] ++ (Lib.decDigits n.toNat ++ 46 :: Lib.decDigits s.toNat) := by
  unfold textOf
  rw [show kd ⟨true, n, s, h, d⟩ = 1 from rfl, if_neg (by decide), if_pos rfl]
  simp only [dlist, dec_list, List.append_assoc]
  rfl
theorem path_list (h d : ByteArray) : (pathOf h d).data.toList = [47, 47] ++ (h.data.toList ++ 47 :: d.data.toList) := by
  unfold pathOf
  simp only [dlist, List.append_assoc]
  rfl
theorem text_two (x : Nm) (h : kd x = 2) : (textOf x).data.toList = [100, 116, 110, 58] ++ ([47, 47] ++ (x.host.data.toList ++ 47 :: x.demux.data.toList)) := by
  unfold textOf
  rw [if_neg (by rw [h]; decide), if_neg (by rw [h]; decide), dlist, path_list]
theorem dg_dec (n : Int) (h0 : 0 ≤ n) (h : n ≤ 4294967295) : dg (Lib.decDigits n.toNat) = n := by
  unfold dg
  rw [parse_dec n.toNat (by omega)]
  simp only
  omega
theorem not_dig (u : Nat) (c : UInt8) (h : c.toNat < 48) : c ∉ Lib.decDigits u := fun hm => by
  have := dec_dig u c hm
  omega
theorem gT_path (h d : ByteArray) (hh : (47 : UInt8) ∉ h.data.toList) : gT (pathOf h d).data.toList = ⟨false, 0, 0, h, d⟩ := by
  rw [path_list]
  unfold gT
  rw [prefix_here, if_pos rfl, trim_here, cut_here _ _ _ hh]
/-- A name that may be is what its text is guessed to be. -/
theorem guess_text (x : Nm) (hx : x.ok) (hr : right x = true) : guessOf (textOf x).data.toList = x := by
  rcases kd_cases x with h | h | h
  · obtain rfl := kd_zero_eq x h
    unfold textOf
    rw [h, if_pos rfl]
    rfl
  · obtain ⟨e, h1, h2, h3⟩ := right_one x hr h
    have h4 := hx.n0
    have h5 := hx.s0
    generalize x.node = n at *
    generalize x.service = s at *
    subst e
    rw [text_one]
    unfold guessOf
    rw [prefix_here, if_pos rfl, trim_here, cut_here _ _ _ (not_dig _ _ (by decide))]
    simp only
    rw [dg_dec n h4 h2, dg_dec s h5 h3]
  · obtain ⟨e, h1, h2, h3⟩ := right_two x hr h
    rw [text_two x h]
    unfold guessOf
    rw [show Lib.hasPrefix ([100, 116, 110, 58] ++ ([47, 47] ++ (x.host.data.toList ++ 47 :: x.demux.data.toList))) [105, 112, 110, 58] = false from rfl, if_neg (by decide), prefix_here, if_pos rfl, trim_here]
    have hg := gT_path x.host x.demux (fun hm => (ok_host (mk_all h2 _ hm)).1 rfl)
    rw [path_list] at hg
    rw [hg]
    exact e.symm
theorem isName_text (x : Nm) (hx : x.ok) (hr : right x = true) : isName (textOf x) = true := by
  unfold isName
  rw [guess_text x hx hr, hr]
  simp
theorem parse_text (x : Nm) (hx : x.ok) (hr : right x = true) : parseOf (textOf x) = x ∧ parseE (textOf x) = 0 := by
  unfold parseOf parseE
  rw [isName_text x hx hr, guess_text x hx hr]
  exact ⟨rfl, rfl⟩
theorem text_inj {x y : Nm} (hx : x.ok) (hy : y.ok) (hr : right x = true) (hs : right y = true) (h : textOf x = textOf y) : x = y := by
  rw [← guess_text x hx hr, h, guess_text y hy hs]
theorem text_no32 (x : Nm) (hr : right x = true) : (32 : UInt8) ∉ (textOf x).data.toList := by
  rcases kd_cases x with h | h | h
  · obtain rfl := kd_zero_eq x h
    unfold textOf
    rw [h, if_pos rfl]
    decide
  · obtain ⟨e, -⟩ := right_one x hr h
    rw [e, text_one]
    simp only [List.mem_append, List.mem_cons, not_or]
    exact ⟨by decide, not_dig _ _ (by decide), by decide, not_dig _ _ (by decide)⟩
  · obtain ⟨e, h1, h2, h3⟩ := right_two x hr h
    rw [text_two x h]
    simp only [List.mem_append, List.mem_cons, not_or]
    exact ⟨by decide, by decide, fun hm => (ok_host (mk_all h2 _ hm)).2 rfl, by decide, fun hm => ok_demux (mk_all h3 _ hm) rfl⟩
/-- A text that has a blank is none's. -/
theorem parse_blank (s : ByteArray) (h : (32 : UInt8) ∈ s.data.toList) : parseE s = 3 := by
  have hn : isName s = false := by
    cases hi : isName s
    · rfl
    · unfold isName at hi
      simp only [Bool.and_eq_true, decide_eq_true_eq] at hi
      have := text_no32 _ hi.1
      rw [hi.2] at this
      exact absurd h this
  unfold parseE
  rw [hn]
  rfl
theorem name_text {s : ByteArray} (h : isName s = true) : right (parseOf s) = true ∧ textOf (parseOf s) = s := by
  unfold parseOf
  rw [h, if_pos rfl]
  unfold isName at h
  simp only [Bool.and_eq_true, decide_eq_true_eq] at h
  exact h
end Go.Proofs.YtbgcbcnidjlhnaaDoor.Eid
