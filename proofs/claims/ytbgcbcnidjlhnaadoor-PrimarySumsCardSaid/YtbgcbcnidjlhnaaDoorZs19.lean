/- Texts of my own, laid together: PrimT, PrimSq. -/
import Derived.Test.YtbgcbcnidjlhnaaDoorPrimQ
import Derived.Test.YtbgcbcnidjlhnaaDoorZs16
import Derived.Test.YtbgcbcnidjlhnaaDoorZs13
import Derived.Test.YtbgcbcnidjlhnaaDoorZs11
/- Bits that are turned within 16 side by side turn the sum of sealed items: plain. -/
namespace Go.Proofs.YtbgcbcnidjlhnaaDoor.SumP

theorem mul_xor (a b k : Nat) : (a ^^^ b) * 2 ^ k = a * 2 ^ k ^^^ b * 2 ^ k := by
  have := Nat.shiftLeft_xor_distrib (a := a) (b := b) (i := k)
  simpa [Nat.shiftLeft_eq] using this
theorem num_append : ∀ (a b : List Nat), num (a ++ b) = num a ^^^ (num b * 2 ^ (8 * a.length))
  | [], b => by simp [num]
  | x :: a, b => by
    show x ^^^ (num (a ++ b) * 256) = _
    have h256 : ∀ t : Nat, t * 256 = t * 2 ^ 8 := fun t => rfl
    rw [num_append a b, h256, mul_xor, ← Nat.xor_assoc]
    show (x ^^^ (num a * 2 ^ 8)) ^^^ (num b * 2 ^ (8 * a.length) * 2 ^ 8) = (x ^^^ (num a * 256)) ^^^ (num b * 2 ^ (8 * (a.length + 1)))
    rw [Nat.mul_assoc, ← Nat.pow_add]
    rfl
theorem xor_last (a b c : Nat) : (a ^^^ b) ^^^ c = (a ^^^ c) ^^^ b := by rw [Nat.xor_assoc, Nat.xor_comm b c, ← Nat.xor_assoc]
theorem num_mid (P M M' S : List Nat) (v : Nat) (hl : M'.length = M.length) (h : num M' = num M ^^^ v) : num (P ++ M' ++ S) = num (P ++ M ++ S) ^^^ v * 2 ^ (8 * P.length) := by
  rw [num_append, num_append, num_append, num_append, h, mul_xor, List.length_append, List.length_append, hl, ← Nat.xor_assoc, xor_last]
/-- Four bytes of a number, the greatest first, taken as a number whose lowest is first. -/
def rev4 (n : Nat) : Nat := num [n / 16777216 % 256, n / 65536 % 256, n / 256 % 256, n % 256]
theorem byte_xor (a b k : Nat) : (a ^^^ b) / 2 ^ k % 256 = (a / 2 ^ k % 256) ^^^ (b / 2 ^ k % 256) := by
  have h1 := Nat.shiftRight_xor_distrib (a := a) (b := b) (i := k)
  simp only [Nat.shiftRight_eq_div_pow] at h1
  rw [h1]
  exact Nat.xor_mod_two_pow (n := 8)
theorem rev4_xor (a b : Nat) : rev4 (a ^^^ b) = rev4 a ^^^ rev4 b := by
  unfold rev4
  rw [← num_xor [a / 16777216 % 256, a / 65536 % 256, a / 256 % 256, a % 256] [b / 16777216 % 256, b / 65536 % 256, b / 256 % 256, b % 256] rfl]
  have h3 := byte_xor a b 24
  have h2 := byte_xor a b 16
  have h1 := byte_xor a b 8
  have h0 := byte_xor a b 0
  simp only [Nat.pow_zero, Nat.div_one] at h0
  simp only [List.zipWith_cons_cons, List.zipWith_nil_left]
  rw [← h0]
  rw [show (16777216 : Nat) = 2 ^ 24 from rfl, show (65536 : Nat) = 2 ^ 16 from rfl, show (256 : Nat) = 2 ^ 8 from rfl] at *
  rw [← h3, ← h2, ← h1]
theorem rev4_bit : ∀ k : Nat, k < 32 → rev4 (2 ^ (8 * (3 - k / 8) + k % 8)) = 2 ^ k := by decide
/-- One more bit is turned. -/
theorem rev4_yes {n m b s i : Nat} (h : rev4 n = rev4 m ^^^ (b % 2 ^ i) * 2 ^ s) (hi : i < 16) (hs : s < 16) (hb : b / 2 ^ i % 2 = 1) :
    rev4 (n ^^^ 2 ^ (8 * (3 - (s + i) / 8) + (s + i) % 8)) = rev4 m ^^^ (b % 2 ^ (i + 1)) * 2 ^ s := by
  have e : b % 2 ^ (i + 1) = b % 2 ^ i ^^^ 2 ^ i := by
    have h1 := split (b % 2 ^ i) 1 i (Nat.mod_lt _ (Nat.two_pow_pos i))
    rw [Nat.one_mul, Nat.mul_one] at h1
    rw [← h1, Nat.pow_succ, Nat.mod_mul, hb, Nat.mul_one]
  rw [rev4_xor, h, rev4_bit _ (by omega), e, mul_xor, ← Nat.pow_add, Nat.add_comm i s, Nat.xor_assoc]
theorem rev4_no {n m b s i : Nat} (h : rev4 n = rev4 m ^^^ (b % 2 ^ i) * 2 ^ s) (hb : b / 2 ^ i % 2 = 0) :
    rev4 n = rev4 m ^^^ (b % 2 ^ (i + 1)) * 2 ^ s := by
  rw [Nat.pow_succ, Nat.mod_mul, hb, Nat.mul_zero, Nat.add_zero]
  exact h
end Go.Proofs.YtbgcbcnidjlhnaaDoor.SumP
namespace Go.Proofs.YtbgcbcnidjlhnaaDoor.Prim
open Go.RowKit Wd Cb Eid EncB SumP

theorem nb_append (a b : List Int) : SumW.nb (a ++ b) = SumW.nb a ++ SumW.nb b := by simp [SumW.nb]
theorem nb_length (a : List Int) : (SumW.nb a).length = a.length := by simp [SumW.nb]
theorem nb_be (n : Nat) : num (SumW.nb (HeadP.be n 4)) = rev4 n := by
  unfold rev4
  congr 1
  simp only [HeadP.be, SumW.nb, List.map_cons, List.map_nil]
  have e3 : ((n : Int) / 2 ^ (8 * 3) % 256).toNat = n / 16777216 % 256 := by omega
  have e2 : ((n : Int) / 2 ^ (8 * 2) % 256).toNat = n / 65536 % 256 := by omega
  have e1 : ((n : Int) / 2 ^ (8 * 1) % 256).toNat = n / 256 % 256 := by omega
  have e0 : ((n : Int) / 2 ^ (8 * 0) % 256).toNat = n % 256 := by omega
  rw [e3, e2, e1, e0]
theorem nb_byte {xs : List Int} (h : St.bts xs) : ∀ x ∈ SumW.nb xs, x < 256 := by
  intro x hx
  unfold SumW.nb at hx
  rw [List.mem_map] at hx
  obtain ⟨y, hy, rfl⟩ := hx
  have := h y hy
  omega
/-- Two texts that are unlike in four bytes, by a burst, have unlike sums. -/
theorem sums_differ (k : Nat) (P S : List Int) (n m v s : Nat) (hP : St.bts (P ++ HeadP.be n 4 ++ S)) (hQ : St.bts (P ++ HeadP.be m 4 ++ S)) (hk : k = 1 ∨ k = 2) (hv : rev4 m = rev4 n ^^^ v * 2 ^ s) (h0 : v ≠ 0) (h1 : v < 65536) (hs : s < 16) :
    sumOf k (P ++ HeadP.be n 4 ++ S) ≠ sumOf k (P ++ HeadP.be m 4 ++ S) := by
  have hl : (SumW.nb (P ++ HeadP.be m 4 ++ S)).length = (SumW.nb (P ++ HeadP.be n 4 ++ S)).length := by
    rw [nb_length, nb_length, List.length_append, List.length_append, List.length_append, List.length_append, HeadP.be_length, HeadP.be_length]
  have hn : num (SumW.nb (P ++ HeadP.be m 4 ++ S)) = num (SumW.nb (P ++ HeadP.be n 4 ++ S)) ^^^ v * 2 ^ (s + 8 * P.length) := by
    rw [nb_append, nb_append, nb_append, nb_append, num_mid (SumW.nb P) (SumW.nb (HeadP.be n 4)) (SumW.nb (HeadP.be m 4)) (SumW.nb S) (v * 2 ^ s) (by rw [nb_length, nb_length, HeadP.be_length, HeadP.be_length]) (by rw [nb_be, nb_be]; exact hv), nb_length, Nat.mul_assoc, ← Nat.pow_add]
  have hi : s + 8 * P.length ≤ 8 * (SumW.nb (P ++ HeadP.be n 4 ++ S)).length := by
    rw [nb_length, List.length_append, List.length_append, HeadP.be_length]
    omega
  have b1 := nb_byte hP
  have b2 := nb_byte hQ
  generalize hM : SumW.nb (P ++ HeadP.be m 4 ++ S) = M at *
  generalize hN : SumW.nb (P ++ HeadP.be n 4 ++ S) = N at *
  rcases hk with rfl | rfl
  · have hd := burst PS 16 (by decide) (by decide) N M 65535 v _ hl hn hi (by omega) h0
    have c1 := crc_lt PS 16 (by decide) (by decide) N 65535 b1 (by decide)
    have c2 := crc_lt PS 16 (by decide) (by decide) M 65535 b2 (by decide)
    unfold sumOf short
    rw [if_pos rfl, if_pos rfl, hN, hM]
    show 65535 - crc PS 65535 N ≠ 65535 - crc PS 65535 M
    omega
  · have hd := burst PL 32 (by decide) (by decide) N M 4294967295 v _ hl hn hi (by omega) h0
    have c1 := crc_lt PL 32 (by decide) (by decide) N 4294967295 b1 (by decide)
    have c2 := crc_lt PL 32 (by decide) (by decide) M 4294967295 b2 (by decide)
    unfold sumOf long
    rw [if_neg (by decide), if_neg (by decide), hN, hM]
    show 4294967295 - crc PL 4294967295 N ≠ 4294967295 - crc PL 4294967295 M
    omega
theorem be_inj {k : Nat} {n m : Nat} (hn : n < 2 ^ (8 * k)) (hm : m < 2 ^ (8 * k)) (h : HeadP.be (n : Int) k = HeadP.be (m : Int) k) : n = m := by
  have h1 := HeadP.join_be k (n : Int) (by omega)
  have h2 := HeadP.join_be k (m : Int) (by omega)
  rw [h, h2] at h1
  have e1 : ((m : Int) % 2 ^ (8 * k)) = m := Int.emod_eq_of_lt (by omega) (by exact_mod_cast hm)
  have e2 : ((n : Int) % 2 ^ (8 * k)) = n := Int.emod_eq_of_lt (by omega) (by exact_mod_cast hn)
  rw [e1, e2] at h1
  omega
theorem sumOf_lt (k : Nat) (hk : k = 1 ∨ k = 2) (xs : List Int) : sumOf k xs < 2 ^ (8 * (2 * k)) := by
  rcases hk with rfl | rfl
  · unfold sumOf short
    rw [if_pos rfl]
    show 65535 - _ < 65536
    omega
  · unfold sumOf long
    rw [if_neg (by decide)]
    show 4294967295 - _ < 4294967296
    omega
/-- Of sealed items with other bytes at the end another sum is told. -/
theorem open_other {l : List Itm} {a : Int} {c : List Int} (h : sealE l a = 0) (h0 : 0 < typAt l a) (hc : c.length = 2 * (typAt l a).toNat) (hne : c ≠ sumB (typAt l a).toNat (enc (blank l (typAt l a).toNat))) :
    openE (withB l c) a = 10 := by
  obtain ⟨⟨ha0, ha1⟩, h2, h3⟩ := sealE_zero h
  have hz : (typAt l a).toNat ≠ 0 := by omega
  have hI : sealI l a = sealed l (typAt l a).toNat := by unfold sealI; rw [if_pos h]
  have hty : typAt (withB l c).sub a = typAt l a := typAt_more _ _ _ ha1
  have hcut : (withB l c).sub.take (cutN (withB l c) (typAt l a).toNat) = l := by
    unfold cutN
    rw [if_neg hz]
    simp [Itm.sub]
  have hlast : lastOk (withB l c) (typAt l a).toNat = true := by
    unfold lastOk
    simp [Itm.kind, Itm.bs, Itm.sub, hc]
  have hr : Cb.right (withB l c) = true := by
    rw [right_with l c (sumB (typAt l a).toNat (enc (blank l (typAt l a).toNat)))]
    have := right_sealed l (typAt l a).toNat
    unfold sealed at this
    rw [if_neg hz] at this
    rw [this, h3]
  have hs : same (sealed l (typAt l a).toNat) (withB l c) = false := by
    cases hsm : same (sealed l (typAt l a).toNat) (withB l c)
    · rfl
    · have := (same_iff _ _).1 hsm
      unfold sealed at this
      rw [if_neg hz] at this
      simp at this
      exact absurd this.symm hne
  unfold openE
  rw [hty, hlast, hr, hcut, hI, hs]
  simp [h2]
theorem head5 (n : Int) (h0 : 65536 ≤ n) (h1 : n < 4294967296) : enc (iN n) = 26 :: HeadP.be n 4 := by
  have hl : HeadP.lowN n = 26 := by unfold HeadP.lowN; rw [if_neg (by omega), if_neg (by omega), if_neg (by omega), if_pos h1]
  show HeadP.bytes 0 n false ++ [] ++ [] = _
  unfold HeadP.bytes
  rw [show HeadP.low n false = 26 from hl]
  rfl
mutual
theorem sane_of_nm (x : Nm) (hx : x.ok) : sane (itemOf x) := by
  unfold itemOf
  split
  · exact ⟨by omega, fun _ h => (by cases h), ⟨by omega, fun _ h => (by cases h), trivial⟩, ⟨by omega, fun _ h => (by cases h), trivial⟩, trivial⟩
  · split
    · exact ⟨by omega, fun _ h => (by cases h), ⟨by omega, fun _ h => (by cases h), trivial⟩, ⟨by omega, fun _ h => (by cases h), ⟨⟨hx.n0, hx.n1⟩, fun _ h => (by cases h), trivial⟩, ⟨⟨hx.s0, hx.s1⟩, fun _ h => (by cases h), trivial⟩, trivial⟩, trivial⟩
    · exact ⟨by omega, fun _ h => (by cases h), ⟨by omega, fun _ h => (by cases h), trivial⟩, ⟨by omega, CbCopy.nums_bts _, trivial⟩, trivial⟩
end
theorem sane_num (n : Int) (h0 : 0 ≤ n) (h1 : n ≤ 18446744073709551615) : sane (iN n) := ⟨⟨h0, h1⟩, fun _ h => (by cases h), trivial⟩
/-- The blank of a block: what stands ahead of the Life, and behind it. -/
theorem blank_parts (p : Prm) (k : Nat) (hk : k = 1 ∨ k = 2) (h0 : 65536 ≤ p.life) (h1 : p.life < 4294967296) : enc (blank (pitems p) k) =
    (HeadP.bytes 4 9 false ++ encs [iN 7, iN p.flags, iN p.sum, itemOf p.dest, itemOf p.id.src, itemOf p.report, iL (iN p.id.time) (iN p.id.seq)] ++ [26]) ++ HeadP.be p.life 4 ++ enc (.mk 2 0 (zeros (2 * k)) []) := by
  have hz : k ≠ 0 := by omega
  unfold blank
  rw [if_neg hz, enc_sub]
  show HeadP.bytes 4 (cn (withB (pitems p) (zeros (2 * k)))) false ++ [] ++ encs (pitems p ++ [.mk 2 0 (zeros (2 * k)) []]) = _
  rw [show cn (withB (pitems p) (zeros (2 * k))) = 9 from rfl, encs_append]
  rw [show pitems p = [iN 7, iN p.flags, iN p.sum, itemOf p.dest, itemOf p.id.src, itemOf p.report, iL (iN p.id.time) (iN p.id.seq)] ++ [iN p.life] from rfl, encs_append]
  rw [show encs [iN p.life] = enc (iN p.life) ++ [] from rfl, head5 _ h0 h1]
  rw [show encs [Itm.mk 2 0 (zeros (2 * k)) []] = enc (.mk 2 0 (zeros (2 * k)) []) ++ [] from rfl]
  simp only [List.append_nil, List.append_assoc, List.cons_append, List.nil_append]
theorem blank_bts {p : Prm} (hp : p.ok) (h : pright p = true) (k : Nat) (hk : k = 1 ∨ k = 2) : St.bts (enc (blank (pitems p) k)) := by
  obtain ⟨f, s, d, e⟩ := pitems_small h
  have hz : k ≠ 0 := by omega
  have hzb : St.bts (zeros (2 * k)) := fun x hx => by
    unfold zeros at hx
    have := List.eq_of_mem_replicate hx
    omega
  have hzl : (zeros (2 * k)).length = 2 * k := by simp [zeros]
  refine EncB.enc_bts _ ?_ ?_ ?_
  · unfold blank
    rw [if_neg hz]
    simp [fine, fines, fines_append, f, kindFit, Itm.kind, Itm.num, Itm.bs, Itm.sub]
  · unfold blank
    rw [if_neg hz]
    refine ⟨by omega, fun _ h => (by cases h), ?_⟩
    exact ⟨sane_num _ (by omega) (by omega), sane_num _ hp.f0 hp.f1, sane_num _ (by have := (pright_all h).2.1; omega) (by have := (pright_all h).2.1; omega), sane_of_nm _ hp.d, sane_of_nm _ hp.i.s, sane_of_nm _ hp.r, ⟨by omega, fun _ h => (by cases h), sane_num _ hp.i.t0 hp.i.t1, sane_num _ hp.i.q0 hp.i.q1, trivial⟩, sane_num _ hp.l0 hp.l1, ⟨by omega, hzb, trivial⟩, trivial⟩
  · unfold blank
    rw [if_neg hz, enc_sub]
    have a1 := Great.bytes_le 4 (cn (withB (pitems p) (zeros (2 * k)))) false
    have a2 := Great.bytes_le 2 (cn (.mk 2 0 (zeros (2 * k)) [])) false
    simp only [Itm.kind, Itm.bs, Itm.sub, encs_append, encs, enc, List.length_append, List.length_nil, hzl]
    omega
/-- A Life whose bits are turned is told. -/
theorem turned {p : Prm} (hp : p.ok) (h : pright p = true) (hk : p.sum = 1 ∨ p.sum = 2) (m n v s : Nat) (hm : p.life = m) (h1 : 65536 ≤ m) (h2 : m < 4294967296) (h3 : 65536 ≤ n) (h4 : n < 4294967296)
    (hv : rev4 n = rev4 m ^^^ v * 2 ^ s) (v0 : v ≠ 0) (v1 : v < 65536) (hs : s < 16) :
    prE (withB (pitems { p with life := n }) (sumB p.sum.toNat (enc (blank (pitems p) p.sum.toNat)))) = 10 := by
  have hk' : p.sum.toNat = 1 ∨ p.sum.toNat = 2 := by omega
  have hq : ({ p with life := (n : Int) } : Prm).ok := ⟨hp.f0, hp.f1, hp.s0, hp.s1, hp.d, hp.r, hp.i, by show (0 : Int) ≤ n; omega, by show (n : Int) ≤ _; omega⟩
  have hr : pright ({ p with life := (n : Int) } : Prm) = true := by
    obtain ⟨a1, a2, a3, a4, a5, a6⟩ := pright_all h
    unfold pright
    simp only [Bool.and_eq_true, decide_eq_true_eq]
    exact ⟨a1, a2.1, a2.2, a3, a4, a5, by omega⟩
  have hty := ptyp hr
  have e1 := blank_parts p p.sum.toNat hk' (by omega) (by omega)
  have e2 := blank_parts { p with life := (n : Int) } p.sum.toNat hk' (by show (65536 : Int) ≤ n; omega) (by show (n : Int) < _; omega)
  have b1 := blank_bts hp h p.sum.toNat hk'
  have b2 := blank_bts hq hr p.sum.toNat hk'
  have ho : openE (withB (pitems { p with life := n }) (sumB p.sum.toNat (enc (blank (pitems p) p.sum.toNat)))) 2 = 10 := by
    refine open_other (pseal hr).1 (by rw [hty]; show 0 < p.sum; omega) (by rw [hty]; exact sumB_length _ _) ?_
    rw [hty]
    show sumB p.sum.toNat _ ≠ sumB p.sum.toNat _
    intro he
    unfold sumB at he
    have he' := be_inj (sumOf_lt _ hk' _) (sumOf_lt _ hk' _) he
    rw [e1, e2] at he'
    rw [e1] at b1
    rw [e2] at b2
    rw [hm] at he' b1
    exact sums_differ p.sum.toNat _ _ m n v s b1 b2 hk' hv v0 v1 hs he'
  unfold prE
  rw [ho, if_neg (by decide)]
end Go.Proofs.YtbgcbcnidjlhnaaDoor.Prim
/- The statement PrimarySums: what it needs, plain. -/
namespace Go.Proofs.YtbgcbcnidjlhnaaDoor.Prim
open Go.RowKit Wd Cb Eid EncB CbCopy CbList CbRight CbWrite CbLays CbSame

theorem typAt_head (q : Nat) (hq : q < 3) (l : List Itm) : typAt (iN q :: l) 0 = q := by
  have h := typAt_in (iN q :: l) 0 (by simp)
  rw [show ((0 : Nat) : Int) = 0 from rfl] at h
  rw [h]
  exact typ_iN (by omega)
/-- Another first byte of the sum is told. -/
theorem sums_turned {q : Nat} (hq : q = 1 ∨ q = 2) {l : List Itm} (h : sealE (iN q :: l) 0 = 0) : ∃ (b0 : Int) (t : List Int), sealI (iN q :: l) 0 = withB (iN q :: l) (b0 :: t) ∧ (b0 :: t).length = 2 * q ∧ (∀ c, c ≠ b0 → openE (withB (iN q :: l) (c :: t)) 0 = 10) := by
  have ht := typAt_head q (by omega) l
  have hI : sealI (iN q :: l) 0 = sealed (iN q :: l) q := by unfold sealI; rw [if_pos h, ht, Int.toNat_natCast]
  have hlen := sumB_length q (enc (blank (iN q :: l) q))
  have hz : q ≠ 0 := by omega
  have hsI : sealI (iN q :: l) 0 = withB (iN q :: l) (sumB q (enc (blank (iN q :: l) q))) := by rw [hI]; unfold sealed; rw [if_neg hz]
  cases hs : sumB q (enc (blank (iN q :: l) q)) with
  | nil =>
    rw [hs] at hlen
    simp at hlen
    omega
  | cons b0 t =>
    rw [hs] at hlen hsI
    refine ⟨b0, t, hsI, hlen, fun c hc => ?_⟩
    refine open_other h (by omega) (by rw [ht, Int.toNat_natCast]; exact hlen) ?_
    rw [ht, Int.toNat_natCast, hs]
    intro he
    injection he with h1 _
    exact hc h1
theorem sealE_head (q : Nat) (l : List Itm) : sealE (iN q :: l) 0 = 0 ∨ sealE (iN q :: l) 0 = 3 := by
  unfold sealE
  rw [if_neg (by simp)]
  (repeat' split) <;> simp
/-- A byte with another one that is odd, xor'ed, is another one. -/
theorem turn_byte (b by_ : Int) (h0 : 0 ≤ b) (h1 : b ≤ 255) (h2 : 0 ≤ by_) (h3 : by_ ≤ 255) : bits .xor .u8 b (bits .or .u8 by_ 1) ≠ b ∧ 0 ≤ bits .xor .u8 b (bits .or .u8 by_ 1) ∧ bits .xor .u8 b (bits .or .u8 by_ 1) ≤ 255 := by
  obtain ⟨x, rfl⟩ := Int.eq_ofNat_of_zero_le h0
  obtain ⟨y, rfl⟩ := Int.eq_ofNat_of_zero_le h2
  have hy : y ||| 1 < 256 := Nat.or_lt_two_pow (n := 8) (by omega) (by omega)
  rw [show (1 : Int) = ((1 : Nat) : Int) from rfl, u8_or_nat y 1 (by omega) (by omega), u8_xor_nat x (y ||| 1) (by omega) hy]
  have hx : x ^^^ (y ||| 1) < 256 := Nat.xor_lt_two_pow (n := 8) (by omega) hy
  refine ⟨fun h => ?_, by omega, by omega⟩
  have h' : x ^^^ (y ||| 1) = x := by omega
  have h4 := congrArg (fun z => x ^^^ z) h'
  simp only [← Nat.xor_assoc, Nat.xor_self, Nat.zero_xor] at h4
  have h5 := congrArg (fun z => z.testBit 0) h4
  simp at h5
/-- A row whose last item's first byte is another one. -/
theorem row_turned {w : World} {g m gB : Nat} {l : List Itm} {vs' spare : List Value} {A' : Option Addr} {cs : Array Value} {b0 c : Int} {t : List Int}
    (hk : Blk w g 30 (vs' ++ [Value.int .i64 2, .int .u64 0, .slice (some ⟨gB, 0, none⟩) (t.length + 1) (t.length + 1), .slice A' 0 0] ++ spare).toArray) (hl : Lays w (g + 1) m l vs') (hm : m ≤ gB) (hgB : gB < w.heap.size)
    (hb : Blk w gB 5 cs) (hcs : t.length + 1 ≤ cs.size) (hc : ∀ j, j < t.length + 1 → cs[j]? = (u8s (b0 :: t))[j]?) (hbt : St.bts (c :: t)) (hml : t.length + 1 ≤ 1000) :
    Row (w.setCell ⟨gB, 0, none⟩ (.int .u8 c)) g (g + 1) w.heap.size (l ++ [.mk 2 0 (c :: t) []]) := by
  have hgm := hl.le
  have far : ∀ i, i ≠ gB → (w.setCell ⟨gB, 0, none⟩ (.int .u8 c)).heap[i]? = w.heap[i]? := fun i h => Below.heap_setCell _ _ _ _ h
  refine ⟨_, spare, (far g (by omega)).trans hk, (hl.keep fun i h1 h2 => far i (by omega)).snoc (lo2 := gB) hm (by omega) ⟨some ⟨gB, 0, none⟩, A', rfl, ⟨by show (-9223372036854775808 : Int) ≤ 2; omega, by show (2 : Int) ≤ _; omega⟩, ⟨Int.le_refl 0, by show (0 : Int) ≤ _; omega⟩, hbt, by show t.length + 1 ≤ maxLen; unfold maxLen; omega, .inr ⟨gB, _, rfl, Nat.le_refl _, hgB, hb.set_ 0 (.int .u8 c), by rw [Array.size_setIfInBounds]; exact hcs, fun j hj => ?_⟩, by show 0 ≤ maxLen; omega, ItemsV.nil⟩⟩
  cases j with
  | zero => rw [Array.getElem?_setIfInBounds_self_of_lt (by omega)]; rfl
  | succ j =>
    rw [Array.getElem?_setIfInBounds_ne (by omega), hc (j + 1) hj]
    rfl
theorem run_append_none' {P : Program} {w : World} (t ty e : TypeId) (i : TypeInfo) (ht : P.underlying t = some (.slice e)) (hi : P.info? e = some i) (b : Addr) (n : Nat) (A : Option Addr) (c : Nat) (hsp : b.spot = none) (olds : List Value) (ho : ∃ g cs t', b = ⟨g, 0, none⟩ ∧ w.heap[g]? = some (.cells cs t' (0, 0))) :
    (Builtin.append_ #[t, t] ty #[.slice (some b) n n, .slice A 0 c]).run P w = .ok (.slice (some b) n n) w := by
  cases A <;> simp [Builtin.append_, run_underlying ht, sizeOf, typeInfo, hi, Builtin.lenOf, Builtin.firstCells, loadCells, loadCellsFrom, storeCells]
theorem wpList_append_none {P : Program} {w : World} {ops : Array Oper} {rest : List Oper} {o : Oper} {a : Act} {Q : Exit → Act → World → Prop} (hgd : o.guard = none) (s x : Operand) (t : TypeId)
    (ho : o.op = .call { callee := .builtin .append, args := #[s, x], argTypes := #[t, t] }) (e : TypeId) (i : TypeInfo) (ht : P.underlying t = some (.slice e)) (hi : P.info? e = some i)
    (b : Addr) (n : Nat) (A : Option Addr) (c : Nat) (hsp : b.spot = none) (hb : ∃ g cs t', b = ⟨g, 0, none⟩ ∧ w.heap[g]? = some (.cells cs t' (0, 0))) (hs : a.eval s = .slice (some b) n n) (hx : a.eval x = .slice A 0 c)
    (h : wpList P ops Q rest (a.put o.dst (.slice (some b) n n)) w) : wpList P ops Q (o :: rest) a w :=
  wpList_plain hgd fun K hK => by
    have hrun := run_append_none' (P := P) (w := w) t o.type e i ht hi b n A c hsp [] hb
    unfold Oper.wp execOp
    simp only [ho, resolve, invoke, builtin, Sem.run_bind, Sem.run_pure, Result.andThen_ok, List.map_toArray, List.map_cons, List.map_nil, hs, hx, hrun]
    exact hK _ _ h
theorem wpList_append_clip {P : Program} (w : World) {ops : Array Oper} {rest : List Oper} {o : Oper} {a : Act} {Q : Exit → Act → World → Prop} (hgd : o.guard = none) (s x : Operand) (t : TypeId)
    (ho : o.op = .call { callee := .builtin .append, args := #[s, x], argTypes := #[t, t] })
    (e : TypeId) (i : TypeInfo) (z : Value) (bytes : Nat) (ht : P.underlying t = some (.slice e)) (hi : P.info? e = some i) (hz : i.zero = some z)
    (size : Nat) (hsize : i.size = size) (hby : i.bytes = bytes)
    (lo up : Nat) (B : Option Addr) (n : Nat) (olds : List Value) (hs : a.eval s = .slice B n n) (hn : 0 < olds.length) (hlo : olds.length = n * size) (hol : Cb.Seg w lo up B olds)
    (lo' up' : Nat) (A : Option Addr) (m c : Nat) (news : List Value) (hx : a.eval x = .slice A m c) (hm0 : 0 < news.length) (hm : news.length = m * size) (hr : Cb.Seg w lo' up' A news)
    (h63 : n + m ≤ maxLen) (hbytes : (n + m) * bytes ≤ 140737488355328)
    (h : ∀ c' spare, n + m ≤ c' → c' ≤ maxLen → wpList P ops Q rest (a.put o.dst (.slice (some ⟨w.heap.size, 0, none⟩) (n + m) c')) (w.drew.alloc (.cells (olds ++ news ++ spare).toArray e))) : wpList P ops Q (o :: rest) a w :=
  wpList_plain hgd fun K hK => wp_append_clip w s x t ho e i z bytes ht hi hz size hsize hby lo up B n olds hs hn hlo hol lo' up' A m c news hx hm0 hm hr h63 hbytes fun c' sp h1 h2 => hK _ _ (h c' sp h1 h2)
end Go.Proofs.YtbgcbcnidjlhnaaDoor.Prim
