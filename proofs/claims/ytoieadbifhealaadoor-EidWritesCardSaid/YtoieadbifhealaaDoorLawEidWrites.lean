/- The statement EidWrites: for every input the law returns true, and each argument reads afterwards as it read before. No condition. -/
import Derived.Test.YtoieadbifhealaaDoorRows
import Derived.Test.YtoieadbifhealaaDoorCards
import Derived.Test.YtoieadbifhealaaDoorTie
import Derived.Test.YtoieadbifhealaaDoorFrameEid
import Derived.Test.YtoieadbifhealaaDoorLaid04
import Derived.Test.YtoieadbifhealaaDoorEidWrites
import Derived.ChangeMaps
import Derived.SevenTiedAt
namespace Go.Proofs.YtoieadbifhealaaDoor.lawEidWrites
open Go.ChangeShapes Go.WideShapes Go.ChangeAt Go.RowKit
set_option linter.unusedVariables false

theorem own : ownKnob Tryd.prog.godebug = none := by kernel_rfl
theorem laidOut : laidOutB Tryd.prog = true := by kernel_rfl

set_option maxRecDepth 100000 in
theorem lifted (os : Os) (started : os.Started) (H : Type) (enc : TypeId × Value → H) :
    ReturnsInHanded {} Tryd.checked os 7 .any (fun w args => (Rows.eidWritesSpec.pre enc Tryd.prog Tryd.f7 [] false w args ∧ laidMetH Tryd.prog Laid04.laid w) ∧ sizedMet enc Tryd.prog Tryd.f7 (OpenSpec.ofChange Rows.eidWritesSpec) false w args)
      (Rows.eidWritesSpec.post enc Tryd.prog Tryd.f7 false true false false) := by
  refine Laid04.wrap (C := Tryd.checked) (X := fun w _ => laidMetH Tryd.prog Laid04.laid w) (fun _ _ _ hh h => h.of_heap hh) own started (by kernel_rfl) Tryd.func7
    (ChangeSpec.witness_at (enc := enc) (C := Tryd.checked) (os := os) (X := fun w _ => laidMetH Tryd.prog Laid04.laid w) false (Laid04.laidWorld os) #[.agg #[.bool false, .int .u64 0, .int .u64 0, .string ⟨#[]⟩, .string ⟨#[]⟩], .agg #[.bool false, .int .u64 0, .int .u64 0, .string ⟨#[]⟩, .string ⟨#[]⟩]] 8 (World.laidAll_os _ _ _) (by kernel_rfl) (by kernel_rfl) (by kernel_rfl) (by kernel_rfl) (by kernel_rfl) (Laid04.met os _)) ?_
  intro W base args ds gs before hval0 hW hL hsh
  have hval : ∀ (j : Nat) t v, Tryd.f7.params[j]? = some t → args[j]? = some v → Value.okWide Tryd.prog W .any base t v := hval0
  have hW' := hW
  obtain ⟨p, q, hA0, hV, rfl, hfz, hnd⟩ := hW
  have hA : DataW.TrodAll enc Tryd.prog W 0 (fun _ => true) true Tryd.f7.params.toList args.toList ds p := hA0
  rw [Tryd.params7] at hA hval
  obtain ⟨v0, vs0, d0, ds0, p0, q0, hargs, rfl, rfl, h0, r0⟩ := trodAll_cons hA
  obtain ⟨v1, vs1, d1, ds1, p1, q1, rfl, rfl, rfl, h1, r1⟩ := trodAll_cons r0
  obtain ⟨rfl, rfl, rfl⟩ := trodAll_nil r1
  obtain rfl : args = #[v0, v1] := by cases args; simp_all
  obtain ⟨rfl, rfl⟩ := trodVars_none hV
  have k0 := h0
  have lt0 : ∀ x ∈ p0, x.block < W.heap.size := by obtain ⟨m, hm⟩ := k0; exact DataW.trod_lt m _ _ _ hm
  have k1 := h1
  have lt1 : ∀ x ∈ p1, x.block < W.heap.size := by obtain ⟨m, hm⟩ := k1; exact DataW.trod_lt m _ _ _ hm
  obtain ⟨x0, rfl, o0⟩ := Fr.open_eid Tryd.underlying51 (by kernel_rfl) (by kernel_rfl) rfl rfl rfl rfl rfl Tryd.underlying4 Tryd.underlying22 Tryd.underlying9 (hval 0 _ v0 rfl rfl) h0
  obtain ⟨x1, rfl, o1⟩ := Fr.open_eid Tryd.underlying51 (by kernel_rfl) (by kernel_rfl) rfl rfl rfl rfl rfl Tryd.underlying4 Tryd.underlying22 Tryd.underlying9 (hval 1 _ v1 rfl rfl) h1
  have hT := Laid04.tabs hL hsh
  clear hA0 hval0
  refine (EidWrites.walk x0 x1 W o0 o1 hT).mono fun e W' ⟨he, bel⟩ => ?_
  subst he
  exact ⟨_, rfl, _, _, _, [], _, [], hW', trodAll_mk1 (shut_bool Tryd.underlying4 _), (trodAll_cons_mk (Below.trod laidOut (by kernel_rfl) (of_decide_eq_true (by kernel_rfl)) k0 bel lt0) (trodAll_cons_mk (Below.trod laidOut (by kernel_rfl) (of_decide_eq_true (by kernel_rfl)) k1 bel lt1) trodAll_mk0)), rfl, bel.frame _, fun h => by cases h⟩

theorem over : Rows.eidWritesRow.holds Tryd.pinned (OpenSpec.ofChange Rows.eidWritesSpec) :=
  OpenClaim.holds_of_wide 7 Tryd.f7 rfl rfl rfl rfl rfl rfl rfl ⟨rfl, rfl, rfl, rfl, rfl⟩ rfl rfl rfl rfl rfl (by kernel_rfl) Tryd.func7 (by kernel_rfl)
    (of_decide_eq_true (by kernel_rfl)) (by unfold Func.isWrapper; first | (rw [if_pos (by decide +kernel)]; kernel_rfl) | (rw [if_neg (by decide +kernel)]; exact ⟨rfl, rfl⟩))
    (fun os started H enc _ => lifted os started H enc)

theorem proved : Rows.EidWritesCardSaid :=
  Claim7.holds_tied_plain_at .later [] [.data, .data, .data, .sentinel, .sentinel] true (true, "1f4e87ac245f51944605dcdbffe13bf8ddccddbc3692e48ce2ff1d7ad2cfbc5f") true
    over (fun _ h => by cases h) (by kernel_rfl) (fun _ h => by cases h) eidWrites_row_tie rfl ⟨rfl, rfl⟩ (by kernel_rfl) rfl
    (fun f fn hf hfn => by
      obtain rfl : f = 7 := Option.some.inj ((show Tryd.prog.funcNamed "pigeonloft/pigeonloftlaw04.EidWrites" = some 7 by kernel_rfl).symm.trans hf) |>.symm
      obtain rfl : fn = Tryd.f7 := (Option.some.inj (Tryd.func7.symm.trans hfn)).symm
      refine ⟨by kernel_rfl, fun j t ht => ?_⟩
      rw [Tryd.params7] at ht
      match j, ht with
      | 0, ht =>
        obtain rfl : t = 51 := by simpa using ht.symm
        exact (show Tryd.prog.wantsStandIn 51 = false by kernel_rfl)
      | 1, ht =>
        obtain rfl : t = 51 := by simpa using ht.symm
        exact (show Tryd.prog.wantsStandIn 51 = false by kernel_rfl)
      | k + 2, ht => simp at ht)
    (by kernel_rfl)
#print axioms proved
end Go.Proofs.YtoieadbifhealaaDoor.lawEidWrites
