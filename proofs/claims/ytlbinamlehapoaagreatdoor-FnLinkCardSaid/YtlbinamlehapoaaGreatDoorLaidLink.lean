/-
  The library's variable and the program's errors that the row of the law of links lists: what a world that holds them gives, and a world that holds them.
-/
import Derived.Test.YtlbinamlehapoaaGreatDoorCards
import Derived.Test.YtlbinamlehapoaaGreatDoorTie
import Derived.Test.YtlbinamlehapoaaGreatDoorMX
import Derived.Test.YtlbinamlehapoaaGreatDoorNB
import Derived.Test.YtlbinamlehapoaaGreatDoorNJ
import Derived.ProofKit
import Derived.OpenShut
import Derived.ShutString
import Derived.Deep.DeepHandedRow
import Derived.LaidLaws
import Derived.LaidHandle
import Derived.Stop.Joined
import Derived.Stop.LaidErr
import Derived.Stop.LaidTwo
import Derived.RowKitTokens
namespace Go.Proofs.YtlbinamlehapoaaGreatDoor
open Go.ChangeShapes Go.WideShapes Go.ChangeAt Go.RowKit

set_option maxRecDepth 100000

theorem own : ownKnob Tryz.prog.godebug = none := by kernel_rfl
theorem gErr : Tryz.prog.globalNamed "errors.errorType" = some 5 := by kernel_rfl
theorem rtErr : (Tryz.prog.cutTypes.find? (·.1 == "internal/reflectlite.rtype")).map (·.2) = some 137 := by kernel_rfl
theorem rowErr : ((List.range 231).filter fun t => Tryz.prog.rowNamed t [101, 114, 114, 111, 114]) = [63] := by kernel_rfl
theorem sizeTypes : Tryz.prog.types.size = 231 := by kernel_rfl
theorem et_of {W : World} (h' : handlesMet Tryz.prog [("errors.errorType", Rows.laid_errors_errorType)] W) : ET W := by
  obtain ⟨name, u, ty, e1, e2, e3, e4, e5⟩ := h' _ (List.mem_singleton.2 rfl)
  have en : name = [101, 114, 114, 111, 114] := (Option.some.inj e1).symm
  subst en
  obtain rfl := Option.some.inj (rtErr.symm.trans e2)
  have hm : ty ∈ (List.range 231).filter fun t => Tryz.prog.rowNamed t [101, 114, 114, 111, 114] := List.mem_filter.2 ⟨List.mem_range.2 (by rw [← sizeTypes]; exact e3), e4⟩
  rw [rowErr] at hm
  obtain rfl := List.mem_singleton.1 hm
  have hh : typeHandle Tryz.prog 63 = .pointer (some ⟨6, 63, none⟩) := by kernel_rfl
  rw [hh] at e5
  unfold ET
  simpa using World.var?_cell gErr e5 0
theorem gNL : Tryz.prog.globalNamed "loop.example/g00303/impl.errNoLink" = some 0 := by kernel_rfl
theorem gNM : Tryz.prog.globalNamed "loop.example/g00303/impl.errNoMsg" = some 1 := by kernel_rfl
theorem gNP : Tryz.prog.globalNamed "loop.example/g00303/impl.errNoPack" = some 3 := by kernel_rfl
theorem gNR : Tryz.prog.globalNamed "loop.example/g00303/impl.errNoRoom" = some 2 := by kernel_rfl
theorem gNT : Tryz.prog.globalNamed "loop.example/g00303/impl.errTwice" = some 4 := by kernel_rfl
theorem tNL : (Tryz.prog.globals[0]?).map (·.type) = some 63 := by kernel_rfl
theorem tNM : (Tryz.prog.globals[1]?).map (·.type) = some 63 := by kernel_rfl
theorem tNP : (Tryz.prog.globals[3]?).map (·.type) = some 63 := by kernel_rfl
theorem tNR : (Tryz.prog.globals[2]?).map (·.type) = some 63 := by kernel_rfl
theorem tNT : (Tryz.prog.globals[4]?).map (·.type) = some 63 := by kernel_rfl
theorem cellsES : Tryz.prog.cellsOf 219 = 1 := by kernel_rfl
theorem cellsStr : Tryz.prog.cellsOf 9 = 1 := by kernel_rfl
theorem starES : "*" ++ "errors.errorString" = "*errors.errorString" := by decide
theorem rowES (u : TypeId) (h : Tryz.prog.typeName? 3 u = some "*errors.errorString") : u = 201 :=
  typeName_ptr_named (nm := "errors.errorString") (by rw [starES]; kernel_rfl) (by kernel_rfl) (by decide) u (by rw [starES]; exact h)

/-- A list of such variables without its second one. -/
theorem laidMet_drop {P : Program} {x y : String × DataW Unit} {r : List (String × DataW Unit)} {w : World} (h : laidMet P (x :: y :: r) w) : laidMet P (x :: r) w := by
  obtain ⟨ps, hv, hnd, hrows⟩ := h
  obtain ⟨n, d⟩ := x
  obtain ⟨n', d'⟩ := y
  obtain ⟨g, t, cs, fuel, p, q, h1, h2, h3, h4, ⟨g', t', cs', fuel', p', q', _, _, _, _, hq, rfl⟩, rfl⟩ := hv
  refine ⟨MemPlace.row ⟨g, 0, none⟩ cs.size ++ p ++ q', ⟨g, t, cs, fuel, p, q', h1, h2, h3, h4, hq, rfl⟩, ?_, ?_⟩
  · exact List.Nodup.sublist (List.Sublist.append (List.Sublist.refl _) (List.sublist_append_right _ _)) hnd
  · intro b off hm
    refine hrows b off ?_
    rcases List.mem_append.1 hm with h | h
    · exact List.mem_append_left _ h
    · exact List.mem_append_right _ (List.mem_append_right _ h)
theorem errV_inj {W : World} {n : String} {a b : Addr} (h : W.var? Tryz.prog n = some #[errV a]) (h' : W.var? Tryz.prog n = some #[errV b]) : a = b := by
  have := h.symm.trans h'
  simp at this
  exact this
theorem link_laid {W : World} (h : laidMetH Tryz.prog Rows.fnLinkRow.laid W) : ∃ a0 a1 a2 a3 a4, EG a0 a1 a2 W ∧ EGT a0 a2 a3 a4 W ∧ ET W ∧ W.var? Tryz.prog "loop.example/g00303/impl.errNoLink" = some #[errV a0] ∧ W.var? Tryz.prog "loop.example/g00303/impl.errNoMsg" = some #[errV a1] ∧ W.var? Tryz.prog "loop.example/g00303/impl.errNoRoom" = some #[errV a2] ∧ W.var? Tryz.prog "loop.example/g00303/impl.errNoPack" = some #[errV a3] ∧ W.var? Tryz.prog "loop.example/g00303/impl.errTwice" = some #[errV a4] := by
  have h' : laidMet Tryz.prog [("loop.example/g00303/impl.errNoLink", Rows.laid_loop_example_g00303_impl_errNoLink), ("loop.example/g00303/impl.errNoMsg", Rows.laid_loop_example_g00303_impl_errNoMsg), ("loop.example/g00303/impl.errNoPack", Rows.laid_loop_example_g00303_impl_errNoPack), ("loop.example/g00303/impl.errNoRoom", Rows.laid_loop_example_g00303_impl_errNoRoom), ("loop.example/g00303/impl.errTwice", Rows.laid_loop_example_g00303_impl_errTwice)] W ∧ handlesMet Tryz.prog [("errors.errorType", Rows.laid_errors_errorType)] W := h
  obtain ⟨x01, y01, _, _, c01, d01, t01, u01, hx01, hy01, _, _, _, _, _, _, hn01, hb01, hc01⟩ := laid_sentinels2 (h'.1) gNL tNL gNM tNM Tryz.underlying63 rowES Tryz.underlying201 Tryz.underlying219 rfl rfl Tryz.underlying9 cellsES cellsStr
  obtain ⟨x02, y02, _, _, c02, d02, t02, u02, hx02, hy02, _, _, _, _, _, _, hn02, hb02, hc02⟩ := laid_sentinels2 (laidMet_drop (h'.1)) gNL tNL gNP tNP Tryz.underlying63 rowES Tryz.underlying201 Tryz.underlying219 rfl rfl Tryz.underlying9 cellsES cellsStr
  obtain ⟨x03, y03, _, _, c03, d03, t03, u03, hx03, hy03, _, _, _, _, _, _, hn03, hb03, hc03⟩ := laid_sentinels2 (laidMet_drop (laidMet_drop (h'.1))) gNL tNL gNR tNR Tryz.underlying63 rowES Tryz.underlying201 Tryz.underlying219 rfl rfl Tryz.underlying9 cellsES cellsStr
  obtain ⟨x04, y04, _, _, c04, d04, t04, u04, hx04, hy04, _, _, _, _, _, _, hn04, hb04, hc04⟩ := laid_sentinels2 (laidMet_drop (laidMet_drop (laidMet_drop (h'.1)))) gNL tNL gNT tNT Tryz.underlying63 rowES Tryz.underlying201 Tryz.underlying219 rfl rfl Tryz.underlying9 cellsES cellsStr
  obtain ⟨x13, y13, _, _, c13, d13, t13, u13, hx13, hy13, _, _, _, _, _, _, hn13, hb13, hc13⟩ := laid_sentinels2 (laidMet_drop (laidMet.tail (h'.1))) gNM tNM gNR tNR Tryz.underlying63 rowES Tryz.underlying201 Tryz.underlying219 rfl rfl Tryz.underlying9 cellsES cellsStr
  obtain ⟨x23, y23, _, _, c23, d23, t23, u23, hx23, hy23, _, _, _, _, _, _, hn23, hb23, hc23⟩ := laid_sentinels2 (laidMet.tail (laidMet.tail (h'.1))) gNP tNP gNR tNR Tryz.underlying63 rowES Tryz.underlying201 Tryz.underlying219 rfl rfl Tryz.underlying9 cellsES cellsStr
  obtain ⟨x24, y24, _, _, c24, d24, t24, u24, hx24, hy24, _, _, _, _, _, _, hn24, hb24, hc24⟩ := laid_sentinels2 (laidMet_drop (laidMet.tail (laidMet.tail (h'.1)))) gNP tNP gNT tNT Tryz.underlying63 rowES Tryz.underlying201 Tryz.underlying219 rfl rfl Tryz.underlying9 cellsES cellsStr
  obtain ⟨x34, y34, _, _, c34, d34, t34, u34, hx34, hy34, _, _, _, _, _, _, hn34, hb34, hc34⟩ := laid_sentinels2 (laidMet.tail (laidMet.tail (laidMet.tail (h'.1)))) gNR tNR gNT tNT Tryz.underlying63 rowES Tryz.underlying201 Tryz.underlying219 rfl rfl Tryz.underlying9 cellsES cellsStr
  have e_x02 : x02 = x01 := errV_inj hx02 hx01
  have e_x03 : x03 = x01 := errV_inj hx03 hx01
  have e_x04 : x04 = x01 := errV_inj hx04 hx01
  have e_x13 : x13 = y01 := errV_inj hx13 hy01
  have e_y13 : y13 = y03 := errV_inj hy13 hy03
  have e_x23 : x23 = y02 := errV_inj hx23 hy02
  have e_y23 : y23 = y03 := errV_inj hy23 hy03
  have e_x24 : x24 = y02 := errV_inj hx24 hy02
  have e_y24 : y24 = y04 := errV_inj hy24 hy04
  have e_x34 : x34 = y03 := errV_inj hx34 hy03
  have e_y34 : y34 = y04 := errV_inj hy34 hy04
  rw [e_x02] at hn02
  rw [e_x03] at hn03
  rw [e_x04] at hn04
  rw [e_x13, e_y13] at hn13
  rw [e_x23, e_y23] at hn23
  rw [e_x24, e_y24] at hn24
  rw [e_x34, e_y34] at hn34
  exact ⟨x01, y01, y03, y02, y04, ⟨by simpa using World.var?_cell gNL hx01 0, by simpa using World.var?_cell gNM hy01 0, by simpa using World.var?_cell gNR hy03 0, ⟨c01, t01, hb01⟩, ⟨d01, u01, hc01⟩, ⟨d03, u03, hc03⟩, ⟨hn01, hn03, hn13⟩⟩, ⟨by simpa using World.var?_cell gNL hx01 0, by simpa using World.var?_cell gNR hy03 0, by simpa using World.var?_cell gNP hy02 0, by simpa using World.var?_cell gNT hy04 0, ⟨c01, t01, hb01⟩, ⟨d03, u03, hc03⟩, ⟨d02, u02, hc02⟩, ⟨d04, u04, hc04⟩, ⟨hn03, hn02, hn04, Ne.symm hn23, hn34, hn24⟩⟩, et_of h'.2, hx01, hy01, hy03, hy02, hy04⟩
/-- A variable holds behind a call what it held. -/
theorem var_below {W W' : World} {n : String} {cs : Array Value} (h : W.var? Tryz.prog n = some cs) (hb : Below W.heap.size W W') : W'.var? Tryz.prog n = some cs := by
  unfold World.var? at h ⊢
  cases hg : Tryz.prog.globalNamed n with
  | none => simp [hg] at h
  | some g =>
    simp only [hg, Option.bind_some] at h ⊢
    have hlt : g < W.heap.size := by
      rcases Nat.lt_or_ge g W.heap.size with h' | h'
      · exact h'
      · simp [Array.getElem?_eq_none h'] at h
    rw [hb.block g hlt]
    exact h
theorem vars5 {H : Type} (enc : TypeId × Value → H) {W : World} {a0 a1 a2 a3 a4 : Addr} (h0 : W.var? Tryz.prog "loop.example/g00303/impl.errNoLink" = some #[errV a0]) (h1 : W.var? Tryz.prog "loop.example/g00303/impl.errNoMsg" = some #[errV a1]) (h2 : W.var? Tryz.prog "loop.example/g00303/impl.errNoRoom" = some #[errV a2]) (h3 : W.var? Tryz.prog "loop.example/g00303/impl.errNoPack" = some #[errV a3]) (h4 : W.var? Tryz.prog "loop.example/g00303/impl.errTwice" = some #[errV a4]) (sp : Nat → Bool) :
    DataW.TrodVars enc Tryz.prog W sp ["loop.example/g00303/impl.errNoLink", "loop.example/g00303/impl.errNoMsg", "loop.example/g00303/impl.errNoRoom", "loop.example/g00303/impl.errNoPack", "loop.example/g00303/impl.errTwice"] [tok enc (errV a0), tok enc (errV a1), tok enc (errV a2), tok enc (errV a3), tok enc (errV a4)] [.cell 0 0, .cell 1 0, .cell 2 0, .cell 3 0, .cell 4 0] :=
  ⟨_, 63, #[errV a0], 1, [], _, gNL, tNL, h0, trod_held (v := errV a0) Tryz.underlying63 trivial 0, ⟨_, 63, #[errV a1], 1, [], _, gNM, tNM, h1, trod_held (v := errV a1) Tryz.underlying63 trivial 0, ⟨_, 63, #[errV a2], 1, [], _, gNR, tNR, h2, trod_held (v := errV a2) Tryz.underlying63 trivial 0, vars_read2 enc gNP tNP Tryz.underlying63 h3 trivial gNT tNT Tryz.underlying63 h4 trivial sp, rfl⟩, rfl⟩, rfl⟩

noncomputable def lowS : Nat := (World.holding Tryz.prog default ⟨#[], #[], []⟩).heap.size
/-- A world that holds them: for the witness. -/
noncomputable def laidWorldS (os : Os) : World :=
  let w0 := World.holding Tryz.prog os ⟨#[.cells #[.string ⟨#[116, 104, 101, 32, 108, 105, 110, 107, 32, 105, 115, 32, 110, 111, 116, 32, 114, 105, 103, 104, 116]⟩] 219, .cells #[.string ⟨#[116, 104, 101, 32, 109, 101, 115, 115, 97, 103, 101, 32, 105, 115, 32, 110, 111, 110, 101, 32, 111, 102, 32, 116, 104, 105, 115, 32, 110, 111, 100, 101, 32, 116, 111, 32, 97, 110, 111, 116, 104, 101, 114, 32, 111, 110, 101]⟩] 219, .cells #[.string ⟨#[116, 104, 101, 32, 112, 97, 99, 107, 32, 104, 97, 115, 32, 110, 111, 32, 109, 101, 115, 115, 97, 103, 101, 32, 111, 102, 32, 97, 110, 111, 116, 104, 101, 114, 32, 110, 111, 100, 101, 32, 116, 111, 32, 116, 104, 105, 115, 32, 111, 110, 101]⟩] 219, .cells #[.string ⟨#[116, 104, 101, 114, 101, 32, 105, 115, 32, 110, 111, 32, 114, 111, 111, 109, 32, 102, 111, 114, 32, 111, 110, 101, 32, 109, 111, 114, 101, 44, 32, 111, 114, 32, 110, 111, 32, 110, 117, 109, 98, 101, 114]⟩] 219, .cells #[.string ⟨#[116, 104, 101, 32, 109, 101, 115, 115, 97, 103, 101, 32, 119, 97, 115, 32, 116, 97, 107, 101, 110, 32, 98, 101, 102, 111, 114, 101]⟩] 219], #[], []⟩
  { w0 with heap := (((((w0.heap.modify 0 fun
      | .cells _ t frozen => .cells #[errV ⟨lowS, 0, none⟩] t frozen
      | o => o).modify 1 fun
      | .cells _ t frozen => .cells #[errV ⟨lowS + 1, 0, none⟩] t frozen
      | o => o).modify 3 fun
      | .cells _ t frozen => .cells #[errV ⟨lowS + 2, 0, none⟩] t frozen
      | o => o).modify 2 fun
      | .cells _ t frozen => .cells #[errV ⟨lowS + 3, 0, none⟩] t frozen
      | o => o).modify 4 fun
      | .cells _ t frozen => .cells #[errV ⟨lowS + 4, 0, none⟩] t frozen
      | o => o).modify 5 fun
      | .cells _ t frozen => .cells #[.iface 137 (.agg #[.pointer (some ⟨6, 63, none⟩)])] t frozen
      | o => o }
end Go.Proofs.YtlbinamlehapoaaGreatDoor
