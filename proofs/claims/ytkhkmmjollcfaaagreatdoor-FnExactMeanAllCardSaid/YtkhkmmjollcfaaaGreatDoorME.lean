/-
  What a program means, in plain words: an evaluator with fuel.
  An expression that came in, opened: it is one in plain words.
  Scopes of the specification's evaluator in memory, and a scope with more names.
  The specification's l03With.
  What stands in a scope is right where it stands; values in memory.
-/
import Derived.Test.YtkhkmmjollcfaaaGreatDoorMD
import Derived.Lib.ItoaNum
import Derived.Test.YtkhkmmjollcfaaaGreatDoorMB
import Derived.Maps.AppendAt
import Derived.Laws.OwnMore
import Derived.Laws.AppendOwnNone
namespace Go.Proofs.YtkhkmmjollcfaaaGreatDoor
open Go.RowKit Go.Joins

set_option maxRecDepth 100000

/-- What stands for a name: an expression with what is in its scope; of a let it is itself the last one there. -/
inductive Clo where
  | mk : Ex → List Clo → Bool → Clo
def Clo.ex : Clo → Ex | .mk e _ _ => e
def Clo.env : Clo → List Clo | .mk _ es _ => es
def Clo.own : Clo → Bool | .mk _ _ r => r
def Clo.scope (c : Clo) : List Clo := if c.own = true then c.env ++ [c] else c.env
/-- What was reckoned. -/
inductive Vl where
  | num : Int → Vl
  | nil : Vl
  | pair : Clo → Clo → Vl
  | fn : Int → Ex → List Clo → Vl
inductive Rs where
  | ok : Vl → Rs
  | err : Int → Rs

def exZ : Ex := .mk 0 0 ByteArray.empty []
def kidN (e : Ex) (i : Nat) : Ex := e.kids.getD i exZ
def arith (t : ByteArray) (a b : Int) : Int :=
  if t.toList = [43] then IntKind.i64.wrap (a + b)
  else if t.toList = [45] then IntKind.i64.wrap (a - b)
  else if t.toList = [42] then IntKind.i64.wrap (a * b)
  else if t.toList = [61, 61] then (if a = b then 1 else 0)
  else (if a < b then 1 else 0)

/-- On with a number, a function, a list; what is none of it is stuck, and what ended stays ended. -/
def onNum (r : Rs × Nat) (k : Int → Nat → Rs × Nat) : Rs × Nat :=
  match r with
  | (.ok (.num n), f) => k n f
  | (.ok _, f) => (.err 2, f)
  | (.err c, f) => (.err c, f)
def onFn (r : Rs × Nat) (k : Int → Ex → List Clo → Nat → Rs × Nat) : Rs × Nat :=
  match r with
  | (.ok (.fn l x en), f) => k l x en f
  | (.ok _, f) => (.err 2, f)
  | (.err c, f) => (.err c, f)
def onList (r : Rs × Nat) (k0 : Nat → Rs × Nat) (k1 : Clo → Clo → Nat → Rs × Nat) : Rs × Nat :=
  match r with
  | (.ok .nil, f) => k0 f
  | (.ok (.pair h t), f) => k1 h t f
  | (.ok _, f) => (.err 2, f)
  | (.err c, f) => (.err c, f)

/-- An expression is reckoned: what it is, and the fuel that is left. -/
def ev (P : List Ex) : Nat → Nat → Ex → List Clo → Rs × Nat
  | 0, f, _, _ => (.err 1, f)
  | b + 1, f, e, env =>
    if f = 0 then (.err 1, 0)
    else if e.kind = 0 then (.ok (.num e.n), f - 1)
    else if e.kind = 1 then (match env[e.n.toNat]? with | some c => ev P b (f - 1) c.ex c.scope | none => (.err 2, f - 1))
    else if e.kind = 2 then ev P b (f - 1) (P.getD e.n.toNat exZ) []
    else if e.kind = 3 then (.ok (.fn e.n (kidN e 0) env), f - 1)
    else if e.kind = 4 then onFn (ev P b (f - 1) (kidN e 0) env) fun l x en f' => if 1 < l then (.ok (.fn (l - 1) x (en ++ [.mk (kidN e 1) env false])), f') else ev P b f' x (en ++ [.mk (kidN e 1) env false])
    else if e.kind = 5 then ev P b (f - 1) (kidN e 1) (env ++ [.mk (kidN e 0) env true])
    else if e.kind = 6 then onNum (ev P b (f - 1) (kidN e 0) env) fun n f' => if n = 0 then ev P b f' (kidN e 2) env else ev P b f' (kidN e 1) env
    else if e.kind = 7 then (.ok .nil, f - 1)
    else if e.kind = 8 then (.ok (.pair (.mk (kidN e 0) env false) (.mk (kidN e 1) env false)), f - 1)
    else if e.kind = 9 then onList (ev P b (f - 1) (kidN e 0) env) (fun f' => ev P b f' (kidN e 1) env) (fun h t f' => ev P b f' (kidN e 2) (env ++ [h, t]))
    else if e.kind = 10 then onNum (ev P b (f - 1) (kidN e 0) env) fun x f' => onNum (ev P b f' (kidN e 1) env) fun y f'' => (.ok (.num (arith e.text x y)), f'')
    else ev P b (f - 1) (kidN e 1) env

/-- What is printed of what stands for a name. -/
def pr (P : List Ex) (B : Nat) : Nat → Nat → Clo → Except Int (List UInt8) × Nat
  | 0, f, _ => (.error 1, f)
  | b + 1, f, c =>
    match ev P B f c.ex c.scope with
    | (.err k, f') => (.error k, f')
    | (.ok (.num n), f') => (.ok (Lib.itoa n), f')
    | (.ok .nil, f') => (.ok [91, 93], f')
    | (.ok (.fn _ _ _), f') => (.ok [102, 117, 110], f')
    | (.ok (.pair h t), f') =>
      match pr P B b f' h with
      | (.error k, f1) => (.error k, f1)
      | (.ok s, f1) =>
        match pr P B b f1 t with
        | (.error k, f2) => (.error k, f2)
        | (.ok s', f2) => (.ok ([40] ++ s ++ [58] ++ s' ++ [41]), f2)

/-- What definition i of a right program means with some fuel: what it prints, and a code. -/
def meanAt (P : List Ex) (i : Nat) (fuel : Nat) : List UInt8 × Int :=
  match pr P fuel (fuel + 1) fuel (.mk (P.getD i exZ) [] false) with
  | (.ok s, _) => (s, 0)
  | (.error k, _) => ([], k)
def meanOf (p : Pr) (fuel : Int) : List UInt8 × Int :=
  if p.ok = true ∧ 0 ≤ lastN p.names ⟨#[109, 97, 105, 110]⟩ p.names.length ∧ 0 ≤ fuel ∧ fuel ≤ 100000 then meanAt p.bodies (lastN p.names ⟨#[109, 97, 105, 110]⟩ p.names.length).toNat fuel.toNat else ([], 3)

theorem ite_le {c : Prop} [Decidable c] {a b : Rs × Nat} {F : Nat} (ha : a.2 ≤ F) (hb : b.2 ≤ F) : (if c then a else b).2 ≤ F := by
  split
  · exact ha
  · exact hb
theorem onNum_le {r : Rs × Nat} {k : Int → Nat → Rs × Nat} {F : Nat} (h : r.2 ≤ F) (hk : ∀ n f, f ≤ F → (k n f).2 ≤ F) : (onNum r k).2 ≤ F := by
  obtain ⟨r, f⟩ := r
  cases r with
  | err c => exact h
  | ok v => cases v <;> first | exact hk _ _ h | exact h
theorem onFn_le {r : Rs × Nat} {k : Int → Ex → List Clo → Nat → Rs × Nat} {F : Nat} (h : r.2 ≤ F) (hk : ∀ l x en f, f ≤ F → (k l x en f).2 ≤ F) : (onFn r k).2 ≤ F := by
  obtain ⟨r, f⟩ := r
  cases r with
  | err c => exact h
  | ok v => cases v <;> first | exact hk _ _ _ _ h | exact h
theorem onList_le {r : Rs × Nat} {k0 : Nat → Rs × Nat} {k1 : Clo → Clo → Nat → Rs × Nat} {F : Nat} (h : r.2 ≤ F) (hk0 : ∀ f, f ≤ F → (k0 f).2 ≤ F) (hk1 : ∀ a b f, f ≤ F → (k1 a b f).2 ≤ F) : (onList r k0 k1).2 ≤ F := by
  obtain ⟨r, f⟩ := r
  cases r with
  | err c => exact h
  | ok v => cases v <;> first | exact hk0 _ h | exact hk1 _ _ _ h | exact h

/-- Fuel only goes. -/
theorem ev_less (P : List Ex) : ∀ (b f : Nat) (e : Ex) (env : List Clo), (ev P b f e env).2 ≤ f
  | 0, f, _, _ => Nat.le_refl _
  | b + 1, f, e, env => by
    have ih : ∀ f' e env, f' ≤ f → (ev P b f' e env).2 ≤ f := fun f' e env h => Nat.le_trans (ev_less P b f' e env) h
    have h7 : f - 1 ≤ f := by omega
    rw [ev]
    refine ite_le (Nat.zero_le _) (ite_le h7 (ite_le ?_ (ite_le (ih _ _ _ h7) (ite_le h7 (ite_le ?_ (ite_le (ih _ _ _ h7) (ite_le ?_ (ite_le h7 (ite_le h7 (ite_le ?_ (ite_le ?_ (ih _ _ _ h7))))))))))))
    · cases env[e.n.toNat]? with
      | none => exact h7
      | some c => exact ih _ _ _ h7
    · exact onFn_le (ih _ _ _ h7) fun l x en f' hf => ite_le hf (ih _ _ _ hf)
    · exact onNum_le (ih _ _ _ h7) fun n f' hf => ite_le (ih _ _ _ hf) (ih _ _ _ hf)
    · exact onList_le (ih _ _ _ h7) (fun f' hf => ih _ _ _ hf) (fun a b f' hf => ih _ _ _ hf)
    · exact onNum_le (ih _ _ _ h7) fun x f' hf => onNum_le (ih _ _ _ hf) fun y f'' hf' => hf'
end Go.Proofs.YtkhkmmjollcfaaaGreatDoor

namespace Go.Proofs.YtkhkmmjollcfaaaGreatDoor
open Go.ChangeShapes Go.WideShapes Go.ChangeAt Go.RowKit Go.Joins

set_option maxRecDepth 100000

instance : Inhabited Ex := ⟨.mk 0 0 ⟨#[]⟩ []⟩
theorem cells_exp : Tryz.prog.cellsOf 54 = 4 := by kernel_rfl

variable {H : Type} {enc : TypeId × Value → H} {w : World} {spare : Nat → Bool} {held : Bool}

/-- The four fields of an expression that is read. -/
theorem open_fields {fuel : Nat} {c0 c1 c2 c3 : Value} {x : DataW H × List MemPlace} (h : DataW.trod enc Tryz.prog w 0 spare held fuel 54 [c0, c1, c2, c3] = some x) :
    ∃ k n t, c0 = .int .i64 k ∧ c1 = .int .i64 n ∧ c2 = .string t ∧ inI64 k ∧ inI64 n ∧ t.size ≤ maxLen ∧ ∃ m y, fuel = m + 1 ∧ DataW.trod enc Tryz.prog w 0 spare held m 23 [c3] = some y := by
  obtain ⟨xs, m, hm, _, _, hlen, hf⟩ := DataW.trod_struct Tryz.underlying54 h
  have hl4 : xs.length = 4 := hlen
  obtain ⟨x0, x1, x2, x3, rfl⟩ : ∃ x0 x1 x2 x3, xs = [x0, x1, x2, x3] := by
    match xs, hl4 with
    | [x0, x1, x2, x3], _ => exact ⟨x0, x1, x2, x3, rfl⟩
  have e1 : Tryz.prog.cellsOf 3 = 1 := by kernel_rfl
  have e2 : Tryz.prog.cellsOf 9 = 1 := by kernel_rfl
  have e3 : Tryz.prog.cellsOf 23 = 1 := by kernel_rfl
  have f0 : DataW.trod enc Tryz.prog w 0 spare held m 3 (([c0, c1, c2, c3].drop 0).take (Tryz.prog.cellsOf 3)) = some x0 := hf 0 _ rfl
  have f1 : DataW.trod enc Tryz.prog w 0 spare held m 3 (([c0, c1, c2, c3].drop 1).take (Tryz.prog.cellsOf 3)) = some x1 := hf 1 _ rfl
  have f2 : DataW.trod enc Tryz.prog w 0 spare held m 9 (([c0, c1, c2, c3].drop 2).take (Tryz.prog.cellsOf 9)) = some x2 := hf 2 _ rfl
  have f3 : DataW.trod enc Tryz.prog w 0 spare held m 23 (([c0, c1, c2, c3].drop 3).take (Tryz.prog.cellsOf 23)) = some x3 := hf 3 _ rfl
  rw [e1] at f0 f1
  rw [e2] at f2
  rw [e3] at f3
  obtain ⟨k, hk, _, wk⟩ := DataW.trod_int Tryz.underlying3 (show DataW.trod enc Tryz.prog w 0 spare held m 3 [c0] = some x0 from f0)
  obtain ⟨n, hn, _, wn⟩ := DataW.trod_int Tryz.underlying3 (show DataW.trod enc Tryz.prog w 0 spare held m 3 [c1] = some x1 from f1)
  obtain ⟨t, ht, _, wt⟩ := DataW.trod_string Tryz.underlying9 (show DataW.trod enc Tryz.prog w 0 spare held m 9 [c2] = some x2 from f2)
  simp only [List.cons.injEq, and_true] at hk hn ht
  exact ⟨k, n, t, hk, hn, ht, bounds_i64 wk, bounds_i64 wn, wt, m, x3, hm, f3⟩

theorem open_kids : ∀ (fuel : Nat) (cs : List Value) (x : DataW H × List MemPlace), DataW.trod enc Tryz.prog w 0 spare held fuel 23 cs = some x → ∃ v es, cs = [v] ∧ KidsAt w (fun _ => True) fuel v es
  | 0, cs, x, h => by simp [DataW.trod] at h
  | fuel + 1, cs, x, h => by
    rcases DataW.trod_slice Tryz.underlying23 h with ⟨hcs, _⟩ | ⟨a, len, cap, elems, rest, n, hn, hcs, _, _, hlc, hcm, hel, hat, _, _⟩
    · exact ⟨_, [], hcs, none, 0, rfl, Nat.zero_le _, fun i e he => by simp at he⟩
    · obtain rfl : fuel = n := by omega
      have key : ∀ i, i < len → ∃ e : Ex, ∃ b off kv, a = ⟨b, off, none⟩ ∧ b < w.heap.size ∧
          w.cell? ⟨b, off + i * 4, none⟩ = some (.int .i64 e.kind) ∧ w.cell? ⟨b, off + i * 4 + 1, none⟩ = some (.int .i64 e.n) ∧ w.cell? ⟨b, off + i * 4 + 2, none⟩ = some (.string e.text) ∧ w.cell? ⟨b, off + i * 4 + 3, none⟩ = some kv ∧
          inI64 e.kind ∧ inI64 e.n ∧ e.text.size ≤ maxLen ∧ KidsAt w (fun _ => True) fuel kv e.kids := by
        intro i hi
        have hb := hat i hi
        rw [List.getElem?_eq_getElem (by omega), cells_exp] at hb
        obtain ⟨cs', hc', ht'⟩ := Option.bind_eq_some_iff.1 hb
        obtain ⟨c0, c1, c2, c3, rfl, g0, g1, g2, g3⟩ := cells4 hc'
        obtain ⟨k, nn, t, rfl, rfl, rfl, rk, rn, rt, m, y, hm, hk⟩ := open_fields ht'
        obtain ⟨v, es, hv, hes⟩ := open_kids m [c3] y hk
        obtain rfl : c3 = v := by simpa using hv
        obtain ⟨b, off, spot⟩ := a
        have hspot : spot = none := by
          have hb0 := hat 0 (by omega)
          rw [List.getElem?_eq_getElem (by omega), cells_exp] at hb0
          obtain ⟨cs0, hc0, _⟩ := Option.bind_eq_some_iff.1 hb0
          obtain ⟨d0, _, _, _, _, q0, _⟩ := cells4 hc0
          simpa [Addr.add] using World.cell?_spot q0
        subst hspot
        rw [addr_add] at g0 g1 g2 g3
        rw [addr_add] at g1 g2 g3
        exact ⟨.mk k nn t es, b, off, c3, rfl, World.block_lt_of_cell? _ _ g0, g0, g1, g2, g3, rk, rn, rt, hes.deep (by omega)⟩
      obtain ⟨f, hf⟩ := Deep.choose_lt key
      refine ⟨_, (List.range len).map f, hcs, some a, cap, by simp, by simp; omega, fun i e he => ?_⟩
      have hi : i < len := by have := (List.getElem?_eq_some_iff.1 he).1; simpa using this
      obtain rfl : f i = e := by simpa [hi] using he
      obtain ⟨b, off, kv, ha, hlt, c0, c1, c2, c3, r1, r2, r3, hk⟩ := hf i hi
      exact ⟨b, off, kv, by rw [ha], trivial, hlt, c0, c1, c2, c3, r1, r2, r3, hk⟩
  termination_by fuel => fuel

theorem open_exp {v : Value} {dd : DataW H} {p : List MemPlace} (hv : ∃ cs, v = .agg cs ∧ cs.size = Tryz.prog.cellsOf 54) (h : DataW.Trod enc Tryz.prog w 0 spare held 54 v dd p) : ∃ e d, ExAt w (fun _ => True) d v e := by
  obtain ⟨fuel, hf⟩ := h
  obtain ⟨cs, rfl, hcs⟩ := hv
  rw [cells_exp] at hcs
  obtain ⟨l⟩ := cs
  obtain ⟨c0, c1, c2, c3, rfl⟩ : ∃ c0 c1 c2 c3, l = [c0, c1, c2, c3] := by
    match l, hcs with
    | [x0, x1, x2, x3], _ => exact ⟨x0, x1, x2, x3, rfl⟩
  obtain ⟨k, nn, t, rfl, rfl, rfl, rk, rn, rt, m, y, _, hk⟩ := open_fields (show DataW.trod enc Tryz.prog w 0 spare held fuel 54 [c0, c1, c2, c3] = some (dd, p) from hf)
  obtain ⟨v, es, hv, hes⟩ := open_kids m [c3] y hk
  obtain rfl : c3 = v := by simpa using hv
  exact ⟨.mk k nn t es, m, c3, rfl, rk, rn, rt, hes⟩
end Go.Proofs.YtkhkmmjollcfaaaGreatDoor

namespace Go.Proofs.YtkhkmmjollcfaaaGreatDoor
open Go.RowKit Go.Joins

set_option maxRecDepth 100000

/-- A scope in memory, at most m deep, in blocks of S. -/
def EnvAt (w : World) (S : Nat → Prop) (d : Nat) : Nat → Value → List Clo → Prop
  | 0, _, _ => False
  | m + 1, v, cs => ∃ a cap, v = .slice a cs.length cap ∧ cs.length ≤ 1000000 ∧ (a = none → cap = 0) ∧ ∀ i c, cs[i]? = some c → ∃ b off kv ev, a = some ⟨b, off, none⟩ ∧ S b ∧ b < w.heap.size ∧
      w.cell? ⟨b, off + i * 6, none⟩ = some (.int .i64 c.ex.kind) ∧ w.cell? ⟨b, off + i * 6 + 1, none⟩ = some (.int .i64 c.ex.n) ∧ w.cell? ⟨b, off + i * 6 + 2, none⟩ = some (.string c.ex.text) ∧ w.cell? ⟨b, off + i * 6 + 3, none⟩ = some kv ∧ w.cell? ⟨b, off + i * 6 + 4, none⟩ = some ev ∧ w.cell? ⟨b, off + i * 6 + 5, none⟩ = some (.bool c.own) ∧
      inI64 c.ex.kind ∧ inI64 c.ex.n ∧ c.ex.text.size ≤ maxLen ∧ KidsAt w S d kv c.ex.kids ∧ EnvAt w S d m ev c.env
theorem EnvAt.kept {w w' : World} {S S' : Nat → Prop} {d : Nat} (hw : ∀ b, S b → b < w.heap.size → w'.heap[b]? = w.heap[b]?) (hsz : w.heap.size ≤ w'.heap.size) (hS : ∀ b, S b → b < w.heap.size → S' b) : ∀ {m : Nat} {v : Value} {cs : List Clo}, EnvAt w S d m v cs → EnvAt w' S' d m v cs
  | 0, _, _, h => h.elim
  | m + 1, v, cs, h => by
    obtain ⟨a, cap, hv, hl, hz, hc⟩ := h
    refine ⟨a, cap, hv, hl, hz, fun i c hi => ?_⟩
    obtain ⟨b, off, kv, ev, ha, hb, hlt, c0, c1, c2, c3, c4, c5, r1, r2, r3, hk, he⟩ := hc i c hi
    have hcell : ∀ o, w'.cell? ⟨b, o, none⟩ = w.cell? ⟨b, o, none⟩ := fun o => World.cell?_of_block (hw b hb hlt)
    exact ⟨b, off, kv, ev, ha, hS b hb hlt, Nat.lt_of_lt_of_le hlt hsz, (hcell _).trans c0, (hcell _).trans c1, (hcell _).trans c2, (hcell _).trans c3, (hcell _).trans c4, (hcell _).trans c5, r1, r2, r3, hk.kept hw hsz hS, EnvAt.kept hw hsz hS he⟩
theorem EnvAt.below {w w' : World} {S : Nat → Prop} {d m : Nat} {v : Value} {cs : List Clo} (h : EnvAt w S d m v cs) (hb : Below w.heap.size w w') : EnvAt w' S d m v cs :=
  h.kept (fun b _ hlt => hb.block b hlt) hb.size (fun _ h _ => h)
theorem EnvAt.deeper {w : World} {S : Nat → Prop} {d : Nat} : ∀ {m : Nat} {v : Value} {cs : List Clo}, EnvAt w S d m v cs → EnvAt w S d (m + 1) v cs
  | 0, _, _, h => h.elim
  | m + 1, v, cs, h => by
    obtain ⟨a, cap, hv, hl, hz, hc⟩ := h
    refine ⟨a, cap, hv, hl, hz, fun i c hi => ?_⟩
    obtain ⟨b, off, kv, ev, h1, h2, h3, c0, c1, c2, c3, c4, c5, r1, r2, r3, hk, he⟩ := hc i c hi
    exact ⟨b, off, kv, ev, h1, h2, h3, c0, c1, c2, c3, c4, c5, r1, r2, r3, hk, he.deeper⟩
theorem EnvAt.deep {w : World} {S : Nat → Prop} {d m m' : Nat} {v : Value} {cs : List Clo} (h : EnvAt w S d m v cs) (hm : m ≤ m') : EnvAt w S d m' v cs := by
  obtain ⟨k, rfl⟩ := Nat.exists_eq_add_of_le hm
  induction k with
  | zero => exact h
  | succ k ih => exact (ih (by omega)).deeper
theorem EnvAt.form {w : World} {S : Nat → Prop} {d m : Nat} {v : Value} {cs : List Clo} (h : EnvAt w S d m v cs) : ∃ a cap, v = .slice a cs.length cap ∧ (a = none → cap = 0) := by
  cases m with
  | zero => exact h.elim
  | succ m => obtain ⟨a, cap, hv, _, hz, _⟩ := h; exact ⟨a, cap, hv, hz⟩
theorem EnvAt.nil {w : World} {S : Nat → Prop} {d m : Nat} (a : Option Addr) (cap : Nat) (hz : a = none → cap = 0) : EnvAt w S d (m + 1) (.slice a 0 cap) [] := ⟨a, cap, rfl, by simp, hz, fun i c h => by simp at h⟩

/-- A closure with the two values in its cells. -/
structure CloV where
  c : Clo
  kv : Value
  ev : Value
instance : Inhabited CloV := ⟨⟨.mk exZ [] false, .bool false, .bool false⟩⟩
def CloV.cells (r : CloV) : List Value := [.int .i64 r.c.ex.kind, .int .i64 r.c.ex.n, .string r.c.ex.text, r.kv, r.ev, .bool r.c.own]
def CloV.Ok (w : World) (S : Nat → Prop) (d m : Nat) (r : CloV) : Prop := inI64 r.c.ex.kind ∧ inI64 r.c.ex.n ∧ r.c.ex.text.size ≤ maxLen ∧ KidsAt w S d r.kv r.c.ex.kids ∧ EnvAt w S d m r.ev r.c.env ∧ r.kv.oneCell' = true ∧ r.ev.oneCell' = true

theorem flat6_len (rs : List CloV) : (rs.flatMap CloV.cells).length = rs.length * 6 := by
  induction rs with
  | nil => rfl
  | cons a r ih => rw [List.flatMap_cons, List.length_append, ih, List.length_cons]; simp [CloV.cells]; omega
theorem flat6_at : ∀ (rs : List CloV) (i k : Nat) (r : CloV), k < 6 → rs[i]? = some r → (rs.flatMap CloV.cells)[i * 6 + k]? = r.cells[k]?
  | [], i, k, r, _, h => by simp at h
  | a :: rs, 0, k, r, hk, h => by
    obtain rfl : a = r := by simpa using h
    rw [List.flatMap_cons, List.getElem?_append_left (by simp [CloV.cells]; omega), Nat.zero_mul, Nat.zero_add]
  | a :: rs, i + 1, k, r, hk, h => by
    rw [List.flatMap_cons, List.getElem?_append_right (by simp [CloV.cells]; omega)]
    have := flat6_at rs i k r hk (by simpa using h)
    rw [← this]
    congr 1
    simp [CloV.cells]
    omega
theorem flat6_inv (rs : List CloV) (j : Nat) (u : Value) (h : (rs.flatMap CloV.cells)[j]? = some u) : ∃ r, rs[j / 6]? = some r ∧ r.cells[j % 6]? = some u := by
  have hl := (List.getElem?_eq_some_iff.1 h).1
  rw [flat6_len] at hl
  have hi : j / 6 < rs.length := by omega
  refine ⟨rs[j / 6], List.getElem?_eq_getElem hi, ?_⟩
  rw [← flat6_at rs (j / 6) (j % 6) _ (Nat.mod_lt _ (by omega)) (List.getElem?_eq_getElem hi), ← h]
  congr 1
  omega

theorem slice_one (a : Option Addr) (n c : Nat) : (Value.slice a n c).oneCell' = true := rfl
/-- The cells of a scope. -/
theorem EnvAt.rows {w : World} {S : Nat → Prop} {d m : Nat} {a : Option Addr} {cap : Nat} {cs : List Clo} (h : EnvAt w S d (m + 1) (.slice a cs.length cap) cs) : ∃ rs : List CloV, rs.map CloV.c = cs ∧ (∀ r ∈ rs, r.Ok w S d m) ∧ ∀ j u, (rs.flatMap CloV.cells)[j]? = some u → ∃ b off, a = some ⟨b, off, none⟩ ∧ w.cell? ⟨b, off + j, none⟩ = some u := by
  obtain ⟨a', cap', hv, hl, -, hc⟩ := h
  obtain ⟨rfl, rfl⟩ : a = a' ∧ cap = cap' := by simpa using hv
  have key : ∀ i, i < cs.length → ∃ r : CloV, ∃ b off, cs[i]? = some r.c ∧ r.Ok w S d m ∧ a = some ⟨b, off, none⟩ ∧ ∀ k u, r.cells[k]? = some u → w.cell? ⟨b, off + i * 6 + k, none⟩ = some u := by
    intro i hi
    obtain ⟨b, off, kv, ev, ha, hb, hlt, c0, c1, c2, c3, c4, c5, r1, r2, r3, hk, he⟩ := hc i _ (List.getElem?_eq_getElem hi)
    obtain ⟨ka, kc, rfl⟩ := hk.form
    obtain ⟨ea, ec, rfl, -⟩ := he.form
    refine ⟨⟨cs[i], _, _⟩, b, off, List.getElem?_eq_getElem hi, ⟨r1, r2, r3, hk, he, rfl, rfl⟩, ha, fun k u hu => ?_⟩
    match k, hu with
    | 0, hu => simp [CloV.cells] at hu; subst hu; exact c0
    | 1, hu => simp [CloV.cells] at hu; subst hu; exact c1
    | 2, hu => simp [CloV.cells] at hu; subst hu; exact c2
    | 3, hu => simp [CloV.cells] at hu; subst hu; exact c3
    | 4, hu => simp [CloV.cells] at hu; subst hu; exact c4
    | 5, hu => simp [CloV.cells] at hu; subst hu; exact c5
    | k + 6, hu => simp [CloV.cells] at hu
  obtain ⟨f, hf⟩ := Deep.choose_lt key
  refine ⟨(List.range cs.length).map f, ?_, fun r hr => ?_, fun j u hu => ?_⟩
  · apply List.ext_getElem?
    intro i
    rw [List.getElem?_map, List.getElem?_map]
    by_cases hi : i < cs.length
    · rw [List.getElem?_range hi]
      obtain ⟨_, _, h1, _⟩ := hf i hi
      exact h1.symm
    · rw [List.getElem?_eq_none (by simpa using hi), List.getElem?_eq_none (by omega)]
      rfl
  · obtain ⟨i, hi, rfl⟩ := List.mem_map.1 hr
    obtain ⟨_, _, _, h2, _⟩ := hf i (by simpa using hi)
    exact h2
  · obtain ⟨r, hr, hu'⟩ := flat6_inv _ j u hu
    have hi : j / 6 < cs.length := by have := (List.getElem?_eq_some_iff.1 hr).1; simpa using this
    obtain rfl : f (j / 6) = r := by rw [List.getElem?_map, List.getElem?_range hi] at hr; simpa using hr
    obtain ⟨b, off, _, _, ha, hcell⟩ := hf (j / 6) hi
    refine ⟨b, off, ha, ?_⟩
    have := hcell (j % 6) u hu'
    rw [show off + j / 6 * 6 + j % 6 = off + j by omega] at this
    exact this
/-- A row of the call's own whose cells are a scope's. -/
theorem EnvAt.of_row {w : World} {S : Nat → Prop} {d m B : Nat} {v : Value} {rs : List CloV} (h : w.ownsRow B 65 6 v rs.length (rs.flatMap CloV.cells)) (hS : ∀ b, B ≤ b → S b) (hl : rs.length ≤ 1000000) (hr : ∀ r ∈ rs, r.Ok w S d m) : EnvAt w S d (m + 1) v (rs.map CloV.c) := by
  rcases h.2 with ⟨rfl, h0⟩ | ⟨g, cap, cur, rfl, hb, hc, hn, hcm, hs, ht⟩
  · obtain rfl : rs = [] := List.length_eq_zero_iff.1 h0
    exact EnvAt.nil none 0 (fun _ => rfl)
  · refine ⟨_, _, by rw [List.length_map], by rw [List.length_map]; exact hl, fun h => (by cases h), fun i c hi => ?_⟩
    rw [List.getElem?_map] at hi
    obtain ⟨r, hri, rfl⟩ := Option.map_eq_some_iff.1 hi
    obtain ⟨r1, r2, r3, hk, he, _, _⟩ := hr r (List.mem_of_getElem? hri)
    have hcell : ∀ k u, k < 6 → r.cells[k]? = some u → w.cell? ⟨g, 0 + i * 6 + k, none⟩ = some u := fun k u hk hu => by
      have := h.cells (g := g) rfl (i * 6 + k) u ((flat6_at rs i k r hk hri).trans hu)
      rw [addr_add] at this
      rw [Nat.zero_add]
      simpa using this
    exact ⟨g, 0, r.kv, r.ev, rfl, hS g hb, (Array.getElem?_eq_some_iff.1 hc).1, hcell 0 _ (by omega) rfl, hcell 1 _ (by omega) rfl, hcell 2 _ (by omega) rfl, hcell 3 _ (by omega) rfl, hcell 4 _ (by omega) rfl, hcell 5 _ (by omega) rfl, r1, r2, r3, hk, he⟩
end Go.Proofs.YtkhkmmjollcfaaaGreatDoor

namespace Go.Proofs.YtkhkmmjollcfaaaGreatDoor
open Go.RowKit Go.Joins

set_option maxRecDepth 100000

theorem infoClo : (Tryz.prog.info? 65).map (fun i => (i.zero, i.size, i.bytes)) = some (some (.agg #[.int .i64 0, .int .i64 0, .string ⟨#[]⟩, .slice none 0 0, .slice none 0 0, .bool false]), 6, 88) := by kernel_rfl

theorem clo_one {w : World} {S : Nat → Prop} {d m : Nat} {rs : List CloV} (h : ∀ r ∈ rs, r.Ok w S d m) : ∀ u ∈ rs.flatMap CloV.cells, u.oneCell' = true := by
  intro u hu
  obtain ⟨r, hr, hu⟩ := List.mem_flatMap.1 hu
  obtain ⟨_, _, _, _, _, h1, h2⟩ := h r hr
  simp only [CloV.cells, List.mem_cons, List.not_mem_nil, or_false] at hu
  rcases hu with rfl | rfl | rfl | rfl | rfl | rfl
  · rfl
  · rfl
  · rfl
  · exact h1
  · exact h2
  · rfl
theorem CloV.Ok.kept {w w' : World} {S : Nat → Prop} {d m : Nat} {r : CloV} (h : r.Ok w S d m) (hb : Below w.heap.size w w') : r.Ok w' S d m := by
  obtain ⟨h1, h2, h3, h4, h5, h6, h7⟩ := h
  exact ⟨h1, h2, h3, h4.below hb, h5.below hb, h6, h7⟩
theorem erow_empty (w : World) (base : Nat) (e : TypeId) (size : Nat) (h : base ≤ w.heap.size) : (w.alloc (.cells #[] e)).ownsRow base e size (.slice (some ⟨w.heap.size, 0, none⟩) 0 0) 0 [] :=
  World.ownsRow_made (size := size) (e := e) w #[] 0 h (Nat.zero_le _) (by simp)

set_option maxHeartbeats 800000 in
theorem l03With_any (v1 v2 : Value) (cs ds : List Clo) (S : Nat → Prop) (d m : Nat) (w : World) (h1 : EnvAt w S d (m + 1) v1 cs) (h2 : EnvAt w S d (m + 1) v2 ds) (hS : ∀ b, w.heap.size ≤ b → S b) (hl : cs.length + ds.length ≤ 1000000) :
    Calls Tryz.prog 66 #[v1, v2] w fun e w' => ∃ v, e = .returned v ∧ EnvAt w' S d (m + 1) v (cs ++ ds) ∧ Below w.heap.size w w' := by
  obtain ⟨i0, hi, hz0, hz1, hz2⟩ := info_parts infoClo
  obtain ⟨a1, c1, rfl, hz1'⟩ := h1.form
  obtain ⟨a2, c2, rfl, hz2'⟩ := h2.form
  obtain ⟨rs1, rfl, ok1, n1⟩ := h1.rows
  obtain ⟨rs2, rfl, ok2, n2⟩ := h2.rows
  simp only [List.length_map] at hl ⊢
  have B0 : Below w.heap.size w (w.alloc (.cells #[] 65)) := (Below.refl _ w).alloc (Nat.le_refl _) _
  have P3 : (w.alloc (.cells #[] 65)).heap.size = w.heap.size + 1 := by simp
  have hown0 := erow_empty w w.heap.size 65 6 (Nat.le_refl _)
  have HB := (show Hid (_ ∧ _ ∧ _ ∧ _ ∧ _) from ⟨B0, ok1, ok2, n1, n2⟩)
  have fin : ∀ (v2 : Value) (w1 w2 : World), Below w.heap.size w w2 → w2.ownsRow w.heap.size 65 6 v2 (0 + rs1.length + rs2.length) ([] ++ rs1.flatMap CloV.cells ++ rs2.flatMap CloV.cells) → EnvAt w2 S d (m + 1) v2 (rs1.map CloV.c ++ rs2.map CloV.c) := by
    intro v2 _ w2 hb hown
    rw [← List.map_append]
    refine EnvAt.of_row (B := w.heap.size) ?_ hS (by rw [List.length_append]; omega) (fun r hr => ?_)
    · rw [List.length_append, List.flatMap_append]
      rw [Nat.zero_add, List.nil_append] at hown
      exact hown
    · rcases List.mem_append.1 hr with hr | hr
      · exact (ok1 r hr).kept hb
      · exact (ok2 r hr).kept hb
  have HF := (show Hid (_ ∧ True) from ⟨fin, trivial⟩)
  clear h1 h2 B0 ok1 ok2 n1 n2 fin
  have key1 : ∀ (ad : Addr), a1 = some ad → ∀ j u, (rs1.flatMap CloV.cells)[j]? = some u → (w.alloc (.cells #[] 65)).cell? (ad.add j) = some u := fun ad ha j u hu => by
    obtain ⟨b, off, hb, hc⟩ := HB.out.2.2.2.1 j u hu
    rw [ha] at hb
    cases hb
    rw [addr_add]
    exact (HB.out.1.cell (World.block_lt_of_cell? _ _ hc)).trans hc
  go_enter Tryz.func66, Tryz.ntmps66
  cases a1 with
  | none =>
    obtain rfl := hz1' rfl
    obtain rfl : rs1 = [] := by
      cases rs1 with
      | nil => rfl
      | cons r t => obtain ⟨b, off, hb, _⟩ := HB.out.2.2.2.1 0 (.int .i64 r.c.ex.kind) rfl; cases hb
    simp only [List.length_nil]
    cases a2 with
    | none =>
      obtain rfl := hz2' rfl
      obtain rfl : rs2 = [] := by
        cases rs2 with
        | nil => rfl
        | cons r t => obtain ⟨b, off, hb, _⟩ := HB.out.2.2.2.2 0 (.int .i64 r.c.ex.kind) rfl; cases hb
      simp only [List.length_nil]
      have hb3 := HB.out.1
      go_wp2_with (at_builtin; refine wpList_append_own_none rfl _ _ 63 rfl w.heap.size 65 i0 6 Tryz.underlying63 hi _ 0 [] rfl hown0 rfl ?_)
      go_ret
      exact ⟨_, rfl, HF.out.1 _ w _ hb3 hown0, hb3⟩
    | some ad2 =>
      have hb3 := HB.out.1
      go_wp2_with (first
        | (at_builtin; refine wpList_append_own _ rfl _ _ 63 rfl w.heap.size 65 i0 _ 6 88 Tryz.underlying63 hi hz0 hz1 hz2 rfl (by decide) _ 0 [] rfl hown0 ad2 rs2.length c2 (rs2.flatMap CloV.cells) rfl (flat6_len rs2) (fun j u hu => by obtain ⟨b, off, hb, hc⟩ := HB.out.2.2.2.2 j u hu; cases hb; rw [addr_add]; exact (hb3.cell (World.block_lt_of_cell? _ _ hc)).trans hc) (clo_one HB.out.2.2.1) (by unfold maxLen; omega) (by omega) (by have := hb3.size; omega) ?_; intro v4 w4 hown4 hgrow4 hnil4; have hb4 : Below w.heap.size w w4 := hb3.grown hgrow4 (by have := hb3.size; omega) (fun k hk => (hown0.lt k hk).1))
        | (at_builtin; refine wpList_append_own_none rfl _ _ 63 rfl w.heap.size 65 i0 6 Tryz.underlying63 hi _ 0 [] rfl hown0 rfl ?_))
      go_ret
      exact ⟨v4, rfl, HF.out.1 v4 w w4 hb4 (by simpa using hown4), hb4⟩
  | some ad1 =>
    cases a2 with
    | none =>
      obtain rfl := hz2' rfl
      obtain rfl : rs2 = [] := by
        cases rs2 with
        | nil => rfl
        | cons r t => obtain ⟨b, off, hb, _⟩ := HB.out.2.2.2.2 0 (.int .i64 r.c.ex.kind) rfl; cases hb
      simp only [List.length_nil]
      go_wp2_with (first
        | (at_builtin; refine wpList_append_own _ rfl _ _ 63 rfl w.heap.size 65 i0 _ 6 88 Tryz.underlying63 hi hz0 hz1 hz2 rfl (by decide) _ 0 [] rfl hown0 ad1 rs1.length c1 (rs1.flatMap CloV.cells) rfl (flat6_len rs1) (key1 ad1 rfl) (clo_one HB.out.2.1) (by unfold maxLen; omega) (by omega) (by simp) ?_; intro v3 w3 hown3 hgrow3 hnil3; have hb3 : Below w.heap.size w w3 := HB.out.1.grown hgrow3 (by simp) (fun k hk => (hown0.lt k hk).1))
        | (at_builtin; refine wpList_append_own_none rfl _ _ 63 rfl w.heap.size 65 i0 6 Tryz.underlying63 hi _ (0 + rs1.length) _ rfl hown3 rfl ?_))
      go_ret
      exact ⟨v3, rfl, by simpa using HF.out.1 v3 w w3 hb3 (by simpa using hown3), hb3⟩
    | some ad2 =>
      go_wp2_with (first
        | (at_builtin; refine wpList_append_own _ rfl _ _ 63 rfl w.heap.size 65 i0 _ 6 88 Tryz.underlying63 hi hz0 hz1 hz2 rfl (by decide) _ 0 [] rfl hown0 ad1 rs1.length c1 (rs1.flatMap CloV.cells) rfl (flat6_len rs1) (key1 ad1 rfl) (clo_one HB.out.2.1) (by unfold maxLen; omega) (by omega) (by simp) ?_; intro v3 w3 hown3 hgrow3 hnil3; have hb3 : Below w.heap.size w w3 := HB.out.1.grown hgrow3 (by simp) (fun k hk => (hown0.lt k hk).1))
        | (at_builtin; refine wpList_append_own _ rfl _ _ 63 rfl w.heap.size 65 i0 _ 6 88 Tryz.underlying63 hi hz0 hz1 hz2 rfl (by decide) _ (0 + rs1.length) _ rfl hown3 ad2 rs2.length c2 (rs2.flatMap CloV.cells) rfl (flat6_len rs2) (fun j u hu => by obtain ⟨b, off, hb, hc⟩ := HB.out.2.2.2.2 j u hu; cases hb; rw [addr_add]; exact (hb3.cell (World.block_lt_of_cell? _ _ hc)).trans hc) (clo_one HB.out.2.2.1) (by unfold maxLen; omega) (by omega) (by have := hb3.size; omega) ?_; intro v4 w4 hown4 hgrow4 hnil4; have hb4 : Below w.heap.size w w4 := hb3.grown hgrow4 (by have := hb3.size; omega) (fun k hk => (hown3.lt k hk).1)))
      go_ret
      exact ⟨v4, rfl, HF.out.1 v4 w3 w4 hb4 hown4, hb4⟩
end Go.Proofs.YtkhkmmjollcfaaaGreatDoor

namespace Go.Proofs.YtkhkmmjollcfaaaGreatDoor
open Go.RowKit Go.Joins

set_option maxRecDepth 100000

mutual
/-- What stands for a name is right in its scope. -/
def Clo.good (T : Int) : Clo → Prop
  | .mk e es r => (∃ deep, e.right ((es.length : Int) + (if r = true then 1 else 0)) T deep = true) ∧ Clo.goodL T es
def Clo.goodL (T : Int) : List Clo → Prop
  | [] => True
  | c :: r => c.good T ∧ Clo.goodL T r
end
theorem goodL_iff (T : Int) : ∀ cs : List Clo, Clo.goodL T cs ↔ ∀ c ∈ cs, c.good T
  | [] => by simp [Clo.goodL]
  | c :: r => by rw [Clo.goodL, goodL_iff T r]; simp
theorem Clo.good_eq (T : Int) (c : Clo) : c.good T ↔ (∃ deep, c.ex.right ((c.env.length : Int) + (if c.own = true then 1 else 0)) T deep = true) ∧ Clo.goodL T c.env := by cases c; rw [Clo.good]; rfl
theorem goodL_append {T : Int} {a b : List Clo} (ha : Clo.goodL T a) (hb : Clo.goodL T b) : Clo.goodL T (a ++ b) := by
  rw [goodL_iff] at *
  intro c hc
  rcases List.mem_append.1 hc with h | h
  · exact ha c h
  · exact hb c h
theorem goodL_one {T : Int} {c : Clo} (h : c.good T) : Clo.goodL T [c] := by rw [goodL_iff]; intro x hx; simp at hx; subst hx; exact h
theorem Clo.scope_good {T : Int} {c : Clo} (h : c.good T) : Clo.goodL T c.scope ∧ ∃ deep, c.ex.right (c.scope.length : Int) T deep = true := by
  have h' := (c.good_eq T).1 h
  unfold Clo.scope
  by_cases ho : c.own = true
  · rw [if_pos ho]
    rw [if_pos ho] at h'
    refine ⟨goodL_append h'.2 (goodL_one h), ?_⟩
    obtain ⟨d, hd⟩ := h'.1
    exact ⟨d, by rw [List.length_append]; simpa using hd⟩
  · rw [if_neg ho]
    rw [if_neg ho] at h'
    obtain ⟨d, hd⟩ := h'.1
    exact ⟨h'.2, d, by simpa using hd⟩
def Vl.good (T : Int) : Vl → Prop
  | .num n => inI64 n
  | .nil => True
  | .pair h t => h.good T ∧ t.good T
  | .fn l x en => 1 ≤ l ∧ l ≤ 6 ∧ Clo.goodL T en ∧ ∃ deep, x.right ((en.length : Int) + l) T deep = true
def Vl.kind : Vl → Int
  | .num _ => 0
  | .nil => 1
  | .pair _ _ => 2
  | .fn _ _ _ => 3

/-- The seven cells of a value of the specification's. -/
def VSh (w : World) (S : Nat → Prop) (d m : Nat) (v : Value) (k n : Int) (e : Ex) (en : List Clo) : Prop :=
  ∃ kv ev, v = .agg #[.int .i64 k, .int .i64 n, .int .i64 e.kind, .int .i64 e.n, .string e.text, kv, ev] ∧ inI64 e.kind ∧ inI64 e.n ∧ e.text.size ≤ maxLen ∧ KidsAt w S d kv e.kids ∧ EnvAt w S d m ev en
def VAt (w : World) (S : Nat → Prop) (d m : Nat) (v : Value) : Vl → Prop
  | .num n => ∃ e, VSh w S d m v 0 n e []
  | .nil => ∃ n e, VSh w S d m v 1 n e []
  | .pair h t => ∃ n e, VSh w S d m v 2 n e [h, t]
  | .fn l x en => VSh w S d m v 3 l x en
def VJ (w : World) (S : Nat → Prop) (d m : Nat) (v : Value) : Prop := ∃ k n e en, VSh w S d m v k n e en ∧ en.length ≤ 1000
theorem VSh.kept {w w' : World} {S : Nat → Prop} {d m : Nat} {v : Value} {k n : Int} {e : Ex} {en : List Clo} (h : VSh w S d m v k n e en) (hw : ∀ b, S b → b < w.heap.size → w'.heap[b]? = w.heap[b]?) (hsz : w.heap.size ≤ w'.heap.size) : VSh w' S d m v k n e en := by
  obtain ⟨kv, ev, hv, h1, h2, h3, hk, he⟩ := h
  exact ⟨kv, ev, hv, h1, h2, h3, hk.kept hw hsz (fun _ h _ => h), he.kept hw hsz (fun _ h _ => h)⟩
theorem VSh.deep {w : World} {S : Nat → Prop} {d m m' : Nat} {v : Value} {k n : Int} {e : Ex} {en : List Clo} (h : VSh w S d m v k n e en) (hm : m ≤ m') : VSh w S d m' v k n e en := by
  obtain ⟨kv, ev, hv, h1, h2, h3, hk, he⟩ := h
  exact ⟨kv, ev, hv, h1, h2, h3, hk, he.deep hm⟩
/-- The zero value. -/
theorem VJ.zero (w : World) (S : Nat → Prop) (d m : Nat) : VJ w S (d + 1) (m + 1) (.agg #[.int .i64 0, .int .i64 0, .int .i64 0, .int .i64 0, .string ⟨#[]⟩, .slice none 0 0, .slice none 0 0]) :=
  ⟨0, 0, .mk 0 0 ⟨#[]⟩ [], [], ⟨_, _, rfl, by unfold inI64; decide, by unfold inI64; decide, Nat.zero_le _, ⟨none, 0, rfl, Nat.zero_le _, fun i e h => by have h : ([] : List Ex)[i]? = some e := h; simp at h⟩, EnvAt.nil none 0 (fun _ => rfl)⟩, by simp⟩

end Go.Proofs.YtkhkmmjollcfaaaGreatDoor
