/- Fall: what the loop of Run wants. -/
import Derived.Test.YtdmbgdbmfenbfaaFaJ
import Derived.Test.YtdmbgdbmfenbfaaFaL
import Derived.Deep.Cut
namespace Go.Proofs.Ytdmbgdbmfenbfaa.Fa
open Go.ChangeShapes Go.WideShapes Go.ChangeAt Go.RowKit Go.Proofs.Ytdmbgdbmfenbfaa.Cell
set_option linter.unusedVariables false
set_option linter.unusedSimpArgs false
@[go_sem] theorem run_store_fn (P : Program) (w : World) (a : Addr) (m : Mode) (f : Fn) (x y : Array Value) : Sem.run P (store a (.func f x y) m) w = stored P w a (.func f x y) m := run_store P w a _ m rfl
theorem st_row {W : World} {g x i : Nat} {ty : TypeId} {cs : Array Value} {u : Value} (h : Row W x ty cs) (hn : x ≠ g) : Row (W.setCell ⟨g, i, none⟩ u) x ty cs := (Below.heap_setCell W ⟨g, i, none⟩ u x hn).trans h
theorem st_own {W : World} {g i B n c size : Nat} {e : TypeId} {A : Option Addr} {xs : List Value} {u : Value} (h : W.ownsRow B e size (.slice A n c) n xs) (hg : g < B) : (W.setCell ⟨g, i, none⟩ u).ownsRow B e size (.slice A n c) n xs :=
  own_only (Only.set (p := ⟨g, i, none⟩) (Only.refl W (fun b => b = g)) (.inl rfl) u) h (fun a e' hw => by have := own_ab h a e'; omega)
theorem be_own {W W' : World} {B n c size : Nat} {e : TypeId} {A : Option Addr} {xs : List Value} (h : W.ownsRow B e size (.slice A n c) n xs) (hb : Below W.heap.size W W') : W'.ownsRow B e size (.slice A n c) n xs :=
  own_only (Only.of_below hb (fun _ => False)) h (fun _ _ x => x)
theorem own_lt {W : World} {B n c size : Nat} {e : TypeId} {A : Option Addr} {xs : List Value} (h : W.ownsRow B e size (.slice A n c) n xs) : ∀ a, A = some a → a.block < W.heap.size := fun a ha => by
  subst ha
  exact (h.lt a.block rfl).2
theorem own_more {W W' : World} {B n c size : Nat} {e : TypeId} {A : Option Addr} {xs : List Value} {R : Nat → Prop} (h : W.ownsRow B e size (.slice A n c) n xs) (ho : Only W W' R) (hn : ∀ b, R b → b < B) : W'.ownsRow B e size (.slice A n c) n xs :=
  own_only ho h (fun a ha hr => by have := own_ab h a ha; have := hn _ hr; omega)
theorem Only.of_grown {w w' : World} {row : Option Nat} (h : w.grownBy w' row) : Only w w' (fun b => row = some b) :=
  ⟨h.os, h.tape, h.output, h.size, fun k hk hn => h.block k hk (fun e => hn e.symm)⟩
theorem Fw.only {w w' : World} {B g : Nat} {c : Int} {te : List Te} {st : List St} {p : Pl} {f : Fl} {R : Nat → Prop} (h : Fw w B g c te st p f) (ho : Only w w' R) (hg : ¬ R g) (h1 : ∀ a, p.A1 = some a → ¬ R a.block) (h2 : ∀ a, p.A2 = some a → ¬ R a.block) (h3 : ∀ a, p.A3 = some a → ¬ R a.block) : Fw w' B g c te st p f :=
  ⟨ho.row h.row hg, own_only ho h.own h1, h.ap, rs_only ho h.q h2, h.qp, rs_only ho h.s h3, h.sp⟩
/-- where the blocks of the money on its way lie -/
structure In6 (g : Nat) (p : Pl) (lo hi : Nat) : Prop where
  g : lo ≤ g ∧ g < hi
  a1 : ∀ a, p.A1 = some a → lo ≤ a.block ∧ a.block < hi
  a2 : ∀ a, p.A2 = some a → lo ≤ a.block ∧ a.block < hi
  a3 : ∀ a, p.A3 = some a → lo ≤ a.block ∧ a.block < hi
theorem In6.wb {g : Nat} {p : Pl} {lo hi : Nat} (h : In6 g p lo hi) : ∀ b, Wb g p b → lo ≤ b ∧ b < hi := fun b hb => by
  rcases hb with rfl | ⟨a, ha, rfl⟩
  · exact h.g
  · exact h.a1 a ha
/-- behind an append to what was taken -/
theorem Fw.grown {w w' : World} {B g lo hi : Nat} {c : Int} {te : List Te} {st : List St} {p : Pl} {f : Fl} {row : Option Nat} (h : Fw w B g c te st p f) (hi6 : In6 g p lo hi) (hg : w.grownBy w' row) (hr : ∀ b, row = some b → hi ≤ b) : Fw w' B g c te st p f :=
  h.only (Only.of_grown hg) (fun e => by have := hr _ e; have := hi6.g.2; omega) (fun a ha e => by have := hr _ e; have := (hi6.a1 a ha).2; omega) (fun a ha e => by have := hr _ e; have := (hi6.a2 a ha).2; omega) (fun a ha e => by have := hr _ e; have := (hi6.a3 a ha).2; omega)
theorem cell_grown {a X W : World} {base size n b o : Nat} {e : TypeId} {v u : Value} {xs : List Value} (hown : a.ownsRow base e size v n xs) (hg : X.grownBy W v.ownBlock) (hc : X.cell? ⟨b, o, none⟩ = some u) (hb : a.heap.size ≤ b ∨ b < base) : W.cell? ⟨b, o, none⟩ = some u :=
  hg.cell hc fun h => by
    have := hown.lt b h.symm
    omega
theorem info_i : (Try.prog.info? 3).map (fun i => (i.zero, i.size, i.bytes)) = some (some (.int .i64 0), 1, 8) := by kernel_rfl
def ils (xs : List Int) : List Value := xs.map (Value.int .i64)
theorem ils_snoc (xs : List Int) (x : Int) : ils (xs ++ [x]) = ils xs ++ [.int .i64 x] := by simp [ils]
/-- what Run returns, where the equity is no too great -/
def RunP (w : World) (d : Dl) (m : Int) (e : Ending) (w' : World) : Prop :=
  ∃ (p : Pl) (At : Option Addr) (ct : Nat), e = .returned (.tuple #[dval (bot d (dwn d m).2) p, .slice At d.st.length ct, .int .i64 0]) ∧
    w'.ownsRow w.heap.size 39 2 (.slice p.A1 (dwn d m).2.tr.length p.c1) (dwn d m).2.tr.length ((dwn d m).2.tr.flatMap tcs) ∧
    w'.ownsRow w.heap.size 50 2 (.slice p.A2 d.te.length p.c2) d.te.length (d.te.flatMap qcs) ∧
    w'.ownsRow w.heap.size 42 3 (.slice p.A3 d.st.length p.c3) d.st.length (d.st.flatMap scs) ∧
    w'.ownsRow w.heap.size 3 1 (.slice At d.st.length ct) d.st.length (ils (dwn d m).1) ∧ Below w.heap.size w w'
def RunQ (w : World) (d : Dl) (m : Int) (e : Ending) (w' : World) : Prop := if (dwn d m).2.e ≤ 1000000000000000 then RunP w d m e w' else e = .returned (errv 3) ∧ Below w.heap.size w w'
theorem RunP.dm {w w' : World} {d : Dl} {f : Fl} {p : Pl} (h1 : w'.ownsRow w.heap.size 39 2 (.slice p.A1 f.tr.length p.c1) f.tr.length (f.tr.flatMap tcs))
    (h2 : w'.ownsRow w.heap.size 50 2 (.slice p.A2 d.te.length p.c2) d.te.length (d.te.flatMap qcs))
    (h3 : w'.ownsRow w.heap.size 42 3 (.slice p.A3 d.st.length p.c3) d.st.length (d.st.flatMap scs)) : Dm w' (bot d f) p :=
  ⟨rs_own (f := tcs) (K := 2) (fun _ => rfl) rfl h1, rs_own (f := qcs) (K := 2) (fun _ => rfl) rfl h2, rs_own (f := scs) (K := 3) (fun _ => rfl) rfl h3⟩
end Go.Proofs.Ytdmbgdbmfenbfaa.Fa
