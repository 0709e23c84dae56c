import PyProof.Rows.All
import Wide.All
import OpenK.AllK
import Wide.FinOn
import HandS.ForMost
import HandS.IsInst
import HandS.More
import HandS.SetKeys
import HandS.SortKw
import HandS.DictComp
import HandS.Conv
import HandS.Deep
import HandS.TupLen
import HandS.Style
import HandS.Codes
import HandS.DeepEq
import PySem.Challenge.RW_treemove_k04_rows
set_option Elab.async false
set_option linter.all false
set_option maxRecDepth 100000
set_option pp.maxSteps 900
namespace Tm
open PySem PySem.Spec PyProof.Rows L2
def topS (i : Nat) : Stmt := PySem.Challenge.pw_treemove_k04_rows.main.body.getD i (.Pass ⟨0, 0, 0, 0⟩)
abbrev s_children : Stmt := topS 2
theorem sc_children : FnScope ["tree", "folder", "child"] ["tree", "folder"] (defScope s_children) := ⟨rfl, rfl, rfl, by decide +kernel, rfl, by decide +kernel, by decide +kernel⟩
abbrev s_rows : Stmt := topS 3
theorem sc_rows : FnScope ["tree", "falling", "found", "folder", "waiting", "depth", "child"] ["tree"] (defScope s_rows) := ⟨rfl, rfl, rfl, by decide +kernel, rfl, by decide +kernel, by decide +kernel⟩
abbrev s_children_falling : Stmt := topS 4
theorem sc_children_falling : FnScope ["tree", "falling", "folder"] ["tree"] (defScope s_children_falling) := ⟨rfl, rfl, rfl, by decide +kernel, rfl, by decide +kernel, by decide +kernel⟩
abbrev s_law_whole : Stmt := topS 6
theorem sc_law_whole : FnScope ["_law_found"] ["_law_found"] (defScope s_law_whole) := ⟨rfl, rfl, rfl, by decide +kernel, rfl, by decide +kernel, by decide +kernel⟩
abbrev s_law_cell_at : Stmt := topS 7
theorem sc_law_cell_at : FnScope ["_law_script", "_law_k"] ["_law_script", "_law_k"] (defScope s_law_cell_at) := ⟨rfl, rfl, rfl, by decide +kernel, rfl, by decide +kernel, by decide +kernel⟩
abbrev s_law_name : Stmt := topS 8
theorem sc_law_name : FnScope ["_law_k", "_law_cell", "_law_some"] ["_law_k", "_law_cell"] (defScope s_law_name) := ⟨rfl, rfl, rfl, by decide +kernel, rfl, by decide +kernel, by decide +kernel⟩
abbrev s_law_tree : Stmt := topS 9
theorem sc_law_tree : FnScope ["_law_script", "_law_size", "_law_wide", "_law_cell", "_law_tree_here", "_law_k", "_law_pick_here"] ["_law_script", "_law_size", "_law_wide", "_law_cell"] (defScope s_law_tree) := ⟨rfl, rfl, rfl, by decide +kernel, rfl, by decide +kernel, by decide +kernel⟩
abbrev s_law_pick : Stmt := topS 10
theorem sc_law_pick : FnScope ["_law_pick_here", "_law_size", "_law_cell"] ["_law_pick_here", "_law_size", "_law_cell"] (defScope s_law_pick) := ⟨rfl, rfl, rfl, by decide +kernel, rfl, by decide +kernel, by decide +kernel⟩
abbrev s_law_way : Stmt := topS 11
theorem sc_law_way : FnScope ["_law_tree_here", "_law_folder", "_law_way_here"] ["_law_tree_here", "_law_folder"] (defScope s_law_way) := ⟨rfl, rfl, rfl, by decide +kernel, rfl, by decide +kernel, by decide +kernel⟩
abbrev s_law_numbers : Stmt := topS 12
theorem sc_law_numbers : FnScope ["_law_found", "_law_due", "_law_k"] ["_law_found", "_law_due"] (defScope s_law_numbers) := ⟨rfl, rfl, rfl, by decide +kernel, rfl, by decide +kernel, by decide +kernel⟩
abbrev s_law_same_tree : Stmt := topS 13
theorem sc_law_same_tree : FnScope ["_law_found", "_law_due", "_law_folder"] ["_law_found", "_law_due"] (defScope s_law_same_tree) := ⟨rfl, rfl, rfl, by decide +kernel, rfl, by decide +kernel, by decide +kernel⟩
abbrev s_law_hangs : Stmt := topS 14
theorem sc_law_hangs : FnScope ["_law_tree_here", "_law_found", "_law_path", "_law_last", "_law_row"] ["_law_tree_here", "_law_found"] (defScope s_law_hangs) := ⟨rfl, rfl, rfl, by decide +kernel, rfl, by decide +kernel, by decide +kernel⟩
abbrev s_law : Stmt := topS 15
theorem sc_law : FnScope ["_law_script", "_law_size", "_law_wide", "_law_cell", "_law_tree_here", "_law_folder", "_law_handed", "_law_due", "_law_first", "_law_tops", "_law_found", "_law_hanging", "_law_kept", "_law_one", "_law_row"] ["_law_script"] (defScope s_law) := ⟨rfl, rfl, rfl, by decide +kernel, rfl, by decide +kernel, by decide +kernel⟩
theorem st_children (v0 v1 : V) : L2.start ["tree", "folder", "child"] [v0, v1] = [some v0, some v1, none] := rfl
theorem st_rows (v0 : V) : L2.start ["tree", "falling", "found", "folder", "waiting", "depth", "child"] [v0] = [some v0, none, none, none, none, none, none] := rfl
theorem st_children_falling (v0 : V) : L2.start ["tree", "falling", "folder"] [v0] = [some v0, none, none] := rfl
theorem st_law_whole (v0 : V) : L2.start ["_law_found"] [v0] = [some v0] := rfl
theorem st_law_cell_at (v0 v1 : V) : L2.start ["_law_script", "_law_k"] [v0, v1] = [some v0, some v1] := rfl
theorem st_law_name (v0 v1 : V) : L2.start ["_law_k", "_law_cell", "_law_some"] [v0, v1] = [some v0, some v1, none] := rfl
theorem st_law_tree (v0 v1 v2 v3 : V) : L2.start ["_law_script", "_law_size", "_law_wide", "_law_cell", "_law_tree_here", "_law_k", "_law_pick_here"] [v0, v1, v2, v3] = [some v0, some v1, some v2, some v3, none, none, none] := rfl
theorem st_law_pick (v0 v1 v2 : V) : L2.start ["_law_pick_here", "_law_size", "_law_cell"] [v0, v1, v2] = [some v0, some v1, some v2] := rfl
theorem st_law_way (v0 v1 : V) : L2.start ["_law_tree_here", "_law_folder", "_law_way_here"] [v0, v1] = [some v0, some v1, none] := rfl
theorem st_law_numbers (v0 v1 : V) : L2.start ["_law_found", "_law_due", "_law_k"] [v0, v1] = [some v0, some v1, none] := rfl
theorem st_law_same_tree (v0 v1 : V) : L2.start ["_law_found", "_law_due", "_law_folder"] [v0, v1] = [some v0, some v1, none] := rfl
theorem st_law_hangs (v0 v1 : V) : L2.start ["_law_tree_here", "_law_found", "_law_path", "_law_last", "_law_row"] [v0, v1] = [some v0, some v1, none, none, none] := rfl
theorem st_law (v0 : V) : L2.start ["_law_script", "_law_size", "_law_wide", "_law_cell", "_law_tree_here", "_law_folder", "_law_handed", "_law_due", "_law_first", "_law_tops", "_law_found", "_law_hanging", "_law_kept", "_law_one", "_law_row"] [v0] = [some v0, none, none, none, none, none, none, none, none, none, none, none, none, none, none] := rfl
/-- what the top leaves -/
structure Tx (K : PySem.W.Frag) (mg : Str → Option Value) where
  a_children : Addr
  d_children : FuncData
  F_children : Fun K "children" "children" s_children a_children d_children
  b_children : Binds K d_children ["tree", "folder"] []
  g_children : mg "children" = some (.ref a_children)
  a_rows : Addr
  d_rows : FuncData
  F_rows : Fun K "rows" "rows" s_rows a_rows d_rows
  b_rows : Binds K d_rows ["tree"] []
  g_rows : mg "rows" = some (.ref a_rows)
  a_children_falling : Addr
  d_children_falling : FuncData
  F_children_falling : Fun K "_children_falling" "_children_falling" s_children_falling a_children_falling d_children_falling
  b_children_falling : Binds K d_children_falling ["tree"] []
  g_children_falling : mg "_children_falling" = some (.ref a_children_falling)
  a_law_whole : Addr
  d_law_whole : FuncData
  F_law_whole : Fun K "_law_whole" "_law_whole" s_law_whole a_law_whole d_law_whole
  b_law_whole : Binds K d_law_whole ["_law_found"] []
  g_law_whole : mg "_law_whole" = some (.ref a_law_whole)
  a_law_cell_at : Addr
  d_law_cell_at : FuncData
  F_law_cell_at : Fun K "_law_cell_at" "_law_cell_at" s_law_cell_at a_law_cell_at d_law_cell_at
  b_law_cell_at : Binds K d_law_cell_at ["_law_script", "_law_k"] []
  g_law_cell_at : mg "_law_cell_at" = some (.ref a_law_cell_at)
  a_law_name : Addr
  d_law_name : FuncData
  F_law_name : Fun K "_law_name" "_law_name" s_law_name a_law_name d_law_name
  b_law_name : Binds K d_law_name ["_law_k", "_law_cell"] []
  g_law_name : mg "_law_name" = some (.ref a_law_name)
  a_law_tree : Addr
  d_law_tree : FuncData
  F_law_tree : Fun K "_law_tree" "_law_tree" s_law_tree a_law_tree d_law_tree
  b_law_tree : Binds K d_law_tree ["_law_script", "_law_size", "_law_wide", "_law_cell"] []
  g_law_tree : mg "_law_tree" = some (.ref a_law_tree)
  a_law_pick : Addr
  d_law_pick : FuncData
  F_law_pick : Fun K "_law_pick" "_law_pick" s_law_pick a_law_pick d_law_pick
  b_law_pick : Binds K d_law_pick ["_law_pick_here", "_law_size", "_law_cell"] []
  g_law_pick : mg "_law_pick" = some (.ref a_law_pick)
  a_law_way : Addr
  d_law_way : FuncData
  F_law_way : Fun K "_law_way" "_law_way" s_law_way a_law_way d_law_way
  b_law_way : Binds K d_law_way ["_law_tree_here", "_law_folder"] []
  g_law_way : mg "_law_way" = some (.ref a_law_way)
  a_law_numbers : Addr
  d_law_numbers : FuncData
  F_law_numbers : Fun K "_law_numbers" "_law_numbers" s_law_numbers a_law_numbers d_law_numbers
  b_law_numbers : Binds K d_law_numbers ["_law_found", "_law_due"] []
  g_law_numbers : mg "_law_numbers" = some (.ref a_law_numbers)
  a_law_same_tree : Addr
  d_law_same_tree : FuncData
  F_law_same_tree : Fun K "_law_same_tree" "_law_same_tree" s_law_same_tree a_law_same_tree d_law_same_tree
  b_law_same_tree : Binds K d_law_same_tree ["_law_found", "_law_due"] []
  g_law_same_tree : mg "_law_same_tree" = some (.ref a_law_same_tree)
  a_law_hangs : Addr
  d_law_hangs : FuncData
  F_law_hangs : Fun K "_law_hangs" "_law_hangs" s_law_hangs a_law_hangs d_law_hangs
  b_law_hangs : Binds K d_law_hangs ["_law_tree_here", "_law_found"] []
  g_law_hangs : mg "_law_hangs" = some (.ref a_law_hangs)
  a_law : Addr
  d_law : FuncData
  F_law : Fun K "law" "law" s_law a_law d_law
  b_law : Binds K d_law ["_law_script"] []
  g_law : mg "law" = some (.ref a_law)
  m_bool : mg "bool" = none
  m_dict : mg "dict" = none
  m_int : mg "int" = none
  m_isinstance : mg "isinstance" = none
  m_len : mg "len" = none
  m_list : mg "list" = none
  m_range : mg "range" = none
  m_sorted : mg "sorted" = none
  m_tuple : mg "tuple" = none
  t_TOP : Tok
  c_TOP : mg "TOP" = some (.int 0 t_TOP)
/-! ### short readings -/
theorem isi {K : PySem.W.Frag} {H : Hp} {x : V} {t n : String} {b : Bool} {Q : VK} (ty : TyX K H x (.type t)) (e : kitB t n = some b) (q : Q (.bl b) H) : rIsi K [x, .ty n] H Q := ⟨x, .ty n, .type t, .type n, b, rfl, .ty n, ty, kit_ty e, q⟩
theorem kbb : kitB "bool" "bool" = some true := by decide +kernel
theorem kbi : kitB "bool" "int" = some true := by decide +kernel
theorem kii : kitB "int" "int" = some true := by decide +kernel
theorem kib : kitB "int" "bool" = some false := by decide +kernel
theorem kll : kitB "list" "list" = some true := by decide +kernel
theorem ktt : kitB "tuple" "tuple" = some true := by decide +kernel
theorem kdd : kitB "dict" "dict" = some true := by decide +kernel
theorem kss : kitB "str" "str" = some true := by decide +kernel
theorem same_upd {H : Hp} {p : Addr} {o : HO} (h : H p = none) : Same H (upd H p o) := fun b x e => by
  rw [upd_ne (ne_of_none e h)]
  exact e
/-- a change at an object that is new since H -/
theorem same_set {H H' : Hp} {p : Addr} {o : HO} (s : Same H H') (h : H p = none) : Same H (upd H' p o) := fun b x e => by
  rw [upd_ne (ne_of_none e h)]
  exact s b x e
theorem same_seqT {K : PySem.W.Frag} {H H' : Hp} {a : Addr} {xs : List V} (e : Same H H') (h : SqT K H a xs) : SqT K H' a xs := by
  rcases h with (h | ⟨o, h⟩) | h
  · exact .inl (.inl (e _ _ h))
  · exact .inl (.inr ⟨o, e _ _ h⟩)
  · exact .inr h
theorem p60 : (10 : Int) ^ (Int.toNat 60) = 1000000000000000000000000000000000000000000000000000000000000 := by decide +kernel
theorem ite_ne {x y : V} {A B : Prop} (e : x = y) (h : B) : if (!decide (x = y)) = true then A else B := by
  rw [decide_eq_true e]
  exact iteF h
theorem ite_eq {x y : V} {A B : Prop} (e : x = y) (h : A) : if decide (x = y) = true then A else B := by
  rw [decide_eq_true e]
  exact iteT h
local macro_rules | `(tactic| walk_at "rd1") => `(tactic| first
  | refine ⟨_, rfl, ?_⟩
  | refine ⟨_, _, rfl, rfl, ?_⟩
  | refine ⟨rfl, ?_⟩
  | refine ⟨_, _, rfl, ?_⟩
  | refine ⟨⟨_, rfl⟩, ?_⟩
  | refine ⟨(by first | decide | omega : (_ : Int) < _), ?_⟩
  | refine ⟨(by first | decide | omega : (_ : Int) ≤ _), ?_⟩
  | refine ⟨(by first | exact Nat.le_of_ble_eq_true rfl | decide | omega : (_ : Nat) ≤ _), ?_⟩
  | refine ⟨(by first | exact ⟨by decide, by decide⟩ | exact ⟨by omega, by omega⟩ : CDiv _ _), ?_⟩
  | refine ⟨(by first | exact .inr ⟨by decide, by decide⟩ | exact .inl ⟨by decide, by decide⟩ | exact .inr ⟨by omega, by omega⟩ | exact .inl ⟨by omega, by omega⟩ : CMul _ _), ?_⟩
  | refine ⟨(by exact ⟨by decide, by decide, by decide⟩ : CPow _ _), ?_⟩
  | refine ⟨(by assumption : (_ : Prop)), ?_⟩
  | refine ⟨_, _, _, rfl, by assumption, by first | decide | omega, ?_⟩
  | refine ⟨_, _, rfl, by assumption, ?_⟩
  | refine ⟨_, _, _, _, _, rfl, .ty _, .base (.int _), kit_ty kii, ?_⟩
  | refine ⟨_, _, _, _, _, rfl, .ty _, .base (.int _), kit_ty kib, ?_⟩
  | refine ⟨_, _, _, _, _, rfl, .ty _, .base (.bl _), kit_ty kbb, ?_⟩
  | refine ⟨_, _, _, _, _, rfl, .ty _, .base (.bl _), kit_ty kbi, ?_⟩
  | refine ⟨_, _, _, _, _, rfl, .ty _, .base (.str _), kit_ty kss, ?_⟩
  | refine ⟨_, _, _, _, _, rfl, .ty _, .base (.lst (by assumption)), kit_ty kll, ?_⟩
  | refine ⟨_, _, _, _, _, rfl, .ty _, .base (.tup (by assumption)), kit_ty ktt, ?_⟩
  | refine ⟨_, _, _, _, _, rfl, .ty _, .base (.dK (by assumption)), kit_ty kdd, ?_⟩
  | refine ⟨_, _, _, _, rfl, rfl, by assumption, by first | exact atI_nat (j := 0) rfl | exact atI_nat (j := 1) rfl | exact atI_nat (j := 2) rfl | exact atI_nat (j := 3) rfl, ?_⟩
  | refine ⟨_, _, _, _, rfl, rfl, by assumption, by assumption, ?_⟩
  | refine ⟨_, _, _, rfl, ?_⟩
  | (with_reducible show @ite Prop _ _ _ _; first | refine iteF ?_ | refine iteT ?_ | refine ite_ne rfl ?_ | refine ite_eq rfl ?_))
local macro_rules | `(tactic| walk_at "nm") => `(tactic| try dsimp only [List.set_cons_zero, List.set_cons_succ])
local macro_rules | `(tactic| walk_at "rd") => `(tactic| ((repeat (walk_at "rd1")); walk_at "nm"))
local macro_rules | `(tactic| walk_at "rq") => `(tactic| repeat (walk_at "rd1"))
/-! ### trees of numbers -/
def kvT (t : List (Int × Int)) : List (Key × V) := t.map fun p => (Sum.inl p.1, V.int p.2)
def look (t : List (Int × Int)) (k : Int) : Option Int := (t.find? fun p => decide (p.1 = k)).map (·.2)
def putT (t : List (Int × Int)) (k v : Int) : List (Int × Int) :=
  if (t.any fun p => decide (p.1 = k)) = true then t.map (fun p => if p.1 = k then (p.1, v) else p) else t ++ [(k, v)]
theorem look_nil (k : Int) : look [] k = none := rfl
theorem look_cons (p : Int × Int) (t : List (Int × Int)) (k : Int) : look (p :: t) k = if p.1 = k then some p.2 else look t k := by
  unfold look
  rw [List.find?_cons]
  by_cases h : p.1 = k
  · rw [decide_eq_true h, if_pos h]
    rfl
  · rw [decide_eq_false h, if_neg h]
theorem kvT_length (t : List (Int × Int)) : (kvT t).length = t.length := List.length_map ..
theorem valV_kvT (k : Int) : ∀ t : List (Int × Int), valV (kvT t) (Sum.inl k : Key) = (look t k).map V.int
  | [] => rfl
  | p :: t => by
    rw [look_cons]
    by_cases h : p.1 = k
    · rw [if_pos h]
      exact valV_pos (p := ((Sum.inl p.1 : Key), V.int p.2)) (congrArg Sum.inl h)
    · rw [if_neg h, ← valV_kvT k t]
      exact valV_neg (p := ((Sum.inl p.1 : Key), V.int p.2)) (fun z => h (Sum.inl.inj z))
theorem any_kvT (k : Int) (t : List (Int × Int)) : ((kvT t).any fun kv => decide (kv.1 = (Sum.inl k : Key))) = t.any fun p => decide (p.1 = k) := by
  induction t with
  | nil => rfl
  | cons p t ih =>
    show (decide ((Sum.inl p.1 : Key) = Sum.inl k) || (kvT t).any fun kv => decide (kv.1 = (Sum.inl k : Key))) = (decide (p.1 = k) || t.any fun p => decide (p.1 = k))
    rw [ih]
    by_cases h : p.1 = k
    · rw [decide_eq_true h, decide_eq_true (congrArg Sum.inl h)]
    · rw [decide_eq_false h, decide_eq_false (fun z => h (Sum.inl.inj z))]
theorem putK_kvT (t : List (Int × Int)) (k v : Int) : putK (kvT t) (Sum.inl k : Key) (V.int v) = kvT (putT t k v) := by
  unfold putK putT
  rw [any_kvT]
  by_cases h : (t.any fun p => decide (p.1 = k)) = true
  · rw [if_pos h, if_pos h]
    unfold kvT
    rw [List.map_map, List.map_map]
    refine List.map_congr_left fun p _ => ?_
    show (if (Sum.inl p.1 : Key) = Sum.inl k then ((Sum.inl p.1 : Key), V.int v) else ((Sum.inl p.1 : Key), V.int p.2)) = (Sum.inl (if p.1 = k then (p.1, v) else p).1, V.int (if p.1 = k then (p.1, v) else p).2)
    by_cases e : p.1 = k
    · rw [if_pos (congrArg Sum.inl e), if_pos e]
    · rw [if_neg (fun z => e (Sum.inl.inj z)), if_neg e]
  · rw [if_neg h, if_neg h]
    unfold kvT
    rw [List.map_append]
    rfl
theorem look_any (k : Int) : ∀ t : List (Int × Int), (t.any fun p => decide (p.1 = k)) = (look t k).isSome
  | [] => rfl
  | p :: t => by
    show (decide (p.1 = k) || t.any fun p => decide (p.1 = k)) = _
    rw [look_any k t, look_cons]
    by_cases h : p.1 = k
    · rw [decide_eq_true h, if_pos h]
      rfl
    · rw [decide_eq_false h, if_neg h, Bool.false_or]
theorem look_map (k j v : Int) : ∀ t : List (Int × Int), look (t.map fun p => if p.1 = k then (p.1, v) else p) j = (look t j).map fun x => if j = k then v else x
  | [] => rfl
  | p :: t => by
    rw [List.map_cons, look_cons, look_cons, look_map k j v t]
    by_cases h : p.1 = k
    · rw [if_pos h]
      by_cases e : p.1 = j
      · rw [if_pos e, if_pos e, Option.map_some, if_pos (e.symm.trans h)]
      · rw [if_neg e, if_neg e]
    · rw [if_neg h]
      by_cases e : p.1 = j
      · rw [if_pos e, if_pos e, Option.map_some, if_neg (fun z => h (e.trans z))]
      · rw [if_neg e, if_neg e]
theorem look_snoc (k j v : Int) : ∀ t : List (Int × Int), look t k = none → look (t ++ [(k, v)]) j = if j = k then some v else look t j
  | [], _ => by
    show look [(k, v)] j = _
    rw [look_cons, look_nil]
    by_cases e : k = j
    · rw [if_pos e, if_pos e.symm]
    · rw [if_neg e, if_neg (fun z => e z.symm)]
  | p :: t, h => by
    rw [look_cons] at h
    by_cases h1 : p.1 = k
    · rw [if_pos h1] at h
      cases h
    · rw [if_neg h1] at h
      rw [List.cons_append, look_cons, look_cons, look_snoc k j v t h]
      by_cases e : p.1 = j
      · rw [if_pos e, if_pos e, if_neg (fun z => h1 (e.trans z))]
      · rw [if_neg e, if_neg e]
theorem look_putT (t : List (Int × Int)) (k j v : Int) : look (putT t k v) j = if j = k then some v else look t j := by
  unfold putT
  by_cases h : (t.any fun p => decide (p.1 = k)) = true
  · rw [if_pos h, look_map]
    by_cases e : j = k
    · subst e
      rw [look_any] at h
      cases q : look t j with
      | none =>
        rw [q] at h
        cases h
      | some x =>
        rw [Option.map_some, if_pos rfl, if_pos rfl]
    · rw [if_neg e]
      cases look t j with
      | none => rfl
      | some x => rw [Option.map_some, if_neg e]
  · rw [if_neg h]
    refine look_snoc k j v t ?_
    rw [look_any] at h
    cases q : look t k with
    | none => rfl
    | some x =>
      rw [q] at h
      exact absurd rfl h
theorem keys_putT (t : List (Int × Int)) (k v : Int) : (putT t k v).map (·.1) = if (look t k).isSome = true then t.map (·.1) else t.map (·.1) ++ [k] := by
  unfold putT
  rw [look_any]
  by_cases h : (look t k).isSome = true
  · rw [if_pos h, if_pos h, List.map_map]
    refine List.map_congr_left fun p _ => ?_
    show (if p.1 = k then (p.1, v) else p).1 = p.1
    by_cases e : p.1 = k
    · rw [if_pos e]
    · rw [if_neg e]
  · rw [if_neg h, if_neg h, List.map_append]
    rfl
theorem look_mem {t : List (Int × Int)} {k v : Int} (h : look t k = some v) : (k, v) ∈ t := by
  induction t with
  | nil => cases h
  | cons p t ih =>
    rw [look_cons] at h
    by_cases e : p.1 = k
    · rw [if_pos e] at h
      cases h
      subst e
      exact List.mem_cons_self ..
    · rw [if_neg e] at h
      exact List.mem_cons_of_mem _ (ih h)
theorem mem_look {t : List (Int × Int)} {k v : Int} (hn : (t.map (·.1)).Nodup) (h : (k, v) ∈ t) : look t k = some v := by
  induction t with
  | nil => cases h
  | cons p t ih =>
    rw [look_cons]
    rw [List.map_cons, List.nodup_cons] at hn
    rcases List.mem_cons.mp h with e | e
    · subst e
      rw [if_pos rfl]
    · by_cases c : p.1 = k
      · exact absurd (List.mem_map.mpr ⟨(k, v), e, c.symm⟩) hn.1
      · rw [if_neg c]
        exact ih hn.2 e
theorem look_keys {t : List (Int × Int)} {k : Int} : k ∈ t.map (·.1) ↔ (look t k).isSome = true := by
  rw [← look_any, List.any_eq_true, List.mem_map]
  constructor
  · rintro ⟨p, hp, e⟩
    exact ⟨p, hp, decide_eq_true e⟩
  · rintro ⟨p, hp, e⟩
    exact ⟨p, hp, of_decide_eq_true e⟩
theorem nd_putT {t : List (Int × Int)} (k v : Int) (hn : (t.map (·.1)).Nodup) : ((putT t k v).map (·.1)).Nodup := by
  rw [keys_putT]
  by_cases h : (look t k).isSome = true
  · rw [if_pos h]
    exact hn
  · rw [if_neg h]
    refine List.nodup_append.mpr ⟨hn, List.nodup_cons.mpr ⟨fun z => (nomatch z), List.nodup_nil⟩, fun a ha b hb => ?_⟩
    rw [List.mem_singleton.mp hb]
    intro e
    subst e
    exact h (look_keys.mp ha)
theorem putT_length (t : List (Int × Int)) (k v : Int) : (putT t k v).length ≤ t.length + 1 := by
  unfold putT
  by_cases h : (t.any fun p => decide (p.1 = k)) = true
  · rw [if_pos h, List.length_map]
    omega
  · rw [if_neg h, List.length_append]
    exact Nat.le_refl _
/-- the way up -/
inductive Way (t : List (Int × Int)) : Int → List Int → Prop where
  | stop {f : Int} (h : look t f = none) : Way t f [f]
  | step {f u : Int} {l : List Int} (h : look t f = some u) (w : Way t u l) : Way t f (f :: l)
theorem Way.head {t : List (Int × Int)} {f : Int} {l : List Int} (w : Way t f l) : ∃ r, l = f :: r := by
  cases w with
  | stop h => exact ⟨_, rfl⟩
  | step h w => exact ⟨_, rfl⟩
theorem Way.det {t : List (Int × Int)} {f : Int} {l l' : List Int} (w : Way t f l) (w' : Way t f l') : l = l' := by
  induction w generalizing l' with
  | stop h =>
    cases w' with
    | stop _ => rfl
    | step h' _ =>
      rw [h] at h'
      cases h'
  | step h _ ih =>
    cases w' with
    | stop h' =>
      rw [h] at h'
      cases h'
    | step h' w' =>
      rw [h] at h'
      cases h'
      rw [ih w']
/-! ### trees that come of moves -/
structure Mv where
  t : Int
  h : Int
  f : Int
  u : Int
deriving DecidableEq
def upN (t : List (Int × Int)) : Nat → Int → List Int
  | 0, x => [x]
  | n + 1, x => match look t x with
    | none => [x]
    | some u => x :: upN t n u
/-- the way up, of a tree without a ring -/
def wayOf (t : List (Int × Int)) (x : Int) : List Int := upN t t.length x
theorem upN_of {t : List (Int × Int)} {x : Int} {l : List Int} (w : Way t x l) : ∀ {n : Nat}, l.length ≤ n + 1 → upN t n x = l := by
  induction w with
  | @stop f h =>
    intro n _
    cases n with
    | zero => rfl
    | succ n => rw [upN, h]
  | @step f u l h w ih =>
    intro n hl
    cases n with
    | zero =>
      obtain ⟨r, rfl⟩ := w.head
      simp at hl
    | succ n =>
      rw [upN, h]
      show f :: upN t n u = f :: l
      rw [ih (by rw [List.length_cons] at hl; omega)]
theorem Way.suffix {t : List (Int × Int)} {x y : Int} {l : List Int} (w : Way t x l) (h : y ∈ l) : ∃ l2, Way t y l2 ∧ l2.length ≤ l.length := by
  induction w with
  | stop e =>
    rw [List.mem_singleton.mp h]
    exact ⟨_, .stop e, Nat.le_refl _⟩
  | @step f u r e w ih =>
    rcases List.mem_cons.mp h with rfl | h
    · exact ⟨_, .step e w, Nat.le_refl _⟩
    · obtain ⟨l2, w2, hl⟩ := ih h
      exact ⟨l2, w2, Nat.le_succ_of_le hl⟩
theorem Way.nodup {t : List (Int × Int)} {x : Int} {l : List Int} (w : Way t x l) : l.Nodup := by
  induction w with
  | stop e => exact List.nodup_cons.mpr ⟨fun z => (nomatch z), List.nodup_nil⟩
  | @step f u r e w ih =>
    refine List.nodup_cons.mpr ⟨fun hf => ?_, ih⟩
    obtain ⟨l2, w2, hl⟩ := w.suffix hf
    have := (Way.step e w).det w2
    rw [← this, List.length_cons] at hl
    omega
theorem Way.keys {t : List (Int × Int)} {x : Int} {l : List Int} (w : Way t x l) : l.dropLast ⊆ t.map (·.1) := by
  induction w with
  | stop e => exact fun y hy => nomatch hy
  | @step f u r e w ih =>
    obtain ⟨r2, rfl⟩ := w.head
    intro y hy
    rw [List.dropLast_cons₂] at hy
    rcases List.mem_cons.mp hy with rfl | hy
    · exact look_keys.mpr (by rw [e]; rfl)
    · exact ih hy
theorem Way.small {t : List (Int × Int)} {x : Int} {l : List Int} (w : Way t x l) : l.length ≤ t.length + 1 := by
  have nd : l.dropLast.Nodup := List.Sublist.nodup (List.dropLast_sublist l) w.nodup
  have := List.Nodup.length_le_of_subset nd w.keys
  rw [List.length_dropLast, List.length_map] at this
  omega
theorem Way.eq {t : List (Int × Int)} {x : Int} {l : List Int} (w : Way t x l) : wayOf t x = l := upN_of w w.small
/-- a tree: no folder told twice, no ring -/
structure Fine (t : List (Int × Int)) : Prop where
  nd : (t.map (·.1)).Nodup
  way : ∀ x, Way t x (wayOf t x)
theorem Fine.of {t : List (Int × Int)} (nd : (t.map (·.1)).Nodup) (h : ∀ x, ∃ l, Way t x l) : Fine t := ⟨nd, fun x => by
  obtain ⟨l, w⟩ := h x
  rw [w.eq]
  exact w⟩
theorem Fine.nil : Fine [] := .of List.nodup_nil fun x => ⟨[x], .stop rfl⟩
theorem Fine.small {t : List (Int × Int)} (F : Fine t) (x : Int) : (wayOf t x).length ≤ t.length + 1 := (F.way x).small
theorem Way.avoid {t : List (Int × Int)} {f u x : Int} {l : List Int} (w : Way t x l) (h : f ∉ l) : Way (putT t f u) x l := by
  induction w with
  | @stop y e =>
    refine .stop ?_
    rw [look_putT, if_neg (fun z : y = f => h (z ▸ List.mem_singleton.mpr rfl))]
    exact e
  | @step y v r e w ih =>
    refine .step ?_ (ih fun z => h (List.mem_cons_of_mem _ z))
    rw [look_putT, if_neg (fun z : y = f => h (z ▸ List.mem_cons_self ..))]
    exact e
theorem Fine.put {t : List (Int × Int)} {f u : Int} (F : Fine t) (h : f ∉ wayOf t u) : Fine (putT t f u) := by
  refine .of (nd_putT f u F.nd) fun x => ?_
  have wf : Way (putT t f u) f (f :: wayOf t u) := .step (by rw [look_putT, if_pos rfl]) ((F.way u).avoid h)
  have w := F.way x
  revert w
  generalize wayOf t x = l
  intro w
  induction w with
  | @stop y e =>
    by_cases c : y = f
    · rw [c]
      exact ⟨_, wf⟩
    · refine ⟨[y], .stop ?_⟩
      rw [look_putT, if_neg c]
      exact e
  | @step y v r e w ih =>
    by_cases c : y = f
    · rw [c]
      exact ⟨_, wf⟩
    · obtain ⟨l2, w2⟩ := ih
      refine ⟨y :: l2, .step ?_ w2⟩
      rw [look_putT, if_neg c]
      exact e
def stepT (t : List (Int × Int)) (m : Mv) : List (Int × Int) := if m.f ∈ wayOf t m.u then t else putT t m.f m.u
/-- the part of a list up to the first y -/
def upTo (y : Int) : List Int → List Int
  | [] => []
  | x :: r => if x = y then [x] else x :: upTo y r
def stepW (t : List (Int × Int)) (m : Mv) : List Int := if m.f ∈ wayOf t m.u then upTo m.f (wayOf t m.u) else []
def foldT (t : List (Int × Int)) (ms : List Mv) : List (Int × Int) := ms.foldl stepT t
def stepsT (t : List (Int × Int)) : List Mv → List (List Int)
  | [] => []
  | m :: r => stepW t m :: stepsT (stepT t m) r
theorem Fine.step {t : List (Int × Int)} (F : Fine t) (m : Mv) : Fine (stepT t m) := by
  unfold stepT
  by_cases h : m.f ∈ wayOf t m.u
  · rw [if_pos h]
    exact F
  · rw [if_neg h]
    exact F.put h
theorem Fine.fold {ms : List Mv} : ∀ {t : List (Int × Int)}, Fine t → Fine (foldT t ms) := by
  induction ms with
  | nil => exact fun F => F
  | cons m r ih => exact fun F => ih (F.step m)
theorem stepT_length (t : List (Int × Int)) (m : Mv) : (stepT t m).length ≤ t.length + 1 := by
  unfold stepT
  by_cases h : m.f ∈ wayOf t m.u
  · rw [if_pos h]
    exact Nat.le_succ _
  · rw [if_neg h]
    exact putT_length ..
theorem foldT_length {ms : List Mv} : ∀ {t : List (Int × Int)}, (foldT t ms).length ≤ t.length + ms.length := by
  induction ms with
  | nil => exact fun {t} => Nat.le_refl _
  | cons m r ih =>
    intro t
    have h1 := @ih (stepT t m)
    have h2 := stepT_length t m
    show (foldT (stepT t m) r).length ≤ t.length + (r.length + 1)
    omega
theorem foldT_append (t : List (Int × Int)) (ms ns : List Mv) : foldT t (ms ++ ns) = foldT (foldT t ms) ns := List.foldl_append ..
theorem stepsT_append (ms ns : List Mv) : ∀ t, stepsT t (ms ++ ns) = stepsT t ms ++ stepsT (foldT t ms) ns := by
  induction ms with
  | nil => exact fun t => rfl
  | cons m r ih => exact fun t => congrArg _ (ih (stepT t m))
theorem stepsT_length (ms : List Mv) : ∀ t, (stepsT t ms).length = ms.length := by
  induction ms with
  | nil => exact fun t => rfl
  | cons m r ih => exact fun t => congrArg (· + 1) (ih (stepT t m))
/-! ### the told order -/
def Ahead (x y : Mv) : Prop := x.t < y.t ∨ (x.t = y.t ∧ x.h < y.h)
instance (x y : Mv) : Decidable (Ahead x y) := inferInstanceAs (Decidable (_ ∨ _))
def SameKey (x y : Mv) : Prop := x.t = y.t ∧ x.h = y.h
instance (x y : Mv) : Decidable (SameKey x y) := inferInstanceAs (Decidable (_ ∧ _))
theorem Ahead.not {x y : Mv} (h : Ahead x y) : ¬ Ahead y x := by
  unfold Ahead at *
  omega
theorem Ahead.trans {x y z : Mv} (h : Ahead x y) (g : Ahead y z) : Ahead x z := by
  unfold Ahead at *
  omega
def Rising {α : Type} (k : α → Mv) (l : List α) : Prop := l.Pairwise fun x y => Ahead (k x) (k y)
/-- put into a list in the told order -/
def insM {α : Type} (k : α → Mv) (l : List α) (m : α) : List α := l.takeWhile (fun x => decide (Ahead (k x) (k m))) ++ m :: l.dropWhile (fun x => decide (Ahead (k x) (k m)))
theorem insM_perm {α : Type} (k : α → Mv) (l : List α) (m : α) : (insM k l m).Perm (m :: l) := by
  unfold insM
  refine List.perm_middle.trans (List.Perm.cons _ ?_)
  rw [List.takeWhile_append_dropWhile]
theorem insM_length {α : Type} (k : α → Mv) (l : List α) (m : α) : (insM k l m).length = l.length + 1 := (insM_perm k l m).length_eq
theorem all_taken {α : Type} {p : α → Bool} {x : α} : ∀ {l : List α}, x ∈ l.takeWhile p → p x = true
  | [], h => nomatch h
  | y :: l, h => by
    rw [List.takeWhile_cons] at h
    cases e : p y with
    | false =>
      rw [e] at h
      exact nomatch h
    | true =>
      rw [e] at h
      rcases List.mem_cons.mp h with rfl | h
      · exact e
      · exact all_taken h
theorem Rising.insM {α : Type} {k : α → Mv} {l : List α} {m : α} (r : Rising k l) (h : ∀ x ∈ l, ¬ SameKey (k x) (k m)) : Rising k (insM k l m) := by
  unfold Tm.insM Rising at *
  have hsplit : l.takeWhile (fun x => decide (Ahead (k x) (k m))) ++ l.dropWhile (fun x => decide (Ahead (k x) (k m))) = l := List.takeWhile_append_dropWhile
  have r2 := r
  rw [← hsplit, List.pairwise_append] at r2
  obtain ⟨r3, r4, r5⟩ := r2
  have hd : ∀ y ∈ l.dropWhile (fun x => decide (Ahead (k x) (k m))), Ahead (k m) (k y) := by
    cases e : l.dropWhile (fun x => decide (Ahead (k x) (k m))) with
    | nil => exact fun y hy => nomatch hy
    | cons z zs =>
      have hz : ¬ Ahead (k z) (k m) := by
        have := List.head?_dropWhile_not (fun x => decide (Ahead (k x) (k m))) l
        rw [e] at this
        simpa using this
      have hl : z ∈ l := by
        rw [← hsplit, e]
        exact List.mem_append_right _ (List.mem_cons_self ..)
      have a1 : Ahead (k m) (k z) := by
        have := h z hl
        unfold Ahead SameKey at *
        omega
      rw [e] at r4
      intro y hy
      rcases List.mem_cons.mp hy with rfl | hy
      · exact a1
      · exact a1.trans ((List.pairwise_cons.mp r4).1 y hy)
  have ht : ∀ y ∈ l.takeWhile (fun x => decide (Ahead (k x) (k m))), Ahead (k y) (k m) := fun y hy => of_decide_eq_true (all_taken (p := fun x => decide (Ahead (k x) (k m))) hy)
  refine List.pairwise_append.mpr ⟨r3, List.pairwise_cons.mpr ⟨hd, r4⟩, fun a ha b hb => ?_⟩
  rcases List.mem_cons.mp hb with rfl | hb
  · exact ht a ha
  · exact r5 a ha b hb
theorem Rising.uniq {α : Type} {k : α → Mv} {l m : List α} (r : Rising k l) (s : Rising k m) (p : l.Perm m) : l = m :=
  List.Perm.eq_of_pairwise (le := fun x y => Ahead (k x) (k y)) (fun a b _ _ h1 h2 => (h1.not h2).elim) r s p
theorem Rising.map {α β : Type} {k : β → Mv} {f : α → β} {l : List α} (r : Rising (k ∘ f) l) : Rising k (l.map f) := List.pairwise_map.mpr r
theorem insM_map {α β : Type} (k : β → Mv) (f : α → β) (l : List α) (m : α) : (insM (k ∘ f) l m).map f = insM k (l.map f) (f m) := by
  unfold insM
  rw [List.map_append, List.map_cons, List.takeWhile_map, List.dropWhile_map]
  rfl
theorem upTo_at {f : Int} : ∀ {l : List Int}, f ∈ l → ∃ j : Nat, j < l.length ∧ l[j]? = some f ∧ (∀ m, m < j → l[m]? ≠ some f) ∧ upTo f l = l.take (j + 1)
  | [], h => nomatch h
  | x :: r, h => by
    by_cases c : x = f
    · subst c
      exact ⟨0, Nat.zero_lt_succ _, rfl, (fun m hm => nomatch hm), by rw [upTo, if_pos rfl]; rfl⟩
    · rcases List.mem_cons.mp h with e | h
      · exact absurd e.symm c
      · obtain ⟨j, h1, h2, h3, h4⟩ := upTo_at h
        refine ⟨j + 1, Nat.succ_lt_succ h1, h2, fun m hm => ?_, by rw [upTo, if_neg c, h4]; rfl⟩
        cases m with
        | zero => exact fun e => c (Option.some.inj e)
        | succ m => exact h3 m (by omega)
theorem upTo_sub {f : Int} {l : List Int} (h : f ∈ l) : (upTo f l).length ≤ l.length := by
  obtain ⟨j, h1, _, _, h4⟩ := upTo_at h
  rw [h4, List.length_take]
  omega
theorem Rising.keys {α : Type} {k : α → Mv} {l : List α} (r : Rising k l) : l.Pairwise fun x y => ¬ SameKey (k x) (k y) := r.imp fun {x y} h e => by
  have h : (k x).t < (k y).t ∨ ((k x).t = (k y).t ∧ (k x).h < (k y).h) := h
  have e1 := e.1
  have e2 := e.2
  omega
theorem stepW_small {t : List (Int × Int)} (F : Fine t) (m : Mv) : (stepW t m).length ≤ t.length + 1 := by
  unfold stepW
  split
  · rename_i c
    exact Nat.le_trans (upTo_sub c) (F.small _)
  · exact Nat.zero_le _
theorem stepsT_small {ms : List Mv} : ∀ {t : List (Int × Int)}, Fine t → ∀ w ∈ stepsT t ms, w.length ≤ t.length + ms.length + 1 := by
  induction ms with
  | nil => exact fun _ w hw => nomatch hw
  | cons m r ih =>
    intro t F w hw
    rcases List.mem_cons.mp hw with rfl | hw
    · have := stepW_small F m
      rw [List.length_cons]
      omega
    · have h1 := ih (F.step m) w hw
      have h2 := stepT_length t m
      rw [List.length_cons]
      omega
/-! ### moves and lists of them as data -/
def intD (l : List Int) : List PyData := l.map PyData.int
def mvD (m : Mv) : PyData := .tuple [.int m.t, .int m.h, .int m.f, .int m.u]
/-- data that can be compared: of a depth -/
def Flat (n : Nat) (d : PyData) : Prop := d.canLay0 = true ∧ d.depth ≤ n
theorem Flat.shaped {n : Nat} {d : PyData} (h : Flat n d) (hn : n ≤ 64) : SeqAt.shaped d = true := by
  unfold SeqAt.shaped
  rw [h.1, decide_eq_true (Nat.le_trans h.2 hn)]
  rfl
theorem Flat.all {n : Nat} {ds : List PyData} (h : ∀ d ∈ ds, Flat n d) : PyData.canLayAll0 ds = true ∧ PyData.depthAll ds ≤ n := by
  induction ds with
  | nil => exact ⟨rfl, by simp [PyData.depthAll]⟩
  | cons d ds ih =>
    obtain ⟨h1, h2⟩ := h d (List.mem_cons_self ..)
    obtain ⟨h3, h4⟩ := ih fun x hx => h x (List.mem_cons_of_mem _ hx)
    refine ⟨by rw [PyData.canLayAll0, h1, h3]; rfl, ?_⟩
    simp only [PyData.depthAll]
    omega
theorem Flat.list {n : Nat} {ds : List PyData} (h : ∀ d ∈ ds, Flat n d) : Flat (n + 1) (.list ds) := by
  obtain ⟨h1, h2⟩ := Flat.all h
  refine ⟨by simp only [PyData.canLay0]; exact h1, ?_⟩
  simp only [PyData.depth]
  omega
theorem Flat.tuple {n : Nat} {ds : List PyData} (h : ∀ d ∈ ds, Flat n d) : Flat (n + 1) (.tuple ds) := by
  obtain ⟨h1, h2⟩ := Flat.all h
  refine ⟨by simp only [PyData.canLay0]; exact h1, ?_⟩
  simp only [PyData.depth]
  omega
theorem Flat.int (i : Int) : Flat 1 (.int i) := ⟨by simp [PyData.canLay0], by simp [PyData.depth]⟩
theorem Flat.mono {n m : Nat} {d : PyData} (h : Flat n d) (e : n ≤ m) : Flat m d := ⟨h.1, Nat.le_trans h.2 e⟩
theorem Flat.intD (l : List Int) : ∀ d ∈ Tm.intD l, Flat 1 d := fun d hd => by
  obtain ⟨i, _, rfl⟩ := List.mem_map.mp hd
  exact .int i
theorem mvD_flat (m : Mv) : Flat 2 (mvD m) := .tuple (Flat.intD [m.t, m.h, m.f, m.u])
theorem mvsD_flat (ms : List Mv) : Flat 3 (.list (ms.map mvD)) := .list fun d hd => by
  obtain ⟨m, _, rfl⟩ := List.mem_map.mp hd
  exact mvD_flat m
theorem mvD_eqv (x y : Mv) : PyData.eqv (mvD x) (mvD y) = decide (x = y) := by
  cases x
  cases y
  simp only [mvD, PyData.eqv, PyData.eqvAll, Mv.mk.injEq, Bool.and_true]
  rw [Bool.eq_iff_iff]
  simp
theorem Flat.refl {n : Nat} {d : PyData} (h : Flat n d) : PyData.eqv d d = true := SeqAt.eqv_refl d h.1
/-! ### sorted of a dict's keys: ints falling; pairs of ints rising -/
section
variable {X : Cx}
/-- what is collected of a dict all of whose keys are ints -/
theorem got_ints {A : Around} {pins : List (Addr × Obj)} {σ : L2.St} {H : Hp} {s : Shared} {E : Value → Shared → Prop} {R : List Value → Shared → Prop} {a : Addr} {kvs : List (Key × V)} {ks : List Int}
    (hA : A.handled = none) (I : Inv X pins σ H s) (hd : Rd H a (.dK kvs)) (hks : kvs.map (·.1) = ks.map Sum.inl)
    (h : ∀ (g : Heap) (tk : Nat) (vs : List Value), (∀ b o, s.heap.get? b = some o → g.get? b = some o) → IntsAre vs ks → vs.length ≤ sizeLine → R vs { s with heap := g, toks := tk }) :
    wpAny (model X.prog X.w) A (collect (.ref a)) R E s := by
  obtain ⟨lz, ls, es, rel, dd⟩ := dk_rd I.hok hd
  obtain ⟨ep, at_⟩ := dd.dictAt
  have ek : es.map (·.1) = ks.map Sum.inl := rel.keys.symm.trans hks
  have el : es.length = ks.length := by simpa using congrArg List.length ek
  have ez : es.length ≤ sizeLine := by rw [← rel.length]; exact lz
  refine PySem.W.kdu_collect (PySem.W.kdl_dict (knd := mixKind X.prog X.w) (kvs := es) (ep := ep) ls) hA at_ ez fun g tk acc hk it => ?_
  have al : acc.toList.length = ks.length := (Array.length_toList ..).trans (it.1.trans el)
  refine h g tk acc.toList hk (ints_each al fun j v ej => ?_) (by rw [al, ← el]; exact ez)
  obtain ⟨k, x, h1, h2⟩ := it.2 j v (by rw [← Array.getElem?_toList]; exact ej)
  have h3 : (es.map (·.1))[j]? = some k := by rw [List.getElem?_map, h1]; rfl
  rw [ek, List.getElem?_map] at h3
  cases h4 : ks[j]? with
  | none =>
    rw [h4] at h3
    cases h3
  | some y =>
    rw [h4] at h3
    have h5 : Sum.inl y = k := Option.some.inj h3
    subst h5
    rcases keyIs_shape (show keyIs (Sum.inl y) v = true from h2) with ⟨i, t, e1, e2⟩ | ⟨z, t, e1, e2⟩
    · cases e1
      exact ⟨y, t, rfl, e2⟩
    · cases e1
def rSortedDR : List V → List V → Hp → VK → Prop := fun xs zs H Q => ∃ (a : Addr) (kvs : List (Key × V)) (ks : List Int), xs = [.ref a] ∧ zs = [.bl true] ∧ Rd H a (.dK kvs) ∧ kvs.map (·.1) = ks.map Sum.inl ∧
  ∀ (ys : List Int) (p : Addr), ys.Perm ks → ys.Pairwise (fun x y => y ≤ x) → H p = none → Q (.ref p) (upd H p (.lst (ys.map V.int)))
theorem cr_sortedDR (hcalm : X.calm = true) : CallRK X (.builtin "sorted") [Str.ofString "reverse"] rSortedDR := by
  intro pins s σ H xs zs us ws Q I rx rz q
  obtain ⟨a, kvs, ks, rfl, rfl, hd, hks, q⟩ := q
  obtain rfl := Vals.ref1 rx
  obtain ⟨w1, rfl, e1⟩ := vals1 rz
  obtain rfl : w1 = Value.bool true := e1
  refine call_function_entry_kw kind_sorted plain_sorted entry_sorted (args_sorted_rev _ _) ?_
  unfold Builtin.«sorted»
  refine wpAny_bind (m := checkCount "sorted" 1 1 _) (wpAny_pure ?_)
  refine wpAny_bind (got_ints (I.ok.hd hcalm) I hd hks fun g tk vs keep hi hz => ?_)
  refine wpAny_bind (wpAny_newList ?_ hz)
  have hL : (g.push (seqObj "list" vs.toArray 0)).get? g.objs.size = some (seqObj "list" vs.toArray 0) := Heap.get?_push_size _ rfl
  show wpAny _ _ _ _ _ { s with heap := g.push (seqObj "list" vs.toArray 0), toks := tk }
  refine wpAny_bind (wpAny_holding (wpAny_call_entry_kw slot_list_sort ⟨_, hL, rfl⟩ entry_list_sort ?_ (args_list_sort_rev _ _)))
  refine SrtR.list_sort_ordR (b := true) SrtO.swo_int hL hz (fun h2 => SrtO.ints_sortable hi h2) fun out o1 o2 => ⟨_, rfl, ?_⟩
  obtain ⟨ys, k1, k2, k3⟩ := SrtR.ints_outR (b := true) hi o1 o2
  have I1 : Inv X pins σ H { s with heap := g, toks := tk } := I.kept keep
  obtain ⟨ep, hat⟩ := sortedHeap_at (vs := vs) (out := if true = true then out.toArray.reverse else out.toArray) hL
  have e0 : ((if true = true then out.toArray.reverse else out.toArray).toList).toArray = (if true = true then out.toArray.reverse else out.toArray) := by rw [Array.toArray_toList]
  have hlen : (ys.map V.int).length ≤ sizeLine := by
    rw [List.length_map, k2.length_eq, ← hi.length]
    exact hz
  refine wpAny_pure ⟨_, rfl, .ref g.objs.size, upd H g.objs.size (.lst (ys.map V.int)), I1.laid (t' := tk) (fun b u e => ?_) (Nat.le_refl _) ⟨hlen, _, ep, vals_of_ints k1, by rw [e0]; exact hat⟩, rfl, q ys _ k2 k3 (I1.hok.fresh (Nat.le_refl _))⟩
  have hb : b < g.objs.size := Heap.lt_size e
  rw [sortedHeap_old (Nat.ne_of_lt hb) (by rw [size_push']; exact Nat.lt_succ_of_lt hb)]
  exact Heap.get?_push_of_some _ e
/-- the two ints of the tuple at an address -/
def pairAt (H : Hp) (t : Addr) : Int × Int := match H t with
  | some (.tup [.int i, .int j]) => (i, j)
  | _ => (0, 0)
def pairOf (H : Hp) (v : Value) : Int × Int := match v with
  | .ref t => pairAt H t
  | _ => (0, 0)
def key2 (p : Int × Int) : List Key := [Sum.inl p.1, Sum.inl p.2]
def Pair2 (H : Hp) (b : Addr) (p : Int × Int) : Prop := H b = some (.tup [.int p.1, .int p.2])
theorem pairAt_of {H : Hp} {b : Addr} {p : Int × Int} (h : Pair2 H b p) : pairAt H b = p := by
  unfold pairAt
  rw [show H b = some (.tup [.int p.1, .int p.2]) from h]
/-- what is collected of a dict all of whose keys are pairs of ints -/
theorem got_pairs {A : Around} {pins : List (Addr × Obj)} {σ : L2.St} {H : Hp} {s : Shared} {E : Value → Shared → Prop} {R : List Value → Shared → Prop} {a : Addr} {kvs : List (List Key × V)} {ks : List (Int × Int)}
    (hA : A.handled = none) (I : Inv X pins σ H s) (hd : Rd H a (.dT kvs)) (hks : kvs.map (·.1) = ks.map key2)
    (h : ∀ (g : Heap) (tk : Nat) (bs : List Addr), (∀ b o, s.heap.get? b = some o → g.get? b = some o) → bs.map (pairAt H) = ks → (∀ b ∈ bs, Pair2 H b (pairAt H b)) → bs.length ≤ sizeLine → R (bs.map Value.ref) { s with heap := g, toks := tk }) :
    wpAny (model X.prog X.w) A (collect (.ref a)) R E s := by
  obtain ⟨lz, ls, es, pr, o, en, ep, ho, hx, hdt, he, hn⟩ := (show ObjOk X.prog X.w H s.heap a (.dT kvs) from hd.ok I.hok)
  have l1 : en.size = es.length := by
    rw [← Array.length_toList, he, List.length_map]
  have l2 : kvs.length = es.length := Paired.length pr
  refine PySem.W.kdu_collect (kdl_raw ls hx hdt) hA ho (by omega) fun g tk acc hk it => ?_
  have al : acc.toList.length = es.length := (Array.length_toList ..).trans (it.1.trans l1)
  have ea : acc.toList = (es.map fun x => x.2.1).map Value.ref := by
    apply List.ext_getElem?
    intro j
    rw [List.map_map, List.getElem?_map]
    cases hj : acc.toList[j]? with
    | none =>
      have h1 := List.getElem?_eq_none_iff.mp hj
      rw [List.getElem?_eq_none (by omega)]
      rfl
    | some v =>
      obtain ⟨e, h2, h3⟩ := it.2 j v (by rw [← Array.getElem?_toList]; exact hj)
      have h4 : en.toList[j]? = some e := by rw [Array.getElem?_toList]; exact h2
      rw [he, List.getElem?_map] at h4
      cases hb : es[j]? with
      | none =>
        rw [hb] at h4
        cases h4
      | some b =>
        rw [hb] at h4
        have h5 : entryOfKey (tupleKind (mixKind X.prog X.w)) b = e := Option.some.inj h4
        rw [h3, ← h5]
        rfl
  have all : ∀ {l : List (List Key × V)} {m : List (List Key × Addr × Value)} {q : List (Int × Int)}, Paired (fun (p : List Key × V) (q : List Key × Addr × Value) => p.1 = q.1 ∧ H q.2.1 = some (.tup (p.1.map kV)) ∧ RelV p.2 q.2.2) l m → l.map (·.1) = q.map key2 →
      (m.map fun x => x.2.1).map (pairAt H) = q ∧ ∀ b ∈ m.map (fun x => x.2.1), Pair2 H b (pairAt H b) := by
    intro l m q r
    induction r generalizing q with
    | nil =>
      intro e
      cases q with
      | nil => exact ⟨rfl, fun b hb => nomatch hb⟩
      | cons => cases e
    | @cons x y xs ys hq _ ih =>
      intro e
      cases q with
      | nil => cases e
      | cons p q =>
        obtain ⟨e1, e2⟩ := List.cons.inj e
        obtain ⟨i1, i2⟩ := ih e2
        have hp : Pair2 H y.2.1 p := by
          have z := hq.2.1
          rw [show x.1 = key2 p from e1] at z
          exact z
        have ep : pairAt H y.2.1 = p := pairAt_of hp
        refine ⟨?_, fun b hb => ?_⟩
        · show pairAt H y.2.1 :: _ = _
          rw [ep]
          exact congrArg _ i1
        · rcases List.mem_cons.mp hb with rfl | hb
          · show Pair2 H y.2.1 (pairAt H y.2.1)
            rw [ep]
            exact hp
          · exact i2 b hb
  obtain ⟨a1, a2⟩ := all pr hks
  rw [ea]
  exact h g tk _ hk a1 a2 (by rw [List.length_map]; omega)
def rSortedDT : List V → Hp → VK → Prop := fun xs H Q => ∃ (a : Addr) (kvs : List (List Key × V)) (ks : List (Int × Int)), xs = [.ref a] ∧ Rd H a (.dT kvs) ∧ kvs.map (·.1) = ks.map key2 ∧
  ∀ (bs : List Addr) (ps : List (Int × Int)) (p : Addr), ps.Perm ks → ps.Pairwise (fun x y => SrtO.lexB y x = false) → Paired (Pair2 H) bs ps → H p = none → Q (.ref p) (upd H p (.lst (bs.map V.ref)))
theorem vals_refs' : ∀ bs : List Addr, Vals (bs.map V.ref) (bs.map Value.ref)
  | [] => .nil
  | _ :: r => .cons rfl (vals_refs' r)
theorem paired_at {H : Hp} : ∀ {bs : List Addr}, (∀ b ∈ bs, Pair2 H b (pairAt H b)) → Paired (Pair2 H) bs (bs.map (pairAt H))
  | [], _ => .nil
  | _ :: _, h => .cons (h _ (List.mem_cons_self ..)) (paired_at fun b hb => h b (List.mem_cons_of_mem _ hb))
theorem refs_of {vs : List Value} (h : ∀ v ∈ vs, ∃ b, v = Value.ref b) : ∃ bs : List Addr, vs = bs.map Value.ref := by
  induction vs with
  | nil => exact ⟨[], rfl⟩
  | cons v vs ih =>
    obtain ⟨b, rfl⟩ := h v (List.mem_cons_self ..)
    obtain ⟨bs, rfl⟩ := ih fun u hu => h u (List.mem_cons_of_mem _ hu)
    exact ⟨b :: bs, rfl⟩
def addrOf (v : Value) : Addr := match v with
  | .ref b => b
  | _ => 0
theorem addrOf_ref : addrOf ∘ Value.ref = id := funext fun _ => rfl
theorem cr_sortedDT (hcalm : X.calm = true) : CallR X (.builtin "sorted") rSortedDT := by
  intro pins s σ H xs us Q I rx q
  obtain ⟨a, kvs, ks, rfl, hd, hks, q⟩ := q
  obtain rfl := Vals.ref1 rx
  refine Calls.call_function_entry kind_sorted plain_sorted entry_sorted (args_sorted1 _) ?_
  unfold Builtin.«sorted»
  refine wpAny_bind (m := checkCount "sorted" 1 1 _) (wpAny_pure ?_)
  refine wpAny_bind (got_pairs (I.ok.hd hcalm) I hd hks fun g tk bs keep hb hp hz => ?_)
  have hz' : (bs.map Value.ref).length ≤ sizeLine := by rw [List.length_map]; exact hz
  refine wpAny_bind (wpAny_newList ?_ hz')
  have I1 : Inv X pins σ H { s with heap := g, toks := tk } := I.kept keep
  have hL : (g.push (seqObj "list" (bs.map Value.ref).toArray 0)).get? g.objs.size = some (seqObj "list" (bs.map Value.ref).toArray 0) := Heap.get?_push_size _ rfl
  show wpAny _ _ _ _ _ { s with heap := g.push (seqObj "list" (bs.map Value.ref).toArray 0), toks := tk }
  have isP : ∀ v ∈ bs.map Value.ref, Srt.IsPair (g.push (seqObj "list" (bs.map Value.ref).toArray 0)) v (pairOf H v).1 (pairOf H v).2 := by
    intro v hv
    obtain ⟨b, hb', rfl⟩ := List.mem_map.mp hv
    obtain ⟨_, its, r2, o, ho, hc, n, hdt⟩ := I1.hok _ _ (hp b hb')
    obtain ⟨u1, u2, rfl, ri, rj⟩ := vals2 r2
    obtain ⟨t1, rfl⟩ := ri
    obtain ⟨t2, rfl⟩ := rj
    exact ⟨b, o, t1, t2, n, rfl, Heap.get?_push_of_some _ ho, hc, hdt⟩
  refine wpAny_bind (wpAny_holding (wpAny_call_entry slot_list_sort ⟨_, hL, rfl⟩ entry_list_sort ?_ (args_list_sort _)))
  refine SrtO.list_sort_ord (SrtO.swo_lex (pairOf H)) hL hz' (fun h2 => SrtO.pairs_sortableO (by omega) isP fun o e => ?_) fun out o1 o2 => ⟨_, rfl, ?_⟩
  · have e' : some o = some (seqObj "list" (bs.map Value.ref).toArray 0) := e.symm.trans hL
    cases e'
    intro c
    exact absurd (Value.type.inj c) (by decide)
  · obtain ⟨ep, hat⟩ := sortedHeap_at (vs := bs.map Value.ref) (out := out.toArray) hL
    obtain ⟨cs, rfl⟩ := refs_of (vs := out) fun v hv => by
      obtain ⟨b, _, rfl⟩ := List.mem_map.mp (o2.perm.mem_iff.mp hv)
      exact ⟨b, rfl⟩
    have perm : cs.Perm bs := by
      have z := o2.perm.map addrOf
      rw [List.map_map, List.map_map, addrOf_ref, List.map_id, List.map_id] at z
      exact z
    have hlen : (cs.map V.ref).length ≤ sizeLine := by
      rw [List.length_map, perm.length_eq]
      exact hz
    have hpc : ∀ b ∈ cs, Pair2 H b (pairAt H b) := fun b hb => hp b (perm.mem_iff.mp hb)
    have srt : (cs.map (pairAt H)).Pairwise (fun x y => SrtO.lexB y x = false) := by
      have z := List.pairwise_map.mp o1
      exact List.pairwise_map.mpr z
    refine wpAny_pure ⟨_, rfl, .ref g.objs.size, upd H g.objs.size (.lst (cs.map V.ref)), I1.laid (t' := tk) (fun b u e => ?_) (Nat.le_refl _) ⟨hlen, _, ep, vals_refs' cs, hat⟩, rfl,
      q cs _ _ (by rw [← hb]; exact perm.map _) srt (paired_at hpc) (I1.hok.fresh (Nat.le_refl _))⟩
    have hb : b < g.objs.size := Heap.lt_size e
    rw [sortedHeap_old (Nat.ne_of_lt hb) (by rw [size_push']; exact Nat.lt_succ_of_lt hb)]
    exact Heap.get?_push_of_some _ e
end
/-! ### a dict made by a comprehension whose keys are tuples -/
section
variable {X : Cx}
/-- one store of such a comprehension -/
theorem put_into {pins : List (Addr × Obj)} {σ : L2.St} {H H' : Hp} {s : Shared} {E : Value → Shared → Prop} {D : Addr} {y v : V} {u r : Value} {Q : Unit → Shared → Prop} (hu : X.A.units + 1 < cLine)
    (I : Inv X pins σ H s) (g : DPut H D y v H') (ry : RelV y u) (rv : RelV v r) (h : ∀ z, Inv X pins σ H' z → Q () z) : wpAny (model X.prog X.w) X.A (dictSet D u r) Q E s := by
  rcases g with ⟨kvs, k, hD, rfl, hl, rfl⟩ | ⟨kvs, k, b, hD, rfl, hb, hl, rfl⟩
  · exact d_dictSet I hD hl ry rv h
  · obtain rfl : u = Value.ref b := ry
    obtain ⟨lz, ls, es, rel, dd⟩ := dt_of I.hok hD
    have ez : es.length ≤ sizeLine := (Paired.length rel) ▸ lz
    refine wpAny_dictSet_heap (hsz := ez) (show X.A.units < cLine by omega) (key_of I.hok hb) dd fun g d2 sb => h _ ?_
    obtain ⟨o, en, ep, ho, i1, i2, i3, _, i4⟩ := d2
    have hp : (putK kvs k v).length ≤ sizeLine := Nat.le_trans (length_putK kvs k v) hl
    refine d_write I (by rw [hD]; trivial) sb ⟨o, ho⟩ ⟨hp, ls, _, (rel.put k hb rv).keeps fun c ys ec => ?_, o, en, ep, ho, i1, i2, i3, i4⟩
    exact (upd_ne (ne_of ec hD fun z => nomatch z)).trans ec
def tDcT (wi : TI) (g : TG) (tt : TT) (tk tv : TE) (vs : List Nat) : TE := fun σ H Q => wi σ H fun J H1 => ∀ D, H1 D = none → ∃ W : Nat → Nat → Hp → Prop, (∃ m, W 0 m (upd H1 D (.dT []))) ∧ ∀ i m H, W i m H →
  (J.stop i H ∧ Q (.ref D) H) ∨ (J.go i H ∧ ∃ Nx : Hp → Prop, (∀ H', Nx H' → ∃ m', m' < m ∧ W (i + 1) m' H') ∧ ∀ x H', J.yld i H x H' → g x (wipe σ vs) H' fun σ2 H2 => wipe σ2 vs = wipe σ vs ∧ tt σ2 H2 fun b H3 =>
    if b = true then tk σ2 H3 fun y H4 => tv σ2 H4 fun z H5 => ∃ H6, DPut H5 D y z H6 ∧ Nx H6 else Nx H3)
theorem pe_dcT {kx vx tg iter : Expr} {ifs : List Expr} {scope : Scope} {own : List (Str × Nat)} {pos : Pos} {wi : TI} {g : TG} {tt : TT} {tk tv : TE} (calm : X.calm = true) (nd : X.N.Nodup) (src : PI X tg iter wi) (ok : BlkOk X.N X.env.scope scope own)
    (tgt : ∀ (s : Shared) (H : Hp) (C : Addr) (cl : List (Str × Addr)) (fp : List Addr), PG (X.blk s H scope (compEnvC scope cl C X.env) fp) tg g) (cond : ∀ (s : Shared) (H : Hp) (C : Addr) (cl : List (Str × Addr)) (fp : List Addr), PTs (X.blk s H scope (compEnvC scope cl C X.env) fp) ifs tt)
    (key : ∀ (s : Shared) (H : Hp) (C : Addr) (cl : List (Str × Addr)) (fp : List Addr), PE (X.blk s H scope (compEnvC scope cl C X.env) fp) kx tk)
    (val : ∀ (s : Shared) (H : Hp) (C : Addr) (cl : List (Str × Addr)) (fp : List Addr), PE (X.blk s H scope (compEnvC scope cl C X.env) fp) vx tv) (hu : X.A.units + 1 < cLine) (hs : ∀ x, foldedSetIterable iter X.env x = pure x := by intro _; rfl) :
    PE X (.DictComp kx vx [⟨tg, iter, ifs, 0⟩] scope pos) (tDcT wi g tt tk tv (own.map (·.2))) := by
  refine ⟨fun pins s σ H Q I want => ?_⟩
  rw [arm_eval_DictComp]
  have reach : ∀ y ∈ scope.names, y.2 = .free → ∃ c, X.env.cells.lookup y.1 = some c := fun y hy e => (ok.free y hy e).elim (fun k => I.ok.has _ (.inl k)) (fun k => I.ok.has _ (.inr k))
  refine wpAny_comprehension_free (use := none) rfl hs (closure_ok reach) ok.kind (fun y hy e => (ok.uniq y hy).trans (congrArg some e))
    (thn (src.run pins s σ H _ I want) fun _ sA hA => thn hA fun _ sB hB => ?_)
  obtain ⟨it, fp, tn, J, HB, rfl, IB, T, tB, fB, wantB⟩ := hB
  refine wpAny_newObj_type (newEnv_comp ?_)
  obtain ⟨D, eD⟩ : ∃ D, D = sB.heap.objs.size := ⟨_, rfl⟩
  obtain ⟨W, ⟨m0, w0⟩, step⟩ := wantB D (IB.hok.fresh (Nat.le_of_eq eD.symm))
  obtain ⟨sC, eC⟩ : ∃ sC : Shared, sC = { sB with heap := sB.heap.push { cls := .type "dict", data := .dict #[] } } := ⟨_, rfl⟩
  have hC : sC.heap = sB.heap.push { cls := .type "dict", data := .dict #[] } := congrArg Shared.heap eC
  obtain ⟨HC, eHC⟩ : ∃ HC, HC = upd HB D (.dT []) := ⟨_, rfl⟩
  have IC : Inv X pins σ HC sC := by
    rw [eC, eHC]
    refine IB.laid (t' := sB.toks) (fun b o e => Heap.get?_push_of_some _ e) (Nat.le_of_eq eD.symm) ?_
    rw [eD]
    exact dt_empty sB.heap IB.big
  have small : ∀ b ∈ fp, b < sB.heap.objs.size := fun b hb => (T.obj _ _ tB b hb).elim fun _ z => Heap.lt_size z.1
  have fC : ∀ b ∈ fp, FpOk X pins HC b ∧ b < sC.heap.objs.size := fun b hb => by
    have lt := small b hb
    refine ⟨⟨?_, (fB b hb).2⟩, ?_⟩
    · rw [eHC, upd_ne (eD ▸ Nat.ne_of_lt lt)]
      exact (fB b hb).1
    · rw [hC, Heap.size_push]
      exact Nat.lt_succ_of_lt lt
  have tC : tn 0 sC.heap := T.keep _ _ _ tB fun b _ o e => hC ▸ Heap.get?_push_of_some _ e
  have ID := block_start IC ok nd fC
  have none_fp : ∀ b ∈ fp, HC b = none := fun b hb => (fC b hb).1.1
  rw [← eD, ← eC]
  rw [← eHC] at w0
  show codeAny _ _ (.compStart (.DictComp kx vx [⟨tg, iter, ifs, 0⟩] scope pos) 0 (.ref it) (.ref D) (compEnvC scope (cellsFrom (sC.heap.objs.size + 1) scope.names (cloFrom X.env.cells scope.names [])) sC.heap.objs.size X.env)) _ { sC with heap := pushCells (sC.heap.push { cls := .type "dict", data := .dict #[] }) scope.names }
  have pT := tgt sC HC sC.heap.objs.size (cellsFrom (sC.heap.objs.size + 1) scope.names (cloFrom X.env.cells scope.names [])) fp
  have pC := cond sC HC sC.heap.objs.size (cellsFrom (sC.heap.objs.size + 1) scope.names (cloFrom X.env.cells scope.names [])) fp
  have pK := key sC HC sC.heap.objs.size (cellsFrom (sC.heap.objs.size + 1) scope.names (cloFrom X.env.cells scope.names [])) fp
  have pV := val sC HC sC.heap.objs.size (cellsFrom (sC.heap.objs.size + 1) scope.names (cloFrom X.env.cells scope.names [])) fp
  have loc : (compEnvC scope (cellsFrom (sC.heap.objs.size + 1) scope.names (cloFrom X.env.cells scope.names [])) sC.heap.objs.size X.env).locals = sC.heap.objs.size := rfl
  have tD : tn 0 ({ sC with heap := pushCells (sC.heap.push { cls := .type "dict", data := .dict #[] }) scope.names } : Shared).heap := T.keep _ _ _ tC fun b _ o e => pushCells_keeps _ _ _ _ (Heap.get?_push_of_some _ e)
  revert tD ID loc pT pC pK pV
  generalize compEnvC scope (cellsFrom (sC.heap.objs.size + 1) scope.names (cloFrom X.env.cells scope.names [])) sC.heap.objs.size X.env = ce
  generalize ({ sC with heap := pushCells (sC.heap.push { cls := .type "dict", data := .dict #[] }) scope.names } : Shared) = sD at *
  intro ID pT pC pK pV loc tD
  have free : ∀ {σ' : L2.St} {H' : Hp} {s' : Shared}, Inv (X.blk sC HC scope ce fp) [] σ' H' s' → (∀ b ∈ fp, H' b = none) → ∀ b ∈ fp, FpOk (X.blk sC HC scope ce fp) [] H' b := fun I' no b hb =>
    ⟨no b hb, (I'.ok.exf b hb).1, I'.ok.exfs b hb, .inl hb, (I'.ok.exf b hb).2, fun p hp => absurd hp (by rw [List.append_nil]; exact List.not_mem_nil)⟩
  have turns : codeAny (model X.prog X.w) X.A (.compLoop (.DictComp kx vx [⟨tg, iter, ifs, 0⟩] scope pos) 0 (.ref it) (.ref D) ce) (compPost (model X.prog X.w) X.A X.xe none (EP X pins σ Q) (.ref D) sC.heap.objs.size) sD := by
    refine compLoop_anyD (fun n z => ∃ i Hz, Inv (X.blk sC HC scope ce fp) [] (wipe σ (own.map (·.2))) Hz z ∧ tn i z.heap ∧ (∀ b ∈ fp, Hz b = none) ∧ W i n Hz) ?_ m0 ⟨0, HC, ID, tD, none_fp, w0⟩
    rintro n s1 ⟨i, H1, I1, t1, no1, w1⟩
    rcases step i n H1 w1 with ⟨stop, fine⟩ | ⟨go, Nx, less, body⟩
    · refine thnF (T.done (X.blk sC HC scope ce fp) rfl rfl rfl calm i [] s1 _ H1 (fun _ _ => False) I1 (free I1 no1) t1 stop) fun r s2 hr => ?_
      obtain ⟨rfl, I2⟩ := hr
      have I3 : Inv X pins σ H1 s2 := IC.call' (ch := fp) I2.os I2.base I2.hok I2.bare fun b hb => ⟨(fC b hb).1.2.2.2.1, (fC b hb).1.2.1, (fC b hb).1.2.2.2.2.1, (fC b hb).1.2.2.2.2.2⟩
      have empty : H1 sC.heap.objs.size = none := loc ▸ I2.free
      obtain ⟨m, ns, _⟩ := I2.loc
      have ns : s2.heap.Ns sC.heap.objs.size m := loc ▸ ns
      obtain ⟨f0, f1, f2, f3, f4, f5⟩ := IC.fpOk (Nat.le_refl _) empty
      exact ⟨m, ns, fun h'' sb => ⟨.ref D, H1, I3.turned (t' := s2.toks) (fun b o hb e => (sb.2 b hb).trans e) f0 f1 f3 f4 f5, rfl, fine⟩⟩
    · refine thnF (T.item (X.blk sC HC scope ce fp) rfl rfl rfl calm i [] s1 _ H1 (fun _ _ => False) I1 (free I1 no1) t1 go) fun r s2 hr => ?_
      obtain ⟨u, rfl, h2⟩ := hr
      refine thnF h2 fun _ s3 h3 => ?_
      obtain ⟨x, H3, I3, r3, y3, t3, no3⟩ := h3
      have pinned := I3.pinned (free I3 no3) (T.obj _ _ t3)
      refine thnF (pT.run _ s3 _ H3 x u _ pinned r3 (body x H3 y3)) fun _ s4 h4 => ?_
      obtain ⟨σ4, H4, I4, wiped, q4⟩ := h4
      have again : ∀ {z : Shared} {Hz : Hp}, Inv (X.blk sC HC scope ce fp) ([] ++ pinsAt fp s3.heap) σ4 Hz z → Nx Hz → ∃ m, m < n ∧ ∃ i Hz, Inv (X.blk sC HC scope ce fp) [] (wipe σ (own.map (·.2))) Hz z ∧ tn i z.heap ∧ (∀ b ∈ fp, Hz b = none) ∧ W i m Hz := fun {z Hz} Iz nx => by
        obtain ⟨m, lt, wz⟩ := less Hz nx
        have still : ∀ b ∈ fp, ∀ o, s3.heap.get? b = some o → z.heap.get? b = some o ∧ Hz b = none := fun b hb o e =>
          have p := Iz.pin (b, o) (List.mem_append_right _ (List.mem_append_right _ (mem_pinsAt hb e)))
          ⟨p.1, p.2.1⟩
        refine ⟨m, lt, i + 1, Hz, (Iz.unpinned (pins := [])).weak (by rw [← wiped, wipe_length]) (fun j v e => (wipe_some (wiped ▸ e)).1), T.keep _ _ _ t3 fun b hb o e => (still b hb o e).1, fun b hb => ?_, wz⟩
        obtain ⟨o, e, _⟩ := T.obj _ _ t3 b hb
        exact (still b hb o e).2
      refine thnF (pC.run _ s4 σ4 H4 _ I4 q4) fun b s5 h5 => ?_
      obtain ⟨H5, I5, q5⟩ := h5
      cases b with
      | false => exact again I5 q5
      | true =>
        refine thnF (pK.run _ s5 σ4 H5 _ I5 q5) fun ku s6 h6 => ?_
        obtain ⟨ky, H6, I6, r6, q6⟩ := h6
        refine thnF (pV.run _ s6 σ4 H6 _ I6 q6) fun vu s7 h7 => ?_
        obtain ⟨vy, H7, I7, r7, H8, put, nx⟩ := h7
        exact put_into (X := X.blk sC HC scope ce fp) hu I7 put r6 r7 fun z Iz => again Iz nx
  exact codeAny_compStart_dict turns (T.self X.A 0 _ _ _ tD turns)
end
/-! ### an attribute as one of several targets -/
section
variable {X : Cx} {pos : Pos} {f : Str}
def gFld (K : PySem.W.Frag) (to : TE) (f : Str) : TG := fun v σ H Q => to σ H fun x H1 => ∃ a C dx fs, x = .ref a ∧ H1 a = some (.ins C dx fs) ∧ Cls K C ∧ NoAttr K C f ∧ fs.length < 1000 ∧ Q σ (upd H1 a (.ins C dx (putF f v fs)))
theorem pg_fld {o : Expr} {to : TE} (ho : PE X o to) : PG X (.Attribute o f pos) (gFld X.K to f) := by
  refine ⟨fun pins s σ H v u Q I r h => ?_⟩
  rw [show assign (.Attribute o f pos) X.env u = (do
    let ov ← holding [u] (eval o X.env)
    standAt pos.atName
    holding [u, ov] (setAttr ov f u)
    release [u, ov] []) from rfl]
  refine wpAny_bind (wpAny_holding (thn (ho.run pins s σ H _ I h) fun ov s1 h1 => ?_))
  obtain ⟨x, H1, I1, r1, a, C, dx, fs, rfl, ea, c, n, l, q⟩ := h1
  obtain rfl : ov = Value.ref a := r1
  refine wpAny_bind (wpAny_standAt (wpAny_bind (wpAny_holding (setattr_ok I1 ea c n l r fun s2 I2 => ?_))))
  exact wpAny_release ⟨σ, _, I2, q⟩
end
/-! ### rules in a comprehension: the written part told by its name -/
def rLstOf (K : PySem.W.Frag) : List V → Hp → VK → Prop := fun xs H Q => ∃ p ys, xs = [V.ref p] ∧ (SqL K H p ys ∨ SqT K H p ys) ∧ ∀ l, H l = none → Q (.ref l) (upd H l (.lst ys))
theorem call_list_ofK {X : Cx} {K : PySem.W.Frag} (hK : X.K = K) : CallR X (.type "list") (rLstOf K) := hK ▸ call_list_of
def rLenOf (K : PySem.W.Frag) : List V → Hp → VK → Prop := fun xs H Q => ∃ p ys, xs = [V.ref p] ∧ (SqL K H p ys ∨ SqT K H p ys) ∧ Q (.int ((ys.length : Nat) : Int)) H
theorem call_len_seqK {X : Cx} {K : PySem.W.Frag} (hK : X.K = K) : CallR X (.builtin "len") (rLenOf K) := hK ▸ call_len_seq
/-! ### the rows of a tree, by a stack -/
/-- those straight under one, in the order of ys -/
def fl (t : List (Int × Int)) (ys : List Int) (u : Int) : List Int := ys.filter fun y => decide (look t y = some u)
def stk (t : List (Int × Int)) (ys : List Int) : Int → Int → List Int → List (Int × Int)
  | k, x, [] => (fl t ys x).map fun c => (k, c)
  | k, x, y :: r => (((fl t ys x).filter fun c => decide (y < c)).map fun c => (k, c)) ++ stk t ys (k + 1) y r
theorem mem_fl {t : List (Int × Int)} {ys : List Int} {u c : Int} : c ∈ fl t ys u ↔ c ∈ ys ∧ look t c = some u := by
  unfold fl
  rw [List.mem_filter, decide_eq_true_iff]
theorem map_snoc {α β : Type} {g : α → β} {l : List α} {w : List β} {z : β} (h : l.map g = w ++ [z]) : ∃ l2 c, l = l2 ++ [c] ∧ w = l2.map g ∧ g c = z := by
  have hne : l ≠ [] := fun e => by
    rw [e] at h
    exact absurd (congrArg List.length h) (by simp)
  refine ⟨l.dropLast, l.getLast hne, (List.dropLast_concat_getLast hne).symm, ?_, ?_⟩
  · have z := congrArg List.dropLast h
    rw [List.dropLast_concat, ← List.map_dropLast] at z
    exact z.symm
  · have e : l.map g = l.dropLast.map g ++ [g (l.getLast hne)] := by
      conv => lhs; rw [← List.dropLast_concat_getLast hne]
      rw [List.map_append]
      rfl
    rw [e] at h
    have h2 := (List.append_inj' h rfl).2
    exact (List.cons.inj h2).1
theorem falls_filter {l : List Int} {f : Int} (h : (l ++ [f]).Pairwise (· > ·)) : (l ++ [f]).filter (fun c => decide (f < c)) = l := by
  rw [List.filter_append]
  have h2 := List.pairwise_append.mp h
  have e1 : l.filter (fun c => decide (f < c)) = l := List.filter_eq_self.mpr fun c hc => decide_eq_true (h2.2.2 c hc f (List.mem_singleton.mpr rfl))
  rw [e1, List.filter_cons_of_neg (by rw [decide_eq_false (Int.lt_irrefl f)]; exact Bool.false_ne_true), List.filter_nil, List.append_nil]
theorem stk_pop {t : List (Int × Int)} {ys : List Int} (hs : ys.Pairwise (· > ·)) : ∀ (r : List Int) (k x : Int) (w : List (Int × Int)) (d f : Int), stk t ys k x r = w ++ [(d, f)] →
    ∃ j : Nat, j ≤ r.length ∧ d = k + j ∧ look t f = some ((x :: r).getD j 0) ∧ (∀ y, r[j]? = some y → y < f) ∧ stk t ys k x (r.take j ++ [f]) = w ++ (fl t ys f).map fun c => (d + 1, c)
  | [], k, x, w, d, f, h => by
    obtain ⟨l2, c, e1, e2, e3⟩ := map_snoc h
    cases e3
    have hp : (l2 ++ [f]).Pairwise (· > ·) := e1 ▸ hs.filter _
    have hm : f ∈ fl t ys x := by rw [e1]; exact List.mem_append_right _ (List.mem_singleton.mpr rfl)
    refine ⟨0, Nat.le_refl _, by omega, (mem_fl.mp hm).2, (fun y e => nomatch e), ?_⟩
    show (((fl t ys x).filter fun c => decide (f < c)).map fun c => (k, c)) ++ (fl t ys f).map (fun c => (k + 1, c)) = _
    rw [e1, falls_filter hp, e2]
  | y :: r, k, x, w, d, f, h => by
    rcases List.eq_nil_or_concat (stk t ys (k + 1) y r) with e | ⟨w2, z, e⟩
    · have h : (((fl t ys x).filter fun c => decide (y < c)).map fun c => (k, c)) ++ stk t ys (k + 1) y r = w ++ [(d, f)] := h
      rw [e, List.append_nil] at h
      obtain ⟨l2, c, e1, e2, e3⟩ := map_snoc h
      cases e3
      have hp : (l2 ++ [f]).Pairwise (· > ·) := e1 ▸ (hs.filter _).filter _
      have hm : f ∈ (fl t ys x).filter fun c => decide (y < c) := by rw [e1]; exact List.mem_append_right _ (List.mem_singleton.mpr rfl)
      have hm2 := List.mem_filter.mp hm
      have hy : y < f := of_decide_eq_true hm2.2
      refine ⟨0, Nat.zero_le _, by omega, (mem_fl.mp hm2.1).2, fun v e => by cases e; exact hy, ?_⟩
      show (((fl t ys x).filter fun c => decide (f < c)).map fun c => (k, c)) ++ (fl t ys f).map (fun c => (k + 1, c)) = _
      have e4 : (fl t ys x).filter (fun c => decide (f < c)) = l2 := by
        have e5 : (fl t ys x).filter (fun c => decide (f < c)) = ((fl t ys x).filter fun c => decide (y < c)).filter (fun c => decide (f < c)) := by
          rw [List.filter_filter]
          refine List.filter_congr fun c _ => ?_
          by_cases q : f < c
          · rw [decide_eq_true q, decide_eq_true (show y < c by omega)]
            rfl
          · rw [decide_eq_false q]
            rfl
        rw [e5, e1, falls_filter hp]
      rw [e4, e2]
    · have h : (((fl t ys x).filter fun c => decide (y < c)).map fun c => (k, c)) ++ stk t ys (k + 1) y r = w ++ [(d, f)] := h
      rw [e, List.concat_eq_append, ← List.append_assoc] at h
      obtain ⟨h1, h2⟩ := List.append_inj' h rfl
      cases h2
      rw [List.concat_eq_append] at e
      obtain ⟨j, j1, j2, j3, j4, j5⟩ := stk_pop hs r (k + 1) y w2 d f e
      refine ⟨j + 1, by rw [List.length_cons]; omega, by omega, j3, fun v e => j4 v e, ?_⟩
      show (((fl t ys x).filter fun c => decide (y < c)).map fun c => (k, c)) ++ stk t ys (k + 1) y (r.take j ++ [f]) = _
      rw [j5, ← List.append_assoc, h1]
def pathOf (l : List (Int × Int)) : List Int := l.foldl (fun r z => r.take (z.1 - 1).toNat ++ [z.2]) []
theorem pathOf_snoc (l : List (Int × Int)) (z : Int × Int) : pathOf (l ++ [z]) = (pathOf l).take (z.1 - 1).toNat ++ [z.2] := by
  unfold pathOf
  rw [List.foldl_append]
  rfl
/-- what a row must be, behind others -/
def OkRow (t : List (Int × Int)) (r : List Int) (z : Int × Int) : Prop := ∃ j : Nat, j ≤ r.length ∧ z.1 = (j : Int) + 1 ∧ look t z.2 = some ((0 :: r).getD j 0) ∧ ∀ y, r[j]? = some y → y < z.2
/-- the keys: above 0 -/
def Pos (t : List (Int × Int)) : Prop := ∀ p ∈ t, 0 < p.1
theorem Pos.look0 {t : List (Int × Int)} (h : Pos t) : look t 0 = none := by
  cases e : look t 0 with
  | none => rfl
  | some v =>
    have := h _ (look_mem e)
    exact absurd this (by simp)
structure DInv (t : List (Int × Int)) (ys : List Int) (found waiting : List (Int × Int)) : Prop where
  run : ∀ i z, found[i]? = some z → OkRow t (pathOf (found.take i)) z
  st : waiting = stk t ys 1 0 (pathOf found)
  nd : ((found ++ waiting).map (·.2)).Nodup
  sub : ∀ z ∈ found ++ waiting, ∃ u, look t z.2 = some u ∧ (u = 0 ∨ ∃ p ∈ found, p.2 = u)
  top : ∀ c, look t c = some 0 → c ∈ (found ++ waiting).map (·.2)
  all : ∀ p ∈ found, ∀ c, look t c = some p.2 → c ∈ (found ++ waiting).map (·.2)
theorem DInv.start {t : List (Int × Int)} {ys : List Int} (hs : ys.Pairwise (· > ·)) (hy : ∀ c, c ∈ ys ↔ (look t c).isSome = true) : DInv t ys [] ((fl t ys 0).map fun c => (1, c)) := by
  refine ⟨fun i z h => (nomatch h), rfl, ?_, fun z hz => ?_, fun c hc => ?_, fun p hp => nomatch hp⟩
  · rw [List.nil_append, List.map_map]
    show ((fl t ys 0).map id).Nodup
    rw [List.map_id]
    exact (hs.filter _).imp fun {x y} h e => by omega
  · rw [List.nil_append] at hz
    obtain ⟨c, hc, rfl⟩ := List.mem_map.mp hz
    exact ⟨0, (mem_fl.mp hc).2, .inl rfl⟩
  · rw [List.nil_append, List.map_map]
    exact List.mem_map.mpr ⟨c, mem_fl.mpr ⟨(hy c).mpr (by rw [hc]; rfl), hc⟩, rfl⟩
theorem DInv.step {t : List (Int × Int)} {ys : List Int} (hp : Pos t) (hs : ys.Pairwise (· > ·)) (hy : ∀ c, c ∈ ys ↔ (look t c).isSome = true) {found w : List (Int × Int)} {d f : Int} (I : DInv t ys found (w ++ [(d, f)])) :
    DInv t ys (found ++ [(d, f)]) (w ++ (fl t ys f).map fun c => (d + 1, c)) := by
  obtain ⟨j, j1, j2, j3, j4, j5⟩ := stk_pop hs _ _ _ _ _ _ I.st.symm
  have ej : (d - 1).toNat = j := by omega
  have pm : ((found ++ [(d, f)]) ++ (w ++ (fl t ys f).map fun c => (d + 1, c))).Perm ((found ++ (w ++ [(d, f)])) ++ (fl t ys f).map fun c => (d + 1, c)) := by
    rw [← List.append_assoc, ← List.append_assoc]
    refine List.Perm.append_right _ ?_
    rw [List.append_assoc, List.append_assoc]
    exact List.Perm.append_left _ List.perm_append_comm
  have mono : ∀ c, c ∈ (found ++ (w ++ [(d, f)])).map (·.2) → c ∈ ((found ++ [(d, f)]) ++ (w ++ (fl t ys f).map fun c => (d + 1, c))).map (·.2) := fun c hc => by
    rw [(pm.map (·.2)).mem_iff, List.map_append]
    exact List.mem_append_left _ hc
  have fm : (d, f) ∈ found ++ (w ++ [(d, f)]) := List.mem_append_right _ (List.mem_append_right _ (List.mem_singleton.mpr rfl))
  obtain ⟨uf, hf, _⟩ := I.sub _ fm
  have f0 : f ≠ 0 := fun e => by
    have hf : look t f = some uf := hf
    rw [e, hp.look0] at hf
    cases hf
  have fnot : ∀ p ∈ found, p.2 ≠ f := fun p hp e => by
    have := I.nd
    rw [List.map_append, List.nodup_append] at this
    exact this.2.2 p.2 (List.mem_map.mpr ⟨p, hp, rfl⟩) f (List.mem_map.mpr ⟨(d, f), List.mem_append_right _ (List.mem_singleton.mpr rfl), rfl⟩) e
  refine ⟨fun i z h => ?_, ?_, ?_, fun z hz => ?_, fun c hc => mono c (I.top c hc), fun p hp' c hc => ?_⟩
  · by_cases c : i < found.length
    · rw [List.getElem?_append_left c] at h
      rw [List.take_append_of_le_length (by omega)]
      exact I.run i z h
    · have e : i = found.length := by
        have := (List.getElem?_eq_some_iff.mp h).1
        rw [List.length_append, List.length_singleton] at this
        omega
      subst e
      rw [List.getElem?_append_right (Nat.le_refl _), Nat.sub_self] at h
      cases h
      rw [List.take_left' rfl]
      exact ⟨j, j1, by show d = (j : Int) + 1; omega, j3, j4⟩
  · rw [pathOf_snoc, ej, ← j5]
  · rw [(pm.map (·.2)).nodup_iff, List.map_append, List.nodup_append]
    refine ⟨I.nd, ?_, fun a ha b hb e => ?_⟩
    · rw [List.map_map]
      show ((fl t ys f).map id).Nodup
      rw [List.map_id]
      exact (hs.filter _).imp fun {x y} h e => by omega
    · subst e
      obtain ⟨z, hz, rfl⟩ := List.mem_map.mp ha
      rw [List.map_map] at hb
      obtain ⟨c, hc, e⟩ := List.mem_map.mp hb
      have e : c = z.2 := e
      subst e
      obtain ⟨u, h1, h2⟩ := I.sub z hz
      rw [(mem_fl.mp hc).2] at h1
      cases h1
      rcases h2 with h2 | ⟨p, hp', h2⟩
      · exact f0 h2
      · exact fnot p hp' h2
  · rw [pm.mem_iff] at hz
    rcases List.mem_append.mp hz with hz | hz
    · obtain ⟨u, h1, h2⟩ := I.sub z hz
      refine ⟨u, h1, h2.imp id fun ⟨p, hp', e⟩ => ⟨p, List.mem_append_left _ hp', e⟩⟩
    · obtain ⟨c, hc, rfl⟩ := List.mem_map.mp hz
      exact ⟨f, (mem_fl.mp hc).2, .inr ⟨(d, f), List.mem_append_right _ (List.mem_singleton.mpr rfl), rfl⟩⟩
  · rcases List.mem_append.mp hp' with hp' | hp'
    · exact mono c (I.all p hp' c hc)
    · rw [List.mem_singleton.mp hp'] at hc
      rw [(pm.map (·.2)).mem_iff, List.map_append, List.map_map]
      exact List.mem_append_right _ (List.mem_map.mpr ⟨c, mem_fl.mpr ⟨(hy c).mpr (by rw [hc]; rfl), hc⟩, rfl⟩)
theorem DInv.small {t : List (Int × Int)} {ys : List Int} {found w : List (Int × Int)} (I : DInv t ys found w) : found.length + w.length ≤ t.length := by
  have h := List.Nodup.length_le_of_subset I.nd (l₂ := t.map (·.1)) fun c hc => by
    obtain ⟨z, hz, rfl⟩ := List.mem_map.mp hc
    obtain ⟨u, h1, _⟩ := I.sub z hz
    exact look_keys.mpr (by rw [h1]; rfl)
  rw [List.length_map, List.length_map, List.length_append] at h
  exact h
/-- those that hang: whose way up ends at the top -/
def hangs (t : List (Int × Int)) (c : Int) : Bool := decide ((wayOf t c).getLastD 1 = 0)
def hanging (t : List (Int × Int)) : List Int := (t.map (·.1)).filter (hangs t)
theorem last_step {t : List (Int × Int)} (F : Fine t) {c u : Int} (h : look t c = some u) : (wayOf t c).getLastD 1 = (wayOf t u).getLastD 1 := by
  rw [(Way.step h (F.way u)).eq]
  obtain ⟨r, e⟩ := (F.way u).head
  rw [e]
  simp
theorem DInv.done {t : List (Int × Int)} {ys : List Int} (hp : Pos t) (F : Fine t) {found : List (Int × Int)} (I : DInv t ys found []) : (found.map (·.2)).Perm (hanging t) := by
  have nd := I.nd
  rw [List.append_nil] at nd
  have w0 : wayOf t 0 = [0] := (Way.stop hp.look0).eq
  refine (List.perm_ext_iff_of_nodup nd (F.nd.filter _)).mpr fun c => ⟨fun hc => ?_, fun hc => ?_⟩
  · have key : ∀ (c : Int) (l : List Int), Way t c l → c ∈ found.map (·.2) → (wayOf t c).getLastD 1 = 0 := by
      intro c l w
      induction w with
      | @stop f h =>
        intro hc
        obtain ⟨z, hz, rfl⟩ := List.mem_map.mp hc
        obtain ⟨u, h1, _⟩ := I.sub z (List.mem_append_left _ hz)
        rw [h] at h1
        cases h1
      | @step f u l h w ih =>
        intro hc
        obtain ⟨z, hz, rfl⟩ := List.mem_map.mp hc
        obtain ⟨v, h1, h2⟩ := I.sub z (List.mem_append_left _ hz)
        rw [h] at h1
        cases h1
        rw [last_step F h]
        rcases h2 with rfl | ⟨p, hp', e⟩
        · rw [w0]
          rfl
        · exact ih (List.mem_map.mpr ⟨p, hp', e⟩)
    refine List.mem_filter.mpr ⟨?_, decide_eq_true (key c _ (F.way c) hc)⟩
    obtain ⟨z, hz, rfl⟩ := List.mem_map.mp hc
    obtain ⟨u, h1, _⟩ := I.sub z (List.mem_append_left _ hz)
    exact look_keys.mpr (by rw [h1]; rfl)
  · obtain ⟨h1, h2⟩ := List.mem_filter.mp hc
    have key : ∀ (c : Int) (l : List Int), Way t c l → (look t c).isSome = true → (wayOf t c).getLastD 1 = 0 → c ∈ found.map (·.2) := by
      intro c l w
      induction w with
      | @stop f h =>
        intro h3
        rw [h] at h3
        cases h3
      | @step f u l h w ih =>
        intro _ h4
        rw [last_step F h] at h4
        by_cases e : u = 0
        · rw [e] at h
          have z := I.top f h
          rw [List.append_nil] at z
          exact z
        · have hu : (look t u).isSome = true := by
            cases k : look t u with
            | some v => rfl
            | none =>
              rw [(Way.stop k).eq] at h4
              exact absurd h4 e
          obtain ⟨p, hp', e2⟩ := List.mem_map.mp (ih hu h4)
          have z := I.all p hp' f (by rw [h]; exact congrArg some e2.symm)
          rw [List.append_nil] at z
          exact z
    exact key c _ (F.way c) (look_keys.mp h1) (of_decide_eq_true h2)
section
variable {P : Program} {w : World} {K : PySem.W.Frag} {mg : Str → Option Value} {base : Heap}
/-! ### _law_cell_at -/
def cellOf (ns : List Int) (k : Nat) : Int := ns.getD k 0
def sp_law_cell_at (K : PySem.W.Frag) : Sp := fun vs H Q _ => ∃ (a : Addr) (ns : List Int) (k : Int), vs = [.ref a, .int k] ∧ SqL K H a (ns.map V.int) ∧ 0 ≤ k ∧ Q (.int (cellOf ns k.toNat)) H
theorem ok_law_cell_at (T : Tx K mg) : FnOk P w K mg base CX0 1 T.a_law_cell_at T.d_law_cell_at ["_law_script", "_law_k"] (sp_law_cell_at K) := by
  refine T.F_law_cell_at.ok sc_law_cell_at (fun vs H Q E h => ?_) (fun cdv A outer s H vs Q E hr h => ?_)
  · obtain ⟨a, ns, k, rfl, _⟩ := h
    rfl
  · obtain ⟨a, ns, k, rfl, hS, hk, q⟩ := h
    obtain ⟨k, rfl⟩ := Int.eq_ofNat_of_zero_le hk
    refine ⟨_, pss_cons (ps_if (pt_cmpR op_lt (pv 1) (pe_callB call_len_seq (by rfl) T.m_len PySem.boot_len (pa_cons (pv 0) pa_nil)) (nomark _)) (pss_one (ps_ret (pe_ix ix_list (pv 0) (pv 1) (fun _ _ => rfl)))) pss_nil)
      (pss_one (ps_ret pe_int)), ?_⟩
    refine ⟨_, rfl, .ref a, rfl, a, _, rfl, .inl hS, _, _, rfl, rfl, _, rfl, ite2 (fun e => ?_) (fun e => ?_)⟩
    · have e1 := of_decide_eq_true e
      rw [List.length_map] at e1
      have h1 : k < ns.length := by omega
      refine ⟨_, rfl, _, rfl, a, _, _, _, rfl, rfl, hS, atI_nat (j := k) (v := .int ns[k]) (by rw [List.getElem?_map, List.getElem?_eq_getElem h1]; rfl), ?_⟩
      have e2 : cellOf ns k = ns[k] := by
        unfold cellOf
        rw [List.getD_eq_getElem?_getD, List.getElem?_eq_getElem h1]
        rfl
      have q' : Q (.int (cellOf ns k)) H := q
      rw [e2] at q'
      exact q'
    · have e1 : ¬ ((k : Int) < ((ns.map V.int).length : Nat)) := fun z => e (decide_eq_true z)
      rw [List.length_map] at e1
      have h1 : ns.length ≤ k := by omega
      have e2 : cellOf ns k = 0 := by
        unfold cellOf
        rw [List.getD_eq_getElem?_getD, List.getElem?_eq_none h1]
        rfl
      have q' : Q (.int (cellOf ns k)) H := q
      rw [e2] at q'
      exact q'
theorem Rd.same {H H' : Hp} {d : Addr} {u : HO} (h : Rd H d u) (s : Same H H') : Rd H' d u := h.imp (fun h => s _ _ h) fun ⟨o, h⟩ => ⟨o, s _ _ h⟩
theorem DGet.rd {H : Hp} {d : Addr} {t : List (Int × Int)} (h : Rd H d (.dK (kvT t))) (x : Int) : DGet H d (.int x) ((look t x).map V.int) := .inl ⟨kvT t, Sum.inl x, h, rfl, (valV_kvT x t).symm⟩
/-! ### _law_way -/
def sp_law_way (K : PySem.W.Frag) : Sp := fun vs H Q _ => ∃ (d : Addr) (t : List (Int × Int)) (f : Int) (l : List Int), vs = [.ref d, .int f] ∧ Rd H d (.dK (kvT t)) ∧ Way t f l ∧ l.length ≤ 900 ∧ ∀ H' p, Same H H' → H p = none → H' p = some (.lst (l.map V.int)) → Q (.ref p) H'
set_option maxHeartbeats 1000000 in
theorem ok_law_way (T : Tx K mg) : FnOk P w K mg base CX0 1 T.a_law_way T.d_law_way ["_law_tree_here", "_law_folder"] (sp_law_way K) := by
  refine T.F_law_way.ok sc_law_way (fun vs H Q E h => ?_) (fun cdv A outer s H vs Q E hr h => ?_)
  · obtain ⟨d, t, f, l, rfl, _⟩ := h
    rfl
  · obtain ⟨d, t, f, l, rfl, hd, hw, hl, q⟩ := h
    have hu := hu_of hr
    refine ⟨_, pss_cons (ps_set (i := 2) sc_law_way.nd rfl (.inl rfl) (pe_lst (pa_cons (pv 1) pa_nil)))
      (pss_cons (ps_while PassesOwn.never (pt_cmp (pc_din hu (pe_ix ix_list (pv 2) (pe_un un_neg pe_int) (fun _ _ => rfl)) (pv 0))) (pss_one (ps_expr (pe_bm PySem.F.plainAttrs_list PySem.F.slot_list_append PySem.F.type_list_append mt_append (pv 2) (pa_cons (pe_dget hu (pv 0) (pe_ix ix_list (pv 2) (pe_un un_neg pe_int) (fun _ _ => rfl)) (fun _ _ => rfl)) pa_nil)))))
      (pss_one (ps_ret (pv 2)))), ?_⟩
    walk_at "rd"
    intro p np
    have s0 := same_upd (o := HO.lst [V.int f]) np
    refine ⟨fun m σ H2 => ∃ pre x l', σ = [some (.ref d), some (.int f), some (.ref p)] ∧ Same H H2 ∧ H2 p = some (.lst ((pre.map V.int) ++ [V.int x])) ∧ Way t x l' ∧ pre ++ l' = l ∧ m = l'.length,
      ⟨_, [], f, l, rfl, s0, upd_same, hw, rfl, rfl⟩, ?_⟩
    rintro m σ H2 ⟨pre, x, l', rfl, s2, hp, hx, el, rfl⟩
    have hd2 := Rd.same hd s2
    refine ⟨_, rfl, _, rfl, p, _, _, _, rfl, rfl, SqL.of hp, atI_last _ _, _, rfl, d, _, rfl, DGet.rd hd2 x, _, rfl, ?_⟩
    cases hx with
    | stop h =>
      rw [h]
      refine iteF ?_
      refine ⟨_, rfl, ?_⟩
      refine q _ _ s2 np ?_
      rw [hp, ← el, List.map_append]
      rfl
    | @step _ u r h w =>
      rw [h]
      refine iteT ?_
      refine ⟨fun σ' H' => σ' = [some (.ref d), some (.int f), some (.ref p)] ∧ Same H H' ∧ H' p = some (.lst (((pre ++ [x]).map V.int) ++ [V.int u])), ?_, ?_⟩
      · rintro σ' H' ⟨e, s3, hp'⟩
        refine ⟨r.length, Nat.lt_succ_self _, pre ++ [x], u, r, e, s3, hp', w, ?_, rfl⟩
        rw [← el, List.append_assoc]
        rfl
      · have hlen : pre.length + 1 ≤ 900 := by
          have : (pre ++ x :: r).length = l.length := by rw [el]
          rw [List.length_append, List.length_cons] at this
          omega
        refine ⟨_, rfl, .inl ⟨rfl, _, SqL.of hp⟩, _, rfl, _, rfl, _, rfl, p, _, _, _, rfl, rfl, SqL.of hp, atI_last _ _, d, V.int u, rfl, ?_, p, _, _, rfl, rfl, hp, ?_, ?_⟩
        · have g := DGet.rd hd2 x
          rw [h] at g
          exact g
        · refine small1000 ?_
          rw [List.length_append, List.length_map]
          show pre.length + 1 ≤ 1000
          omega
        · refine ⟨rfl, same_set s2 np, ?_⟩
          rw [upd_same, List.map_append]
          rfl
/-! ### lists of whole numbers -/
theorem eqV_int (a b : Int) : eqV (.int a) (.int b) = decide (a = b) := by
  show (a == b) = _
  by_cases h : a = b
  · rw [h, decide_eq_true rfl]
    exact beq_self_eq_true b
  · rw [decide_eq_false h]
    exact beq_eq_false_iff_ne.mpr h
theorem inV_ints (f : Int) (l : List Int) : inV (.int f) (l.map V.int) = decide (f ∈ l) := by
  unfold inV
  induction l with
  | nil => rfl
  | cons x l ih =>
    rw [List.map_cons, List.any_cons, ih, eqV_int]
    by_cases h : x = f
    · have m : f ∈ x :: l := by rw [h]; exact List.mem_cons_self ..
      rw [decide_eq_true h, decide_eq_true m]
      rfl
    · rw [decide_eq_false h, Bool.false_or]
      by_cases c : f ∈ l
      · rw [decide_eq_true c, decide_eq_true (List.mem_cons_of_mem _ c)]
      · rw [decide_eq_false c, decide_eq_false (fun z => by rcases List.mem_cons.mp z with e | e; exact h e.symm; exact c e)]
theorem flats (l : List Int) : (l.map V.int).all flatV = true := by
  rw [List.all_eq_true]
  intro v hv
  obtain ⟨i, _, rfl⟩ := List.mem_map.mp hv
  rfl
theorem cut_take (l : List V) (j : Nat) (h : j ≤ l.length) : cutV l none (some (j : Int)) = l.take j := by
  unfold cutV
  rw [HT.sIx_none, HT.sIx_nat, List.drop_zero, Nat.sub_zero, Nat.min_eq_left h]
theorem cut_drop (l : List V) (j : Nat) (h : j ≤ l.length) : cutV l (some (j : Int)) none = l.drop j := by
  unfold cutV
  rw [HT.sIx_none, HT.sIx_nat, Nat.min_eq_left h]
  refine List.take_of_length_le ?_
  rw [List.length_drop]
  omega
theorem at_ints {l : List Int} {j : Nat} {f : Int} (h : l[j]? = some f) : (l.map V.int)[j]? = some (.int f) := by
  rw [List.getElem?_map, h]
  rfl
theorem not_ints {l : List Int} {j : Nat} {f : Int} (h : ∀ m, m < j → l[m]? ≠ some f) : ∀ (m : Nat) (z : V), m < j → (l.map V.int)[m]? = some z → eqV z (.int f) = false := fun m z hm e => by
  rw [List.getElem?_map] at e
  obtain ⟨i, hi, rfl⟩ := Option.map_eq_some_iff.mp e
  rw [eqV_int]
  exact decide_eq_false fun c => h m hm (c ▸ hi)
theorem for_keys {d : Addr} {o : Obj} {kvs : List (Key × V)} {g : TG} {tb : TS} {D : Ends} {σ : L2.St} {H : Hp} (Pv : Nat → L2.St → Hp → Prop) (h0 : Pv 0 σ H) (hl : ∀ i σ H, Pv i σ H → H d = some (.frz o (.dK kvs)))
    (hs : ∀ i k v σ H, kvs[i]? = some (k, v) → Pv i σ H → g (kV k) σ H fun σ2 H2 => tb { D with nx := Pv (i + 1), ct := Pv (i + 1), bk := D.nx } σ2 H2) (hd : ∀ σ H, Pv kvs.length σ H → D.nx σ H) :
    ∃ W : Nat → Nat → L2.St → Hp → Prop, (∃ m, W 0 m σ H) ∧ ∀ i m σ H, W i m σ H →
      ((Itk d o kvs).stop i H ∧ D.nx σ H) ∨ ((Itk d o kvs).go i H ∧ ∃ N : L2.St → Hp → Prop, (∀ σ' H', N σ' H' → ∃ m', m' < m ∧ W (i + 1) m' σ' H') ∧ ∀ x H', (Itk d o kvs).yld i H x H' → g x σ H' fun σ2 H2 => tb { D with nx := N, ct := N, bk := D.nx } σ2 H2) := by
  refine ⟨fun i m σ H => m = kvs.length - i ∧ i ≤ kvs.length ∧ Pv i σ H, ⟨kvs.length, by simp, Nat.zero_le _, h0⟩, ?_⟩
  rintro i m σ H ⟨rfl, hi, p⟩
  have q := hl i σ H p
  by_cases hlt : i < kvs.length
  · refine .inr ⟨⟨q, hlt⟩, Pv (i + 1), fun σ' H' p' => ⟨kvs.length - (i + 1), by omega, rfl, hlt, p'⟩, fun x H' y => ?_⟩
    obtain ⟨e, k, v, ek, rfl⟩ := y
    subst e
    exact hs i k v σ _ ek p
  · have e : i = kvs.length := by omega
    subst e
    exact .inl ⟨⟨q, Nat.le_refl _⟩, hd σ H p⟩
theorem kvT_get {t : List (Int × Int)} {i : Nat} {k : Key} {v : V} (h : (kvT t)[i]? = some (k, v)) : ∃ p, t[i]? = some p ∧ k = .inl p.1 ∧ v = .int p.2 := by
  unfold kvT at h
  rw [List.getElem?_map] at h
  cases e : t[i]? with
  | none =>
    rw [e] at h
    cases h
  | some p =>
    rw [e] at h
    cases h
    exact ⟨p, rfl, rfl, rfl⟩
theorem upd_back {H : Hp} {d : Addr} {o u : HO} (h : H d = some u) : upd (upd H d o) d u = H := by
  rw [upd_upd]
  funext b
  by_cases e : b = d
  · subst e
    rw [upd_same, h]
  · rw [upd_ne e]
/-! ### _law_whole, of a number -/
def sp_law_whole (K : PySem.W.Frag) : Sp := fun vs H Q _ => ∃ i : Int, vs = [.int i] ∧ Q (.bl true) H
theorem ok_law_whole (T : Tx K mg) : FnOk P w K mg base CX0 1 T.a_law_whole T.d_law_whole ["_law_found"] (sp_law_whole K) := by
  refine T.F_law_whole.ok sc_law_whole (fun vs H Q E h => ?_) (fun cdv A outer s H vs Q E hr h => ?_)
  · obtain ⟨i, rfl, _⟩ := h
    rfl
  · obtain ⟨i, rfl, q⟩ := h
    refine ⟨_, pss_one (ps_ret (pe_and (pe_callB call_isi (by rfl) T.m_isinstance (by decide +kernel) (pa_cons (pv 0) (pa_cons (pe_bltn (v := .ty "int") (by rfl) T.m_int (by decide +kernel) rfl) pa_nil))) (pe_one (pe_not (pe_callB call_isi (by rfl) T.m_isinstance (by decide +kernel) (pa_cons (pv 0) (pa_cons (pe_bltn (v := .ty "bool") (by rfl) T.m_bool (by decide +kernel) rfl) pa_nil))))))), ?_⟩
    walk_at "rd"
    exact q
/-! ### _law_same_tree: of two that are the same -/
def sp_law_same_tree (K : PySem.W.Frag) : Sp := fun vs H Q _ => ∃ (a b : Addr) (t u : List (Int × Int)), vs = [.ref a, .ref b] ∧ H a = some (.dK (kvT t)) ∧ H b = some (.dK (kvT u)) ∧ a ≠ b ∧ t.length = u.length ∧ (u.map (·.1)).Nodup ∧ (∀ p ∈ u, look t p.1 = some p.2) ∧ Q (.bl true) H
set_option maxHeartbeats 1000000 in
theorem ok_law_same_tree (T : Tx K mg) : FnOk P w K mg base CX0 2 T.a_law_same_tree T.d_law_same_tree ["_law_found", "_law_due"] (sp_law_same_tree K) := by
  refine T.F_law_same_tree.ok sc_law_same_tree (fun vs H Q E h => ?_) (fun cdv A outer s H vs Q E hr h => ?_)
  · obtain ⟨a, b, t, u, rfl, _⟩ := h
    rfl
  · obtain ⟨a, b, t, u, rfl, ha, hb, hab, hl, hnd, hlk, q⟩ := h
    have hu := hu_of hr
    refine ⟨_, pss_cons (ps_if (PW.pt (pw_or (pt_not (pt_val (pe_callB call_isi (by rfl) T.m_isinstance (by decide +kernel) (pa_cons (pv 0) (pa_cons (pe_bltn (v := .ty "dict") (by rfl) T.m_dict (by decide +kernel) rfl) pa_nil))))) (pw_or1 (pt_cmpR op_ne (pe_callB call_lenD (by rfl) T.m_len PySem.boot_len (pa_cons (pv 0) pa_nil)) (pe_callB call_lenD (by rfl) T.m_len PySem.boot_len (pa_cons (pv 1) pa_nil)) (nomark _))))) (pss_one (ps_ret pe_bl)) pss_nil)
      (pss_cons (ps_lock (ps_for PassesOwn.never rfl (pi_keys (pv 1)) (pg_name (i := 2) sc_law_same_tree.nd rfl (Or.inl rfl)) (pss_one (ps_if (PW.pt (pw_or (pt_cmp (pc_dnotin hu (pv 2) (pv 0))) (pw_or (pt_not (pt_val (pe_call (ok_law_whole T) (hr.mono (by decide)) (by rfl) T.g_law_whole T.F_law_whole.kp T.b_law_whole .nil pass0 (pa_cons (pe_dget hu (pv 0) (pv 2) (fun _ _ => rfl)) pa_nil)))) (pw_or1 (pt_cmpR op_ne (pe_dget hu (pv 0) (pv 2) (fun _ _ => rfl)) (pe_dget hu (pv 1) (pv 2) (fun _ _ => rfl)) (nomark _)))))) (pss_one (ps_ret pe_bl)) pss_nil))))
      (pss_cons (ps_lock (ps_for PassesOwn.never rfl (pi_keys (pv 0)) (pg_name (i := 2) sc_law_same_tree.nd rfl (Or.inl rfl)) (pss_one (ps_if (pt_not (pt_val (pe_call (ok_law_whole T) (hr.mono (by decide)) (by rfl) T.g_law_whole T.F_law_whole.kp T.b_law_whole .nil pass0 (pa_cons (pv 2) pa_nil)))) (pss_one (ps_ret pe_bl)) pss_nil))))
      (pss_one (ps_ret pe_bl)))), ?_⟩
    walk_at "rd"
    rw [kvT_length, kvT_length, hl, decide_eq_true rfl]
    refine iteF ?_
    refine ⟨b, _, hb, trivial, fun od => ?_⟩
    refine ⟨_, rfl, b, od, rfl, .inl ⟨kvT u, upd_same, for_keys (fun i σ H2 => ∃ v2, σ = [some (.ref a), some (.ref b), v2] ∧ H2 = upd H b (.frz od (.dK (kvT u)))) ⟨none, rfl, rfl⟩ (fun i σ H2 ⟨_, _, e⟩ => by rw [e, upd_same]) ?_ ?_⟩⟩
    · rintro i k v σ H2 hi ⟨v2, rfl, rfl⟩
      obtain ⟨p, hp, rfl, rfl⟩ := kvT_get hi
      have hk := hlk p (List.mem_of_getElem? hp)
      have ha2 : (upd H b (.frz od (.dK (kvT u)))) a = some (.dK (kvT t)) := by rw [upd_ne hab]; exact ha
      have g := DGet.k (k := Sum.inl p.1) ha2
      rw [valV_kvT, hk] at g
      have g2 : DGet (upd H b (.frz od (.dK (kvT u)))) b (kV (Sum.inl p.1)) ((look u p.1).map V.int) := .inl ⟨kvT u, Sum.inl p.1, .inr ⟨od, upd_same⟩, rfl, (valV_kvT p.1 u).symm⟩
      rw [mem_look hnd (List.mem_of_getElem? hp)] at g2
      refine ⟨_, rfl, _, rfl, a, _, rfl, g, _, rfl, ?_⟩
      walk_at "rd"
    · rintro σ H2 ⟨v2, rfl, rfl⟩
      refine ⟨upd_same, ?_⟩
      rw [upd_back hb]
      refine ⟨a, _, ha, trivial, fun oe => ?_⟩
      refine ⟨_, rfl, a, oe, rfl, .inl ⟨kvT t, upd_same, for_keys (fun i σ H2 => ∃ v2, σ = [some (.ref a), some (.ref b), v2] ∧ H2 = upd H a (.frz oe (.dK (kvT t)))) ⟨_, rfl, rfl⟩ (fun i σ H2 ⟨_, _, e⟩ => by rw [e, upd_same]) ?_ ?_⟩⟩
      · rintro i k v σ H2 hi ⟨v2, rfl, rfl⟩
        obtain ⟨p, hp, rfl, rfl⟩ := kvT_get hi
        walk_at "rd"
      · rintro σ H2 ⟨v2, rfl, rfl⟩
        refine ⟨upd_same, ?_⟩
        rw [upd_back ha]
        exact q
/-! ### _law_name -/
def someL : List Int := [1, 1000000000, 100000000000000000000, 1000000000000000000000000000000000, 100000000000000000000000000000000000000000000000, 1000000000000000000000000000000000000000000000000000000000]
abbrev N60 : Int := 1000000000000000000000000000000000000000000000000000000000000
def nameOf (c k : Int) : Int :=
  if c % 4 = 1 then N60 - k
  else if c % 4 = 2 then 1 + (c / 24 + k * someL.getD (c / 4 % 6).toNat 0) % N60
  else if c % 4 = 3 then 1 + 7 * k
  else if c / 224 % 2 = 1 ∧ k % 2 = 1 then N60 - k
  else 1 + k
theorem nameOf_pos {c k : Int} (h0 : 0 ≤ k) (h1 : k ≤ 200) : 1 ≤ nameOf c k := by
  unfold nameOf
  split
  · show 1 ≤ (1000000000000000000000000000000000000000000000000000000000000 : Int) - k
    omega
  · split
    · have := Int.emod_nonneg (c / 24 + k * someL.getD (c / 4 % 6).toNat 0) (show N60 ≠ 0 by decide)
      omega
    · split
      · omega
      · split
        · show 1 ≤ (1000000000000000000000000000000000000000000000000000000000000 : Int) - k
          omega
        · omega
theorem nameOf_le {c k : Int} (h0 : 0 ≤ k) (h1 : k ≤ 200) : nameOf c k ≤ N60 := by
  unfold nameOf
  split
  · show (1000000000000000000000000000000000000000000000000000000000000 : Int) - k ≤ 1000000000000000000000000000000000000000000000000000000000000
    omega
  · split
    · have := Int.emod_lt_of_pos (c / 24 + k * someL.getD (c / 4 % 6).toNat 0) (show (0 : Int) < N60 by decide)
      omega
    · split
      · show 1 + 7 * k ≤ 1000000000000000000000000000000000000000000000000000000000000
        omega
      · split
        · show (1000000000000000000000000000000000000000000000000000000000000 : Int) - k ≤ 1000000000000000000000000000000000000000000000000000000000000
          omega
        · show 1 + k ≤ 1000000000000000000000000000000000000000000000000000000000000
          omega
theorem someL_cases {j : Int} (h0 : 0 ≤ j) (h1 : j < 6) : someL.getD j.toNat 0 = 1 ∨ someL.getD j.toNat 0 = 1000000000 ∨ someL.getD j.toNat 0 = 100000000000000000000 ∨ someL.getD j.toNat 0 = 1000000000000000000000000000000000 ∨ someL.getD j.toNat 0 = 100000000000000000000000000000000000000000000000 ∨ someL.getD j.toNat 0 = 1000000000000000000000000000000000000000000000000000000000 := by
  have h : j = 0 ∨ j = 1 ∨ j = 2 ∨ j = 3 ∨ j = 4 ∨ j = 5 := by omega
  rcases h with rfl | rfl | rfl | rfl | rfl | rfl
  · exact .inl rfl
  · exact .inr (.inl rfl)
  · exact .inr (.inr (.inl rfl))
  · exact .inr (.inr (.inr (.inl rfl)))
  · exact .inr (.inr (.inr (.inr (.inl rfl))))
  · exact .inr (.inr (.inr (.inr (.inr rfl))))
theorem nameOf_inj {c k j : Int} (h0 : 0 ≤ k) (h1 : k ≤ 200) (g0 : 0 ≤ j) (g1 : j ≤ 200) (e : nameOf c k = nameOf c j) : k = j := by
  unfold nameOf at e
  by_cases c1 : c % 4 = 1
  · rw [if_pos c1, if_pos c1] at e
    omega
  rw [if_neg c1, if_neg c1] at e
  by_cases c2 : c % 4 = 2
  · rw [if_pos c2, if_pos c2] at e
    have hs := someL_cases (j := c / 4 % 6) (by omega) (by omega)
    have e' : (c / 24 + k * someL.getD (c / 4 % 6).toNat 0) % (1000000000000000000000000000000000000000000000000000000000000 : Int) = (c / 24 + j * someL.getD (c / 4 % 6).toNat 0) % 1000000000000000000000000000000000000000000000000000000000000 := by
      exact Int.add_left_cancel (a := 1) e
    generalize c / 24 = a at e'
    rcases hs with hs | hs | hs | hs | hs | hs <;> rw [hs] at e' <;> omega
  rw [if_neg c2, if_neg c2] at e
  by_cases c3 : c % 4 = 3
  · rw [if_pos c3, if_pos c3] at e
    omega
  rw [if_neg c3, if_neg c3] at e
  have hN : N60 = 1000000000000000000000000000000000000000000000000000000000000 := rfl
  by_cases ck : c / 224 % 2 = 1 ∧ k % 2 = 1
  · rw [if_pos ck] at e
    by_cases cj : c / 224 % 2 = 1 ∧ j % 2 = 1
    · rw [if_pos cj] at e
      omega
    · rw [if_neg cj] at e
      omega
  · rw [if_neg ck] at e
    by_cases cj : c / 224 % 2 = 1 ∧ j % 2 = 1
    · rw [if_pos cj] at e
      omega
    · rw [if_neg cj] at e
      omega
theorem p9 : (10 : Int) ^ Int.toNat 9 = 1000000000 := by decide +kernel
theorem p20 : (10 : Int) ^ Int.toNat 20 = 100000000000000000000 := by decide +kernel
theorem p33 : (10 : Int) ^ Int.toNat 33 = 1000000000000000000000000000000000 := by decide +kernel
theorem p47 : (10 : Int) ^ Int.toNat 47 = 100000000000000000000000000000000000000000000000 := by decide +kernel
theorem p57 : (10 : Int) ^ Int.toNat 57 = 1000000000000000000000000000000000000000000000000000000000 := by decide +kernel
def sp_law_name (K : PySem.W.Frag) : Sp := fun vs H Q _ => ∃ k c : Int, vs = [.int k, .int c] ∧ 0 ≤ k ∧ k ≤ 200 ∧ ∀ H', Same H H' → Q (.int (nameOf c k)) H'
set_option maxHeartbeats 1000000 in
theorem ok_law_name (T : Tx K mg) : FnOk P w K mg base CX0 1 T.a_law_name T.d_law_name ["_law_k", "_law_cell"] (sp_law_name K) := by
  refine T.F_law_name.ok sc_law_name (fun vs H Q E h => ?_) (fun cdv A outer s H vs Q E hr h => ?_)
  · obtain ⟨k, c, rfl, _⟩ := h
    rfl
  · obtain ⟨k, c, rfl, h0, h1, q⟩ := h
    have hp := p60
    refine ⟨_, pss_cons (ps_if (pt_cmpR op_eq (pe_op op_mod (pv 1) pe_int) pe_int (nomark _)) (pss_one (ps_ret (pe_op op_sub (pe_op op_pow pe_int pe_int) (pv 0)))) pss_nil)
      (pss_cons (ps_if (pt_cmpR op_eq (pe_op op_mod (pv 1) pe_int) pe_int (nomark _)) (pss_cons (ps_set (i := 2) sc_law_name.nd rfl (.inl rfl) (pe_lst (pa_cons pe_int (pa_cons (pe_op op_pow pe_int pe_int) (pa_cons (pe_op op_pow pe_int pe_int) (pa_cons (pe_op op_pow pe_int pe_int) (pa_cons (pe_op op_pow pe_int pe_int) (pa_cons (pe_op op_pow pe_int pe_int) pa_nil))))))))
      (pss_one (ps_ret (pe_op op_add pe_int (pe_op op_mod (pe_op op_add (pe_op op_fdiv (pv 1) pe_int) (pe_op op_mul (pv 0) (pe_ix ix_list (pv 2) (pe_op op_mod (pe_op op_fdiv (pv 1) pe_int) pe_int) (fun _ _ => rfl)))) (pe_op op_pow pe_int pe_int)))))) pss_nil)
      (pss_cons (ps_if (pt_cmpR op_eq (pe_op op_mod (pv 1) pe_int) pe_int (nomark _)) (pss_one (ps_ret (pe_op op_add pe_int (pe_op op_mul pe_int (pv 0))))) pss_nil)
      (pss_cons (ps_if (PW.pt (pw_and (pt_cmpR op_eq (pe_op op_mod (pe_op op_fdiv (pv 1) pe_int) pe_int) pe_int (nomark _)) (pw_and1 (pt_cmpR op_eq (pe_op op_mod (pv 0) pe_int) pe_int (nomark _))))) (pss_one (ps_ret (pe_op op_sub (pe_op op_pow pe_int pe_int) (pv 0)))) pss_nil)
      (pss_one (ps_ret (pe_op op_add pe_int (pv 0))))))), ?_⟩
    walk_at "rd"
    refine ite2 (fun c1 => ?_) (fun c1 => ?_)
    · walk_at "rd"
      have c1 := V.int.inj (of_decide_eq_true c1)
      have z := q H (Same.refl H)
      unfold nameOf at z
      rw [if_pos c1] at z
      exact z
    have c1 : ¬ c % 4 = 1 := fun z => c1 (decide_eq_true (congrArg V.int z))
    walk_at "rd"
    refine ite2 (fun c2 => ?_) (fun c2 => ?_)
    · have c2 : c % 4 = 2 := V.int.inj (of_decide_eq_true c2)
      walk_at "rd"
      intro p np
      have s1 := fun o => same_upd (o := o) np
      walk_at "rd"
      have hat : atI [V.int 1, V.int (10 ^ Int.toNat 9), V.int (10 ^ Int.toNat 20), V.int (10 ^ Int.toNat 33), V.int (10 ^ Int.toNat 47), V.int (10 ^ Int.toNat 57)] (c / 4 % 6) = some (V.int (someL.getD (c / 4 % 6).toNat 0)) := by
        have h : c / 4 % 6 = 0 ∨ c / 4 % 6 = 1 ∨ c / 4 % 6 = 2 ∨ c / 4 % 6 = 3 ∨ c / 4 % 6 = 4 ∨ c / 4 % 6 = 5 := by omega
        rcases h with h | h | h | h | h | h <;> rw [h]
        · exact atI_nat (j := 0) rfl
        · exact atI_nat (j := 1) (congrArg (fun z => some (V.int z)) p9)
        · exact atI_nat (j := 2) (congrArg (fun z => some (V.int z)) p20)
        · exact atI_nat (j := 3) (congrArg (fun z => some (V.int z)) p33)
        · exact atI_nat (j := 4) (congrArg (fun z => some (V.int z)) p47)
        · exact atI_nat (j := 5) (congrArg (fun z => some (V.int z)) p57)
      refine ⟨_, _, _, _, rfl, rfl, SqL.of upd_same, hat, ?_⟩
      walk_at "rd"
      have en : nameOf c k = 1 + (c / 24 + k * someL.getD (c / 4 % 6).toNat 0) % N60 := by
        unfold nameOf
        rw [if_neg c1, if_pos c2]
      rw [hp]
      show Q (V.int (1 + (c / 24 + k * someL.getD (c / 4 % 6).toNat 0) % N60)) _
      rw [← en]
      exact q _ (s1 _)
    have c2 : ¬ c % 4 = 2 := fun z => c2 (decide_eq_true (congrArg V.int z))
    walk_at "rd"
    refine ite2 (fun c3 => ?_) (fun c3 => ?_)
    · have c3 : c % 4 = 3 := V.int.inj (of_decide_eq_true c3)
      walk_at "rd"
      have z := q H (Same.refl H)
      unfold nameOf at z
      rw [if_neg c1, if_neg c2, if_pos c3] at z
      exact z
    have c3 : ¬ c % 4 = 3 := fun z => c3 (decide_eq_true (congrArg V.int z))
    walk_at "rd"
    have z := q H (Same.refl H)
    unfold nameOf at z
    rw [if_neg c1, if_neg c2, if_neg c3] at z
    refine ite2 (fun c4 => ?_) (fun c4 => ?_)
    · have c4 : c / 224 % 2 = 1 := V.int.inj (of_decide_eq_true c4)
      walk_at "rd"
      refine ite2 (fun c5 => ?_) (fun c5 => ?_)
      · have c5 : k % 2 = 1 := V.int.inj (of_decide_eq_true c5)
        walk_at "rd"
        rw [if_pos ⟨c4, c5⟩] at z
        rw [hp]
        exact z
      · have c5 : ¬ k % 2 = 1 := fun z => c5 (decide_eq_true (congrArg V.int z))
        walk_at "rd"
        rw [if_neg (fun z => c5 z.2)] at z
        exact z
    · have c4 : ¬ c / 224 % 2 = 1 := fun z => c4 (decide_eq_true (congrArg V.int z))
      walk_at "rd"
      rw [if_neg (fun z => c4 z.1)] at z
      exact z
/-! ### _law_pick -/
def pickOf (c size p : Int) : Int := if p = 0 then 0 else if size < p then nameOf c (size + 5) else nameOf c (p - 1)
def sp_law_pick (K : PySem.W.Frag) : Sp := fun vs H Q _ => ∃ p size c : Int, vs = [.int p, .int size, .int c] ∧ 0 ≤ p ∧ 0 ≤ size ∧ size ≤ 100 ∧ p ≤ 200 ∧ ∀ H', Same H H' → Q (.int (pickOf c size p)) H'
theorem ok_law_pick (T : Tx K mg) : FnOk P w K mg base CX0 2 T.a_law_pick T.d_law_pick ["_law_pick_here", "_law_size", "_law_cell"] (sp_law_pick K) := by
  refine T.F_law_pick.ok sc_law_pick (fun vs H Q E h => ?_) (fun cdv A outer s H vs Q E hr h => ?_)
  · obtain ⟨p, size, c, rfl, _⟩ := h
    rfl
  · obtain ⟨p, size, c, rfl, h0, h1, h2, h3, q⟩ := h
    refine ⟨_, pss_cons (ps_if (pt_cmpR op_eq (pv 0) pe_int (nomark _)) (pss_one (ps_ret pe_int)) pss_nil)
      (pss_cons (ps_if (pt_cmpR op_gt (pv 0) (pv 1) (nomark _)) (pss_one (ps_ret (pe_call (ok_law_name T) (hr.mono (by decide)) (by rfl) T.g_law_name T.F_law_name.kp T.b_law_name .nil pass0 (pa_cons (pe_op op_add (pv 1) pe_int) (pa_cons (pv 2) pa_nil))))) pss_nil)
      (pss_one (ps_ret (pe_call (ok_law_name T) (hr.mono (by decide)) (by rfl) T.g_law_name T.F_law_name.kp T.b_law_name .nil pass0 (pa_cons (pe_op op_sub (pv 0) pe_int) (pa_cons (pv 2) pa_nil)))))), ?_⟩
    walk_at "rd"
    refine ite2 (fun c1 => ?_) (fun c1 => ?_)
    · have c1 : p = 0 := V.int.inj (of_decide_eq_true c1)
      walk_at "rd"
      have z := q H (Same.refl H)
      unfold pickOf at z
      rw [if_pos c1] at z
      exact z
    have c1 : ¬ p = 0 := fun z => c1 (decide_eq_true (congrArg V.int z))
    walk_at "rd"
    refine ite2 (fun c2 => ?_) (fun c2 => ?_)
    · have c2 : size < p := of_decide_eq_true c2
      walk_at "rd"
      intro H' s'
      have z := q H' s'
      unfold pickOf at z
      rw [if_neg c1, if_pos c2] at z
      exact z
    have c2 : ¬ size < p := fun z => c2 (decide_eq_true z)
    walk_at "rd"
    intro H' s'
    have z := q H' s'
    unfold pickOf at z
    rw [if_neg c1, if_neg c2] at z
    exact z
/-! ### _law_tree -/
/-- each stands under the top or under one told ahead of it -/
def TreeOk (c : Int) (n : Nat) (t : List (Int × Int)) : Prop := ∀ k v, look t k = some v → ∃ i : Nat, i < n ∧ k = nameOf c i ∧ (v = 0 ∨ ∃ j : Nat, j < i ∧ v = nameOf c j)
theorem TreeOk.mono {c : Int} {n m : Nat} {t : List (Int × Int)} (h : TreeOk c n t) (e : n ≤ m) : TreeOk c m t := fun k v hk => by
  obtain ⟨i, hi, r⟩ := h k v hk
  exact ⟨i, Nat.lt_of_lt_of_le hi e, r⟩
theorem TreeOk.put {c : Int} {n : Nat} {t : List (Int × Int)} {v : Int} (h : TreeOk c n t) (hv : v = 0 ∨ ∃ j : Nat, j < n ∧ v = nameOf c j) : TreeOk c (n + 1) (putT t (nameOf c n) v) := fun k u hk => by
  rw [look_putT] at hk
  by_cases e : k = nameOf c n
  · rw [if_pos e] at hk
    cases hk
    exact ⟨n, Nat.lt_succ_self n, e, hv⟩
  · rw [if_neg e] at hk
    exact h.mono (Nat.le_succ n) k u hk
theorem TreeOk.look0 {c : Int} {n : Nat} {t : List (Int × Int)} (h : TreeOk c n t) (hn : n ≤ 200) : look t 0 = none := by
  cases e : look t 0 with
  | none => rfl
  | some v =>
    obtain ⟨i, hi, r, _⟩ := h 0 v e
    have := nameOf_pos (c := c) (k := i) (by omega) (by omega)
    omega
theorem TreeOk.wayN {c : Int} {n : Nat} {t : List (Int × Int)} (h : TreeOk c n t) (hn : n ≤ 200) : ∀ (m i : Nat), i ≤ m → i ≤ 200 → ∃ l, Way t (nameOf c i) l ∧ l.length ≤ i + 2 := by
  intro m
  induction m with
  | zero =>
    intro i hi hl
    cases e : look t (nameOf c i) with
    | none => exact ⟨_, .stop e, by show 1 ≤ i + 2; omega⟩
    | some v =>
      obtain ⟨j, hj, r, rv⟩ := h _ v e
      have ej : (i : Int) = j := nameOf_inj (by omega) (by omega) (by omega) (by omega) r
      rcases rv with rfl | ⟨j', hj', rfl⟩
      · exact ⟨_, .step e (.stop (h.look0 hn)), by show 2 ≤ i + 2; omega⟩
      · omega
  | succ m ih =>
    intro i hi hl
    cases e : look t (nameOf c i) with
    | none => exact ⟨_, .stop e, by show 1 ≤ i + 2; omega⟩
    | some v =>
      obtain ⟨j, hj, r, rv⟩ := h _ v e
      have ej : (i : Int) = j := nameOf_inj (by omega) (by omega) (by omega) (by omega) r
      rcases rv with rfl | ⟨j', hj', rfl⟩
      · exact ⟨_, .step e (.stop (h.look0 hn)), by show 2 ≤ i + 2; omega⟩
      · obtain ⟨l, hw, hl⟩ := ih j' (by omega) (by omega)
        exact ⟨_, .step e hw, by rw [List.length_cons]; omega⟩
theorem TreeOk.way {c : Int} {n : Nat} {t : List (Int × Int)} (h : TreeOk c n t) (hn : n ≤ 200) (f : Int) : ∃ l, Way t f l ∧ l.length ≤ n + 2 := by
  cases e : look t f with
  | none => exact ⟨_, .stop e, by show 1 ≤ n + 2; omega⟩
  | some v =>
    obtain ⟨i, hi, rfl, _⟩ := h f v e
    obtain ⟨l, hw, hl⟩ := h.wayN hn i i (Nat.le_refl i) (by omega)
    exact ⟨l, hw, by omega⟩
def sp_law_tree (K : PySem.W.Frag) : Sp := fun vs H Q _ => ∃ (a : Addr) (ns : List Int) (m : Int) (b : Bool) (c : Int), vs = [.ref a, .int m, .bl b, .int c] ∧ SqL K H a (ns.map V.int) ∧ 0 ≤ m ∧ m ≤ 68 ∧
  ∀ t p H', Same H H' → H p = none → H' p = some (.dK (kvT t)) → TreeOk c m.toNat t → (t.map (·.1)).Nodup → t.length ≤ m.toNat → Q (.ref p) H'
set_option maxHeartbeats 4000000 in
theorem ok_law_tree (T : Tx K mg) : FnOk P w K mg base CX0 2 T.a_law_tree T.d_law_tree ["_law_script", "_law_size", "_law_wide", "_law_cell"] (sp_law_tree K) := by
  refine T.F_law_tree.ok sc_law_tree (fun vs H Q E h => ?_) (fun cdv A outer s H vs Q E hr h => ?_)
  · obtain ⟨a, ns, n, b, c, rfl, _⟩ := h
    rfl
  · obtain ⟨a, ns, m, b, c, rfl, hS, hm, hn, q⟩ := h
    obtain ⟨n, rfl⟩ := Int.eq_ofNat_of_zero_le hm
    have hu := hu_of hr
    refine ⟨_, pss_cons (ps_set (i := 4) sc_law_tree.nd rfl (.inl rfl) pe_dnewK)
      (pss_cons (ps_for PassesOwn.never rfl (pi_range1 (by rfl) T.m_range (pa_cons (pv 1) pa_nil)) (pg_name (i := 5) sc_law_tree.nd rfl (Or.inl rfl)) (pss_cons (ps_set (i := 6) sc_law_tree.nd rfl (.inl rfl) (pe_op op_mod (pe_call (ok_law_cell_at T) (hr.mono (by decide)) (by rfl) T.g_law_cell_at T.F_law_cell_at.kp T.b_law_cell_at .nil pass0 (pa_cons (pv 0) (pa_cons (pe_op op_add pe_int (pv 5)) pa_nil))) (pe_op op_add (pv 5) pe_int)))
      (pss_cons (ps_if (pt_cmpR op_gt (pv 5) pe_int (nomark _)) (pss_one (ps_set (i := 6) sc_law_tree.nd rfl (.inl rfl) (pe_ix ix_list (pe_lst (pa_cons (pe_op op_sub (pe_op op_add (pv 5) pe_int) (pe_op op_mod (pe_call (ok_law_cell_at T) (hr.mono (by decide)) (by rfl) T.g_law_cell_at T.F_law_cell_at.kp T.b_law_cell_at .nil pass0 (pa_cons (pv 0) (pa_cons pe_int pa_nil))) pe_int)) (pa_cons (pe_op op_mul pe_int (pe_op op_mod (pe_op op_mod (pv 5) pe_int) pe_int)) pa_nil))) (pe_callTy call_int1 (by rfl) T.m_int (by decide +kernel) (pa_cons (pv 2) pa_nil)) (fun _ _ => rfl)))) pss_nil)
      (pss_cons (ps_if (pt_cmpR op_eq (pv 6) pe_int (nomark _)) (pss_one (ps_dput hu (pv 4) (pe_call (ok_law_name T) (hr.mono (by decide)) (by rfl) T.g_law_name T.F_law_name.kp T.b_law_name .nil pass0 (pa_cons (pv 5) (pa_cons (pv 3) pa_nil))) pe_int rfl)) pss_nil)
      (pss_one (ps_if (pt_cmpR op_gt (pv 6) pe_int (nomark _)) (pss_one (ps_dput hu (pv 4) (pe_call (ok_law_name T) (hr.mono (by decide)) (by rfl) T.g_law_name T.F_law_name.kp T.b_law_name .nil pass0 (pa_cons (pv 5) (pa_cons (pv 3) pa_nil))) (pe_call (ok_law_name T) (hr.mono (by decide)) (by rfl) T.g_law_name T.F_law_name.kp T.b_law_name .nil pass0 (pa_cons (pe_op op_sub (pv 6) pe_int) (pa_cons (pv 3) pa_nil))) rfl)) pss_nil))))))
      (pss_one (ps_ret (pv 4)))), ?_⟩
    intro p np
    have s0 := same_upd (o := HO.dK []) np
    refine ⟨_, rfl, n, rfl, by omega, by omega, for_range (n := n) (fun i σ H2 => ∃ t v5 v6, σ = [some (.ref a), some (.int n), some (.bl b), some (.int c), some (.ref p), v5, v6] ∧ Same H H2 ∧ H2 p = some (.dK (kvT t)) ∧ TreeOk c i t ∧ (t.map (·.1)).Nodup ∧ t.length ≤ i)
      ⟨[], none, none, rfl, s0, upd_same, (fun k v h => nomatch h), List.nodup_nil, Nat.le_refl _⟩ ?_ ?_⟩
    · rintro i σ H2 hi ⟨t, v5, v6, rfl, s2, hp, ht, hnd, htl⟩
      have hS2 := s2.seq hS
      rw [Int.zero_add]
      walk_at "rd"
      refine ite2 (fun c0 => ?_) (fun c0 => ?_)
      · have c0 := of_decide_eq_true c0
        walk_at "rd"
        intro l nl
        have hp3 := same_upd (o := HO.lst [V.int ((i : Int) + 1 - cellOf ns (Int.toNat 3) % 2), V.int (2 * ((i : Int) % 3 % 2))]) nl _ _ hp
        have s3 := s2.trans (same_upd (o := HO.lst [V.int ((i : Int) + 1 - cellOf ns (Int.toNat 3) % 2), V.int (2 * ((i : Int) % 3 % 2))]) nl)
        walk_at "rd"
        refine .inr ⟨b, rfl, ?_⟩
        cases b with
        | false =>
          refine ⟨_, _, _, _, rfl, rfl, SqL.of upd_same, atI_nat (j := 0) rfl, ?_⟩
          walk_at "rd"
          refine ite2 (fun c1 => ?_) (fun c1 => ?_)
          · have c1 := V.int.inj (of_decide_eq_true c1)
            walk_at "rd"
            intro H4 s4
            have hp4 := s4 _ _ hp3
            refine ⟨p, _, rfl, DPut.k (k := Sum.inl (nameOf c i)) hp4 (small1000 (by rw [kvT_length]; omega)), ?_⟩
            walk_at "rd"
            refine ite2 (fun z => absurd (of_decide_eq_true z) (by omega)) (fun _ => ?_)
            refine ⟨putT t (nameOf c i) 0, _, _, rfl, same_set (s3.trans s4) np, ?_, ht.put (.inl rfl), nd_putT _ _ hnd, Nat.le_trans (putT_length t _ _) (by omega)⟩
            exact upd_same.trans (congrArg (fun z => some (HO.dK z)) (putK_kvT t (nameOf c i) 0))
          · have c1 := fun z => c1 (decide_eq_true (congrArg V.int z))
            walk_at "rd"
            refine ite2 (fun c2 => ?_) (fun c2 => ?_)
            · have c2 := of_decide_eq_true c2
              walk_at "rd"
              intro H4 s4
              walk_at "rd"
              intro H5 s5
              have hp4 := s5 _ _ (s4 _ _ hp3)
              refine ⟨p, _, rfl, DPut.k (k := Sum.inl (nameOf c i)) hp4 (small1000 (by rw [kvT_length]; omega)), ?_⟩
              refine ⟨putT t (nameOf c i) (nameOf c (((i : Int) + 1 - cellOf ns (Int.toNat 3) % 2) - 2)), _, _, rfl, same_set ((s3.trans s4).trans s5) np, ?_, ht.put (.inr ⟨(((i : Int) + 1 - cellOf ns (Int.toNat 3) % 2) - 2).toNat, by omega, by rw [Int.toNat_of_nonneg (by omega)]⟩), nd_putT _ _ hnd, Nat.le_trans (putT_length t _ _) (by omega)⟩
              exact upd_same.trans (congrArg (fun z => some (HO.dK z)) (putK_kvT t (nameOf c i) _))
            · walk_at "rd"
              exact ⟨ht.mono (Nat.le_succ i), hnd, Nat.le_succ_of_le htl⟩
        | true =>
          refine ⟨_, _, _, _, rfl, rfl, SqL.of upd_same, atI_nat (j := 1) rfl, ?_⟩
          walk_at "rd"
          refine ite2 (fun c1 => ?_) (fun c1 => ?_)
          · have c1 := V.int.inj (of_decide_eq_true c1)
            walk_at "rd"
            intro H4 s4
            have hp4 := s4 _ _ hp3
            refine ⟨p, _, rfl, DPut.k (k := Sum.inl (nameOf c i)) hp4 (small1000 (by rw [kvT_length]; omega)), ?_⟩
            walk_at "rd"
            refine ite2 (fun z => absurd (of_decide_eq_true z) (by omega)) (fun _ => ?_)
            refine ⟨putT t (nameOf c i) 0, _, _, rfl, same_set (s3.trans s4) np, ?_, ht.put (.inl rfl), nd_putT _ _ hnd, Nat.le_trans (putT_length t _ _) (by omega)⟩
            exact upd_same.trans (congrArg (fun z => some (HO.dK z)) (putK_kvT t (nameOf c i) 0))
          · have c1 := fun z => c1 (decide_eq_true (congrArg V.int z))
            walk_at "rd"
            refine ite2 (fun c2 => ?_) (fun c2 => ?_)
            · have c2 := of_decide_eq_true c2
              walk_at "rd"
              intro H4 s4
              walk_at "rd"
              intro H5 s5
              have hp4 := s5 _ _ (s4 _ _ hp3)
              refine ⟨p, _, rfl, DPut.k (k := Sum.inl (nameOf c i)) hp4 (small1000 (by rw [kvT_length]; omega)), ?_⟩
              refine ⟨putT t (nameOf c i) (nameOf c ((2 * ((i : Int) % 3 % 2)) - 2)), _, _, rfl, same_set ((s3.trans s4).trans s5) np, ?_, ht.put (.inr ⟨((2 * ((i : Int) % 3 % 2)) - 2).toNat, by omega, by rw [Int.toNat_of_nonneg (by omega)]⟩), nd_putT _ _ hnd, Nat.le_trans (putT_length t _ _) (by omega)⟩
              exact upd_same.trans (congrArg (fun z => some (HO.dK z)) (putK_kvT t (nameOf c i) _))
            · walk_at "rd"
              exact ⟨ht.mono (Nat.le_succ i), hnd, Nat.le_succ_of_le htl⟩
      · have hp3 := hp
        have s3 := s2
        have c0 : ¬ (8 : Int) < i := fun z => c0 (decide_eq_true z)
        have m0 := Int.emod_nonneg (cellOf ns (Int.toNat (3 + (i : Int)))) (show (i : Int) + 2 ≠ 0 by omega)
        have m1 := Int.emod_lt_of_pos (cellOf ns (Int.toNat (3 + (i : Int)))) (show (0 : Int) < (i : Int) + 2 by omega)
        walk_at "rd"
        refine ite2 (fun c1 => ?_) (fun c1 => ?_)
        · have c1 := V.int.inj (of_decide_eq_true c1)
          walk_at "rd"
          intro H4 s4
          have hp4 := s4 _ _ hp3
          refine ⟨p, _, rfl, DPut.k (k := Sum.inl (nameOf c i)) hp4 (small1000 (by rw [kvT_length]; omega)), ?_⟩
          walk_at "rd"
          refine ite2 (fun z => absurd (of_decide_eq_true z) (by omega)) (fun _ => ?_)
          refine ⟨putT t (nameOf c i) 0, _, _, rfl, same_set (s3.trans s4) np, ?_, ht.put (.inl rfl), nd_putT _ _ hnd, Nat.le_trans (putT_length t _ _) (by omega)⟩
          exact upd_same.trans (congrArg (fun z => some (HO.dK z)) (putK_kvT t (nameOf c i) 0))
        · have c1 := fun z => c1 (decide_eq_true (congrArg V.int z))
          walk_at "rd"
          refine ite2 (fun c2 => ?_) (fun c2 => ?_)
          · have c2 := of_decide_eq_true c2
            walk_at "rd"
            intro H4 s4
            walk_at "rd"
            intro H5 s5
            have hp4 := s5 _ _ (s4 _ _ hp3)
            refine ⟨p, _, rfl, DPut.k (k := Sum.inl (nameOf c i)) hp4 (small1000 (by rw [kvT_length]; omega)), ?_⟩
            refine ⟨putT t (nameOf c i) (nameOf c ((cellOf ns (Int.toNat (3 + (i : Int))) % ((i : Int) + 2)) - 2)), _, _, rfl, same_set ((s3.trans s4).trans s5) np, ?_, ht.put (.inr ⟨((cellOf ns (Int.toNat (3 + (i : Int))) % ((i : Int) + 2)) - 2).toNat, by omega, by rw [Int.toNat_of_nonneg (by omega)]⟩), nd_putT _ _ hnd, Nat.le_trans (putT_length t _ _) (by omega)⟩
            exact upd_same.trans (congrArg (fun z => some (HO.dK z)) (putK_kvT t (nameOf c i) _))
          · walk_at "rd"
            exact ⟨ht.mono (Nat.le_succ i), hnd, Nat.le_succ_of_le htl⟩
    · rintro σ H2 ⟨t, v5, v6, rfl, s2, hp, ht, hnd, htl⟩
      refine ⟨_, rfl, ?_⟩
      exact q t p H2 s2 np hp ht hnd htl
/-! ### _law_numbers: of two that are the same -/
def sp_law_numbers (K : PySem.W.Frag) : Sp := fun vs H Q _ => ∃ (a b : Addr) (l : List Int), vs = [.ref a, .ref b] ∧ H a = some (.lst (l.map V.int)) ∧ H b = some (.lst (l.map V.int)) ∧ l.length ≤ 900 ∧ Q (.bl true) H
set_option maxHeartbeats 1000000 in
theorem ok_law_numbers (T : Tx K mg) : FnOk P w K mg base CX0 2 T.a_law_numbers T.d_law_numbers ["_law_found", "_law_due"] (sp_law_numbers K) := by
  refine T.F_law_numbers.ok sc_law_numbers (fun vs H Q E h => ?_) (fun cdv A outer s H vs Q E hr h => ?_)
  · obtain ⟨a, b, l, rfl, _⟩ := h
    rfl
  · obtain ⟨a, b, l, rfl, ha, hb, hl, q⟩ := h
    refine ⟨_, pss_cons (ps_if (PW.pt (pw_or (pt_not (pt_val (pe_callB call_isi (by rfl) T.m_isinstance (by decide +kernel) (pa_cons (pv 0) (pa_cons (pe_bltn (v := .ty "list") (by rfl) T.m_list (by decide +kernel) rfl) pa_nil))))) (pw_or1 (pt_cmpR op_ne (pe_callB call_len_seq (by rfl) T.m_len PySem.boot_len (pa_cons (pv 0) pa_nil)) (pe_callB call_len_seq (by rfl) T.m_len PySem.boot_len (pa_cons (pv 1) pa_nil)) (nomark _))))) (pss_one (ps_ret pe_bl)) pss_nil)
      (pss_cons (ps_for PassesOwn.never rfl (pi_range1 (by rfl) T.m_range (pa_cons (pe_callB call_len_seq (by rfl) T.m_len PySem.boot_len (pa_cons (pv 1) pa_nil)) pa_nil)) (pg_name (i := 2) sc_law_numbers.nd rfl (Or.inl rfl)) (pss_one (ps_if (PW.pt (pw_or (pt_not (pt_val (pe_call (ok_law_whole T) (hr.mono (by decide)) (by rfl) T.g_law_whole T.F_law_whole.kp T.b_law_whole .nil pass0 (pa_cons (pe_ix ix_list (pv 0) (pv 2) (fun _ _ => rfl)) pa_nil)))) (pw_or1 (pt_cmpR op_ne (pe_ix ix_list (pv 0) (pv 2) (fun _ _ => rfl)) (pe_ix ix_list (pv 1) (pv 2) (fun _ _ => rfl)) (nomark _))))) (pss_one (ps_ret pe_bl)) pss_nil)))
      (pss_one (ps_ret pe_bl))), ?_⟩
    walk_at "rd"
    refine ⟨a, _, rfl, .inl (SqL.of ha), _, rfl, b, _, rfl, .inl (SqL.of hb), rfl, _, rfl, ?_⟩
    rw [decide_eq_true rfl]
    refine iteF ?_
    refine ⟨_, rfl, b, _, rfl, .inl (SqL.of hb), ?_⟩
    refine ⟨l.length, by rw [List.length_map], by omega, by omega, for_range (n := l.length) (fun i σ H2 => ∃ v2, σ = [some (.ref a), some (.ref b), v2] ∧ H2 = H) ⟨none, rfl, rfl⟩ ?_ ?_⟩
    · rintro i σ H2 hi ⟨v2, rfl, rfl⟩
      rw [Int.zero_add]
      have g : (l.map V.int)[i]? = some (.int l[i]) := by
        rw [List.getElem?_map, List.getElem?_eq_getElem hi]
        rfl
      have at1 := atI_nat g
      walk_at "rd"
      refine ⟨a, _, _, _, rfl, rfl, SqL.of ha, at1, ?_⟩
      walk_at "rd"
      refine ⟨a, _, _, _, rfl, rfl, SqL.of ha, at1, ?_⟩
      walk_at "rd"
      refine ⟨b, _, _, _, rfl, rfl, SqL.of hb, at1, ?_⟩
      walk_at "rd"
    · rintro σ H2 ⟨v2, rfl, rfl⟩
      exact q
/-! ### walks over a locked dict -/
theorem lock_back {H H6 : Hp} {d : Addr} {u : HO} {od : Obj} (hd : H d = some u) (s : Same (upd H d (.frz od u)) H6) : Same H (upd H6 d u) := fun b o e => by
  by_cases c : b = d
  · subst c
    rw [upd_same, ← e, hd]
  · rw [upd_ne c]
    exact s _ _ (by rw [upd_ne c]; exact e)
theorem lc_keys {d : Addr} {o : Obj} {kvs : List (Key × V)} {g : TG} {tt : TT} {te : TE} {vs : List Nat} {σ : L2.St} {H1 : Hp} {D : Addr} {Qd : Hp → Prop} (Pv : Nat → Hp → Prop) (h0 : Pv 0 (upd H1 D (.lst []))) (hl : ∀ i H, Pv i H → H d = some (.frz o (.dK kvs)))
    (hs : ∀ i k v H, kvs[i]? = some (k, v) → Pv i H → g (kV k) (wipe σ vs) H fun σ2 H2 => wipe σ2 vs = wipe σ vs ∧ tt σ2 H2 fun b H3 =>
      if b = true then te σ2 H3 fun y H4 => ∃ acc, H4 D = some (.lst acc) ∧ acc.length < sizeLine ∧ Pv (i + 1) (upd H4 D (.lst (acc ++ [y]))) else Pv (i + 1) H3) (hd : ∀ H, Pv kvs.length H → Qd H) :
    ∃ W : Nat → Nat → Hp → Prop, (∃ m, W 0 m (upd H1 D (.lst []))) ∧ ∀ i m H, W i m H →
      ((Itk d o kvs).stop i H ∧ Qd H) ∨ ((Itk d o kvs).go i H ∧ ∃ Nx : Hp → Prop, (∀ H', Nx H' → ∃ m', m' < m ∧ W (i + 1) m' H') ∧ ∀ x H', (Itk d o kvs).yld i H x H' → g x (wipe σ vs) H' fun σ2 H2 => wipe σ2 vs = wipe σ vs ∧ tt σ2 H2 fun b H3 =>
        if b = true then te σ2 H3 fun y H4 => ∃ acc, H4 D = some (.lst acc) ∧ acc.length < sizeLine ∧ Nx (upd H4 D (.lst (acc ++ [y]))) else Nx H3) := by
  refine ⟨fun i m H => m = kvs.length - i ∧ i ≤ kvs.length ∧ Pv i H, ⟨kvs.length, by simp, Nat.zero_le _, h0⟩, ?_⟩
  rintro i m H ⟨rfl, hi, p⟩
  have q := hl i H p
  by_cases hlt : i < kvs.length
  · refine .inr ⟨⟨q, hlt⟩, Pv (i + 1), fun H' p' => ⟨kvs.length - (i + 1), by omega, rfl, hlt, p'⟩, fun x H' y => ?_⟩
    obtain ⟨e, k, v, ek, rfl⟩ := y
    subst e
    exact hs i k v _ ek p
  · have e : i = kvs.length := by omega
    subst e
    exact .inl ⟨⟨q, Nat.le_refl _⟩, hd H p⟩
/-- those of the keys that pass a test -/
theorem keep_snoc {p : Int → Bool} {t : List (Int × Int)} {i : Nat} {z : Int × Int} (hz : t[i]? = some z) : ((t.take (i + 1)).map (·.1)).filter p = ((t.take i).map (·.1)).filter p ++ (if p z.1 = true then [z.1] else []) := by
  rw [List.take_add_one, hz, List.map_append, List.filter_append]
  refine congrArg _ ?_
  by_cases c : p z.1 = true
  · rw [if_pos c]
    exact List.filter_cons_of_pos c
  · rw [if_neg c]
    exact List.filter_cons_of_neg c
/-- those straight under one -/
def kidsT (t : List (Int × Int)) (u : Int) : List Int := (t.map (·.1)).filter fun c => decide (look t c = some u)
/-! ### children -/
def sp_children (K : PySem.W.Frag) : Sp := fun vs H Q _ => ∃ (d : Addr) (t : List (Int × Int)) (u : Int), vs = [.ref d, .int u] ∧ H d = some (.dK (kvT t)) ∧ (t.map (·.1)).Nodup ∧ t.length ≤ 400 ∧
  ∀ H' p (l : List Int), Same H H' → H p = none → H' p = some (.lst (l.map V.int)) → l.Perm (kidsT t u) → l.Pairwise (· ≤ ·) → Q (.ref p) H'
set_option maxHeartbeats 1000000 in
theorem ok_children (T : Tx K mg) : FnOk P w K mg base CX0 1 T.a_children T.d_children ["tree", "folder"] (sp_children K) := by
  refine T.F_children.ok sc_children (fun vs H Q E h => ?_) (fun cdv A outer s H vs Q E hr h => ?_)
  · obtain ⟨d, t, u, rfl, _⟩ := h
    rfl
  · obtain ⟨d, t, u, rfl, hd, nd, hl, q⟩ := h
    have hu := hu_of hr
    refine ⟨_, pss_one (ps_ret (pe_callB cr_sortedI (by rfl) T.m_sorted (by decide +kernel) (pa_cons (pe_lock (pe_lc (own := [("child", 2)]) (g := gName 2) rfl sc_children.nd (pi_keys (pv 0)) (blkOk_by (own := [("child", 2)]) (N := ["tree", "folder", "child"]) (sc := defScope s_children) (by decide +kernel)) (fun _ _ _ _ _ => pg_name (i := 2) sc_children.nd rfl (Or.inl rfl)) (fun _ _ _ _ _ => pts_one (pt_cmpR op_eq (pe_dget hu (pv 0) (pv 2) (fun _ _ => rfl)) (pv 1) (nomark _))) (fun _ _ _ _ _ => pv 2))) pa_nil))), ?_⟩
    rw [st_children]
    refine ⟨d, _, hd, trivial, fun od => ?_⟩
    refine ⟨_, rfl, d, od, rfl, .inl ⟨kvT t, upd_same, fun D nD => ?_⟩⟩
    refine lc_keys (fun i H2 => Same (upd H d (.frz od (.dK (kvT t)))) H2 ∧ H2 D = some (.lst ((((t.take i).map (·.1)).filter fun c => decide (look t c = some u)).map V.int))) ⟨same_upd nD, upd_same⟩ (fun i H2 z => z.1 _ _ upd_same) ?_ ?_
    · rintro i k v H2 hi ⟨s2, hD⟩
      obtain ⟨z, hz, rfl, rfl⟩ := kvT_get hi
      have hlk := mem_look nd (List.mem_of_getElem? hz)
      have rdd : Rd H2 d (.dK (kvT t)) := .inr ⟨od, s2 _ _ upd_same⟩
      have g : DGet H2 d (.int z.1) ((look t z.1).map V.int) := .inl ⟨kvT t, Sum.inl z.1, rdd, rfl, (valV_kvT z.1 t).symm⟩
      rw [hlk] at g
      have l1 : (((t.take i).map (·.1)).filter fun c => decide (look t c = some u)).length ≤ 400 := by
        refine Nat.le_trans (List.length_filter_le _ _) ?_
        rw [List.length_map, List.length_take]
        omega
      walk_at "rd"
      rw [keep_snoc hz]
      refine ite2 (fun c => ?_) (fun c => ?_)
      · have c : z.2 = u := V.int.inj (of_decide_eq_true c)
        rw [if_pos (by rw [hlk, c]; exact decide_eq_true rfl)]
        walk_at "rd"
        refine ⟨_, hD, small1000 (by rw [List.length_map]; omega), same_set s2 nD, ?_⟩
        rw [upd_same, List.map_append]
        rfl
      · have c : ¬ z.2 = u := fun k => c (decide_eq_true (congrArg V.int k))
        rw [if_neg (by rw [hlk, decide_eq_false (fun z => c (Option.some.inj z))]; exact Bool.false_ne_true), List.append_nil]
        exact ⟨s2, hD⟩
    · rintro H2 ⟨s2, hD⟩
      rw [kvT_length, List.take_length] at hD
      refine ⟨s2 _ _ upd_same, ?_⟩
      have sB := lock_back hd s2
      have dD : D ≠ d := fun e => by rw [e, upd_same] at nD; cases nD
      have hD2 : upd H2 d (.dK (kvT t)) D = some (.lst ((kidsT t u).map V.int)) := (upd_ne dD).trans hD
      refine ⟨D, kidsT t u, rfl, SqL.of hD2, fun us p perm srt np => ?_⟩
      exact q _ p us (sB.trans (same_upd np)) (sB.free np) upd_same perm srt
/-! ### _children_falling -/
structure FallAt (H : Hp) (fd : Addr) (t : List (Int × Int)) (ys : List Int) : Prop where
  ex : ∃ kvs : List (Key × V), H fd = some (.dK kvs) ∧ ∀ u : Int, (valV kvs (Sum.inl u) = none ∧ fl t ys u = []) ∨ ∃ p, valV kvs (Sum.inl u) = some (.ref p) ∧ H p = some (.lst ((fl t ys u).map V.int))
theorem FallAt.same {H H' : Hp} {fd : Addr} {t : List (Int × Int)} {ys : List Int} (F : FallAt H fd t ys) (s : Same H H') : FallAt H' fd t ys := by
  obtain ⟨kvs, h1, h2⟩ := F.ex
  exact ⟨kvs, s _ _ h1, fun u => (h2 u).imp id fun ⟨p, e1, e2⟩ => ⟨p, e1, s _ _ e2⟩⟩
theorem fl_snoc {t : List (Int × Int)} {ys : List Int} {i : Nat} {f u : Int} (hf : ys[i]? = some f) : fl t (ys.take (i + 1)) u = fl t (ys.take i) u ++ (if look t f = some u then [f] else []) := by
  unfold fl
  rw [List.take_add_one, hf, List.filter_append]
  refine congrArg _ ?_
  by_cases c : look t f = some u
  · rw [if_pos c]
    exact List.filter_cons_of_pos (decide_eq_true c)
  · rw [if_neg c]
    exact List.filter_cons_of_neg (by rw [decide_eq_false c]; exact Bool.false_ne_true)
def sp_children_falling (K : PySem.W.Frag) : Sp := fun vs H Q _ => ∃ (d : Addr) (t : List (Int × Int)), vs = [.ref d] ∧ H d = some (.dK (kvT t)) ∧ (t.map (·.1)).Nodup ∧ t.length ≤ 400 ∧
  ∀ H' fd ys, Same H H' → H fd = none → FallAt H' fd t ys → ys.Perm (t.map (·.1)) → ys.Pairwise (· > ·) → Q (.ref fd) H'
set_option maxHeartbeats 2000000 in
theorem ok_children_falling (T : Tx K mg) : FnOk P w K mg base CX0 1 T.a_children_falling T.d_children_falling ["tree"] (sp_children_falling K) := by
  refine T.F_children_falling.ok sc_children_falling (fun vs H Q E h => ?_) (fun cdv A outer s H vs Q E hr h => ?_)
  · obtain ⟨d, t, rfl, _⟩ := h
    rfl
  · obtain ⟨d, t, rfl, hd, nd, hl, q⟩ := h
    have hu := hu_of hr
    refine ⟨_, pss_cons (ps_set (i := 1) sc_children_falling.nd rfl (.inl rfl) pe_dnewK)
      (pss_cons (ps_for PassesOwn.never rfl (pi_list (pe_callBK (cr_sortedDR rfl) (by rfl) T.m_sorted (by decide +kernel) (pa_cons (pv 0) pa_nil) (pk_cons pe_bl pk_nil))) (pg_name (i := 2) sc_children_falling.nd rfl (Or.inl rfl)) (pss_one (ps_expr (pe_bm PySem.F.plainAttrs_list PySem.F.slot_list_append PySem.F.type_list_append mt_append (pe_dsetd (pv 1) (pe_dget hu (pv 0) (pv 2) (fun _ _ => rfl)) (pe_lst pa_nil) ⟨rfl, rfl, rfl, rfl⟩) (pa_cons (pv 2) pa_nil)))))
      (pss_one (ps_ret (pv 1)))), ?_⟩
    rw [st_children_falling]
    intro fd nfd
    have s1 := same_upd (o := HO.dK []) nfd
    have hf1 := upd_same (H := H) (a := fd) (o := HO.dK [])
    generalize upd H fd (HO.dK []) = H1 at s1 hf1 ⊢
    have hd1 := s1 _ _ hd
    walk_at "rq"
    refine ⟨d, kvT t, t.map (·.1), rfl, rfl, Rd.of hd1, by unfold kvT; rw [List.map_map, List.map_map]; rfl, fun ys p perm srt np => ?_⟩
    have sp := same_upd (o := HO.lst (ys.map V.int)) np
    have hp2 := upd_same (H := H1) (a := p) (o := HO.lst (ys.map V.int))
    generalize upd H1 p (HO.lst (ys.map V.int)) = H2 at sp hp2 ⊢
    have hf2 := sp _ _ hf1
    have s02 := s1.trans sp
    have efp : fd ≠ p := ne_of_none hf1 np
    have yl : ys.length ≤ 400 := by rw [perm.length_eq, List.length_map]; exact hl
    refine ⟨p, rfl, ⟨_, SqL.of hp2⟩, for_list (K := K) (a := p) (xs := ys.map V.int) (fun i σ H3 => ∃ (kvs : List (Key × V)) (v2 : Option V), σ = [some (.ref d), some (.ref fd), v2] ∧ Same H H3 ∧ H3 p = some (.lst (ys.map V.int)) ∧ H3 fd = some (.dK kvs) ∧ kvs.length ≤ i ∧
        (∀ u : Int, (valV kvs (Sum.inl u) = none ∧ fl t (ys.take i) u = []) ∨ ∃ a, valV kvs (Sum.inl u) = some (.ref a) ∧ H3 a = some (.lst ((fl t (ys.take i) u).map V.int)) ∧ a ≠ p ∧ H a = none) ∧ ∀ u v a, valV kvs (Sum.inl u) = some (.ref a) → valV kvs (Sum.inl v) = some (.ref a) → u = v)
      ⟨[], none, rfl, s02, hp2, hf2, Nat.le_refl _, fun u => .inl ⟨rfl, rfl⟩, fun u v a h => nomatch h⟩ (fun i σ H3 _ ⟨_, _, _, _, z, _⟩ => SqL.of z) ?_ ?_⟩
    · rintro i x σ H3 hi ⟨kvs, v2, rfl, s3, hp3, hf3, hk, look3, inj3⟩
      rw [List.getElem?_map] at hi
      obtain ⟨f, hfi, rfl⟩ := Option.map_eq_some_iff.mp hi
      have il : i < ys.length := (List.getElem?_eq_some_iff.mp hfi).1
      obtain ⟨u, hfu⟩ : ∃ u, look t f = some u := Option.isSome_iff_exists.mp (look_keys.mp (perm.mem_iff.mp (List.mem_of_getElem? hfi)))
      have hd3 := s3 _ _ hd
      have g := DGet.k (k := Sum.inl f) hd3
      rw [valV_kvT, hfu] at g
      walk_at "nm"
      refine ⟨_, rfl, fd, rfl, .inl ⟨kvs, .inl hf3⟩, ?_⟩
      refine ⟨_, rfl, _, rfl, d, _, rfl, g, ?_⟩
      refine ⟨Nat.zero_le _, fun e ne => ?_⟩
      have se := same_upd (o := HO.lst []) ne
      have he := upd_same (H := H3) (a := e) (o := HO.lst [])
      generalize upd H3 e (HO.lst []) = H4 at se he ⊢
      have hf4 := se _ _ hf3
      have nfe : fd ≠ e := ne_of_none hf3 ne
      have npe : p ≠ e := ne_of_none hp3 ne
      have flen : (fl t (ys.take i) u).length ≤ 400 := by
        refine Nat.le_trans (List.length_filter_le _ _) ?_
        rw [List.length_take]
        omega
      have other : ∀ v, v ≠ u → fl t (ys.take (i + 1)) v = fl t (ys.take i) v := fun v c => by rw [fl_snoc hfi, if_neg (by rw [hfu]; exact fun z => c (Option.some.inj z).symm), List.append_nil]
      have own : fl t (ys.take (i + 1)) u = fl t (ys.take i) u ++ [f] := by rw [fl_snoc hfi, if_pos hfu]
      refine ⟨kvs, Sum.inl u, hf4, rfl, small1000 (by omega), fun v hv => ?_, fun hv => ?_⟩
      · rcases look3 u with ⟨h, _⟩ | ⟨a, h1, h2, h3, h4⟩
        · rw [h] at hv
          cases hv
        · rw [h1] at hv
          cases hv
          have ha4 := se _ _ h2
          refine ⟨.inl ⟨rfl, _, SqL.of ha4⟩, _, rfl, a, _, _, rfl, rfl, ha4, small1000 (by rw [List.length_map]; omega), ?_⟩
          refine ⟨kvs, _, rfl, same_set (s3.trans se) h4, (upd_ne h3.symm).trans (se _ _ hp3), (upd_ne (ne_of hf4 ha4 fun z => nomatch z)).trans hf4, by omega, fun v => ?_, inj3⟩
          by_cases c : v = u
          · subst c
            refine .inr ⟨a, h1, ?_, h3, h4⟩
            rw [upd_same, own, List.map_append]
            rfl
          · rw [other v c]
            refine (look3 v).imp id fun ⟨b, k1, k2, k3, k4⟩ => ⟨b, k1, (upd_ne fun e => c ?_).trans (se _ _ k2), k3, k4⟩
            subst e
            exact inj3 v u b k1 h1
      · have fnil : fl t (ys.take i) u = [] := by
          rcases look3 u with ⟨_, h⟩ | ⟨a, h1, _⟩
          · exact h
          · rw [h1] at hv
            cases hv
        have hf5 := upd_same (H := H4) (a := fd) (o := HO.dK (putK kvs (Sum.inl u) (V.ref e)))
        have k5 : ∀ b o, H4 b = some o → b ≠ fd → upd H4 fd (.dK (putK kvs (Sum.inl u) (V.ref e))) b = some o := fun b o h n => (upd_ne n).trans h
        have s5 := same_set (o := HO.dK (putK kvs (Sum.inl u) (V.ref e))) (s3.trans se) nfd
        generalize upd H4 fd (.dK (putK kvs (Sum.inl u) (V.ref e))) = H5 at hf5 k5 s5 ⊢
        have he5 := k5 _ _ he nfe.symm
        have nHe : H e = none := s3.free ne
        refine ⟨.inl ⟨rfl, _, SqL.of he5⟩, _, rfl, e, _, _, rfl, rfl, he5, small1000 (by show 0 ≤ 1000; omega), ?_⟩
        refine ⟨_, _, rfl, same_set s5 nHe, (upd_ne npe).trans (k5 _ _ (se _ _ hp3) efp.symm), (upd_ne nfe).trans hf5, ?_, fun v => ?_, fun v w a h1 h2 => ?_⟩
        · have := length_putK kvs (Sum.inl u) (V.ref e)
          omega
        · rw [valV_put]
          by_cases c : v = u
          · subst c
            rw [if_pos rfl]
            refine .inr ⟨e, rfl, ?_, npe.symm, nHe⟩
            rw [upd_same, own, fnil]
            rfl
          · rw [if_neg fun z => c (Sum.inl.inj z), other v c]
            refine (look3 v).imp id fun ⟨b, k1, k2, k3, k4⟩ => ⟨b, k1, (upd_ne (ne_of_none k2 ne)).trans (k5 _ _ (se _ _ k2) (ne_of k2 hf3 fun z => nomatch z)), k3, k4⟩
        · rw [valV_put] at h1 h2
          have old : ∀ w, valV kvs (Sum.inl w) ≠ some (.ref e) := fun w h => by
            rcases look3 w with ⟨k, _⟩ | ⟨b, k1, k2, _⟩
            · rw [k] at h
              cases h
            · rw [k1] at h
              cases h
              rw [k2] at ne
              cases ne
          by_cases c1 : v = u
          · by_cases c2 : w = u
            · rw [c1, c2]
            · rw [if_pos (congrArg Sum.inl c1)] at h1
              cases h1
              rw [if_neg fun z => c2 (Sum.inl.inj z)] at h2
              exact absurd h2 (old w)
          · rw [if_neg fun z => c1 (Sum.inl.inj z)] at h1
            by_cases c2 : w = u
            · rw [if_pos (congrArg Sum.inl c2)] at h2
              cases h2
              exact absurd h1 (old v)
            · rw [if_neg fun z => c2 (Sum.inl.inj z)] at h2
              exact inj3 v w a h1 h2
    · rintro σ H3 ⟨kvs, v2, rfl, s3, hp3, hf3, hk, look3, inj3⟩
      rw [show (ys.map V.int).length = ys.length from List.length_map .., List.take_length] at look3
      walk_at "rd"
      refine q H3 fd ys s3 nfd ⟨kvs, hf3, fun u => (look3 u).imp id fun ⟨a, h1, h2, _⟩ => ⟨a, h1, h2⟩⟩ perm ?_
      have nd2 : ys.Nodup := (perm.nodup_iff).mpr nd
      exact (srt.and nd2).imp fun {x y} h => by
        have := h.1
        have := h.2
        omega
/-! ### rows -/
abbrev PR := Addr × (Int × Int)
def refsP (l : List PR) : List V := l.map fun x => V.ref x.1
def PrAt (H : Hp) (x : PR) : Prop := H x.1 = some (.tup [.int x.2.1, .int x.2.2])
theorem refsP_snoc (l : List PR) (x : PR) : refsP (l ++ [x]) = refsP l ++ [V.ref x.1] := by
  unfold refsP
  rw [List.map_append]
  rfl
theorem FallAt.get {H : Hp} {fd e : Addr} {t : List (Int × Int)} {ys : List Int} (F : FallAt H fd t ys) (he : H e = some (.lst [])) (u : Int) : ∃ o lp, DGet H fd (.int u) o ∧ o.getD (.ref e) = .ref lp ∧ H lp = some (.lst ((fl t ys u).map V.int)) := by
  obtain ⟨kvs, h1, h2⟩ := F.ex
  refine ⟨valV kvs (Sum.inl u), ?_⟩
  have g : DGet H fd (.int u) (valV kvs (Sum.inl u)) := DGet.k (k := Sum.inl u) h1
  rcases h2 u with ⟨k1, k2⟩ | ⟨p, k1, k2⟩
  · exact ⟨e, g, by rw [k1]; rfl, by rw [k2]; exact he⟩
  · exact ⟨p, g, by rw [k1]; rfl, k2⟩
/-- each row as it must be, behind those ahead -/
def RunOk (t : List (Int × Int)) (found : List (Int × Int)) : Prop := ∀ i z, found[i]? = some z → OkRow t (pathOf (found.take i)) z
def sp_rows (K : PySem.W.Frag) : Sp := fun vs H Q _ => ∃ (d : Addr) (t : List (Int × Int)), vs = [.ref d] ∧ H d = some (.dK (kvT t)) ∧ Fine t ∧ Pos t ∧ t.length ≤ 400 ∧
  ∀ H' q (l : List PR), Same H H' → H q = none → H' q = some (.lst (refsP l)) → (∀ x ∈ l, PrAt H' x) → RunOk t (l.map (·.2)) → (l.map fun x => x.2.2).Perm (hanging t) → Q (.ref q) H'
set_option maxHeartbeats 4000000 in
theorem ok_rows (T : Tx K mg) : FnOk P w K mg base CX0 2 T.a_rows T.d_rows ["tree"] (sp_rows K) := by
  refine T.F_rows.ok sc_rows (fun vs H Q E h => ?_) (fun cdv A outer s H vs Q E hr h => ?_)
  · obtain ⟨d, t, rfl, _⟩ := h
    rfl
  · obtain ⟨d, t, rfl, hd, F, pos, hl, q⟩ := h
    have hu := hu_of hr
    refine ⟨_, pss_cons (ps_set (i := 1) sc_rows.nd rfl (.inl rfl) (pe_call (ok_children_falling T) (hr.mono (by decide)) (by rfl) T.g_children_falling T.F_children_falling.kp T.b_children_falling .nil pass0 (pa_cons (pv 0) pa_nil)))
      (pss_cons (ps_set (i := 2) sc_rows.nd rfl (.inl rfl) (pe_lst pa_nil))
      (pss_cons (ps_setLc (i := 4) (own := [("folder", 3)]) (g := gName 3) (tt := tYes) rfl sc_rows.nd rfl rfl (sw_true rfl rfl rfl (by decide +kernel)) (pi_list (pe_dget2 hu (pv 1) (pe_glob (v := .int 0) rfl T.c_TOP ⟨_, rfl⟩) (pe_lst pa_nil) ⟨rfl, rfl, rfl, rfl⟩)) (blkOk_by (own := [("folder", 3)]) (N := ["tree", "falling", "found", "folder", "waiting", "depth", "child"]) (sc := defScope s_rows) (by decide +kernel)) (fun _ _ _ _ _ => pg_name (i := 3) sc_rows.nd rfl (Or.inl rfl)) (fun _ _ _ _ _ => pts_nil) (fun _ _ _ _ _ => pe_tup (pa_cons pe_int (pa_cons (pv 3) pa_nil))))
      (pss_cons (ps_while PassesOwn.never (pt_truth (pv 4) (by intro _; rfl)) (pss_cons (ps_asg (pe_bm0 PySem.F.plainAttrs_list PySem.F.slot_list_pop PySem.F.type_list_pop mt_pop (pv 4)) (pg_tup (by rfl) (pgs_cons (pg_name (i := 5) sc_rows.nd rfl (Or.inr rfl)) (pgs_cons (pg_name (i := 3) sc_rows.nd rfl (Or.inl rfl)) pgs_nil))))
      (pss_cons (ps_expr (pe_bm PySem.F.plainAttrs_list PySem.F.slot_list_append PySem.F.type_list_append mt_append (pv 2) (pa_cons (pe_tup (pa_cons (pv 5) (pa_cons (pv 3) pa_nil))) pa_nil)))
      (pss_one (ps_expr (pe_bm PySem.F.plainAttrs_list PySem.F.slot_list_extend PySem.F.type_list_extend mt_extend (pv 4) (pa_cons (pe_lc (own := [("child", 6)]) (g := gName 6) (tt := tYes) rfl sc_rows.nd (pi_list (pe_dget2 hu (pv 1) (pv 3) (pe_lst pa_nil) ⟨rfl, rfl, rfl, rfl⟩)) (blkOk_by (own := [("child", 6)]) (N := ["tree", "falling", "found", "folder", "waiting", "depth", "child"]) (sc := defScope s_rows) (by decide +kernel)) (fun _ _ _ _ _ => pg_name (i := 6) sc_rows.nd rfl (Or.inl rfl)) (fun _ _ _ _ _ => pts_nil) (fun _ _ _ _ _ => pe_tup (pa_cons (pe_op op_add (pv 5) pe_int) (pa_cons (pv 6) pa_nil)))) pa_nil)))))))
      (pss_one (ps_ret (pv 2)))))), ?_⟩
    rw [st_rows]
    refine ⟨_, rfl, d, t, rfl, hd, F.nd, hl, fun H1 fd ys s1 nfd FA perm falls => ?_⟩
    have hy : ∀ c, c ∈ ys ↔ (look t c).isSome = true := fun c => perm.mem_iff.trans look_keys
    have yl : ys.length ≤ 400 := by rw [perm.length_eq, List.length_map]; exact hl
    have fll : ∀ u, (fl t ys u).length ≤ 400 := fun u => Nat.le_trans (List.length_filter_le _ _) yl
    walk_at "rd"
    intro fq n_fq
    have s_fq := same_upd (o := HO.lst []) n_fq
    have t_fq := upd_same (H := H1) (a := fq) (o := HO.lst [])
    generalize upd H1 fq (HO.lst []) = H2 at s_fq t_fq ⊢
    have FA2 := FA.same s_fq
    obtain ⟨kv2, hk2, _⟩ := FA2.ex
    walk_at "nm"
    refine ⟨_, rfl, fd, rfl, .inl ⟨kv2, .inl hk2⟩, ?_⟩
    refine ⟨Nat.zero_le _, ?_⟩
    intro e0 n_e0
    have s_e0 := same_upd (o := HO.lst []) n_e0
    have t_e0 := upd_same (H := H2) (a := e0) (o := HO.lst [])
    generalize upd H2 e0 (HO.lst []) = H3 at s_e0 t_e0 ⊢
    obtain ⟨o, lp, g, go, hlp⟩ := (FA2.same s_e0).get t_e0 0
    refine ⟨o, g, ?_⟩
    rw [go]
    refine ⟨lp, rfl, ⟨_, SqL.of hlp⟩, fun wl nwl => ?_⟩
    have s13 := s_fq.trans s_e0
    refine lc_list (K := K) (a := lp) (xs := (fl t ys 0).map V.int) (fun i H4 => ∃ w : List PR, Same H3 H4 ∧ H4 wl = some (.lst (refsP w)) ∧ (∀ x ∈ w, PrAt H4 x) ∧ w.map (·.2) = ((fl t ys 0).take i).map fun c => (1, c)) ⟨[], same_upd nwl, upd_same, (fun x hx => nomatch hx), rfl⟩ (fun i H4 _ ⟨_, z, _⟩ => SqL.of (z _ _ hlp)) ?_ ?_
    · rintro i x H4 hi ⟨w, s4, h4, hw, ew⟩
      rw [List.getElem?_map] at hi
      obtain ⟨c, hc, rfl⟩ := Option.map_eq_some_iff.mp hi
      have il : i < (fl t ys 0).length := (List.getElem?_eq_some_iff.mp hc).1
      have lw : w.length = i := by rw [← List.length_map (f := fun x : PR => x.2), ew, List.length_map, List.length_take]; omega
      have := fll 0
      refine ⟨rfl, ?_⟩
      walk_at "rd"
      intro b n_b
      have s_b := same_upd (o := HO.tup [V.int 1, V.int c]) n_b
      have t_b := upd_same (H := H4) (a := b) (o := HO.tup [V.int 1, V.int c])
      generalize upd H4 b (HO.tup [V.int 1, V.int c]) = H5 at s_b t_b ⊢
      have h5 := s_b _ _ h4
      refine ⟨_, h5, small1000 (by unfold refsP; rw [List.length_map]; omega), w ++ [(b, (1, c))], same_set (s4.trans s_b) nwl, by rw [upd_same, refsP_snoc], fun x hx => ?_, ?_⟩
      · have k : PrAt H5 x := by
          rcases List.mem_append.mp hx with hx | hx
          · exact s_b _ _ (hw x hx)
          · rw [List.mem_singleton.mp hx]
            exact t_b
        exact (upd_ne (ne_of k h5 fun z => nomatch z)).trans k
      · rw [List.map_append, ew, List.take_add_one, hc, List.map_append]
        rfl
    rintro H4 ⟨w0, s4, h4, hw, ew⟩
    rw [show ((fl t ys 0).map V.int).length = (fl t ys 0).length from List.length_map .., List.take_length] at ew
    have s14 := s13.trans s4
    have nfq1 : H1 fq = none := n_fq
    have nwl1 : H1 wl = none := s13.free nwl
    have hfq4 := s4 _ _ (s_e0 _ _ t_fq)
    have efw : fq ≠ wl := ne_of_none (s_e0 _ _ t_fq) nwl
    have I0 := DInv.start (t := t) falls hy
    rw [← ew] at I0
    walk_at "nm"
    refine ⟨fun m σ H5 => ∃ (found wait : List PR) (v3 v5 v6 : Option V), σ = [some (.ref d), some (.ref fd), some (.ref fq), v3, some (.ref wl), v5, v6] ∧ Same H1 H5 ∧ H5 fq = some (.lst (refsP found)) ∧ H5 wl = some (.lst (refsP wait)) ∧ (∀ x ∈ found, PrAt H5 x) ∧ (∀ x ∈ wait, PrAt H5 x) ∧
      DInv t ys (found.map (·.2)) (wait.map (·.2)) ∧ m = t.length - found.length, ⟨_, [], w0, none, none, none, rfl, s14, hfq4, h4, (fun x hx => nomatch hx), hw, I0, rfl⟩, ?_⟩
    rintro m σ H5 ⟨found, wait, v3, v5, v6, rfl, s5, h1, h2, p1, p2, I, rfl⟩
    have sz := I.small
    rw [List.length_map, List.length_map] at sz
    refine ⟨_, rfl, !(refsP wait).isEmpty, .inl ⟨_, SqL.of h2, rfl⟩, ?_⟩
    rcases List.eq_nil_or_concat wait with rfl | ⟨w, x, rfl⟩
    · refine iteF ?_
      walk_at "rd"
      exact q H5 fq found (s1.trans s5) (s1.free nfq1) h1 p1 I.run (by have z := I.done pos F; rw [List.map_map] at z; exact z)
    · rw [List.concat_eq_append] at *
      have e1 : (!(refsP (w ++ [x])).isEmpty) = true := by
        rw [refsP_snoc]
        cases refsP w <;> rfl
      rw [e1]
      refine iteT ?_
      have hx : PrAt H5 x := p2 x (List.mem_append_right _ (List.mem_singleton.mpr rfl))
      rw [List.map_append] at I
      have I2 := DInv.step (d := x.2.1) (f := x.2.2) pos falls hy I
      have sz2 := I2.small
      rw [List.length_append, List.length_append, List.length_map, List.length_map, List.length_map, List.length_singleton] at sz2
      refine ⟨fun σ' H' => ∃ (fo wa : List PR) (v3 v5 v6 : Option V), σ' = [some (.ref d), some (.ref fd), some (.ref fq), v3, some (.ref wl), v5, v6] ∧ Same H1 H' ∧ H' fq = some (.lst (refsP fo)) ∧ H' wl = some (.lst (refsP wa)) ∧ (∀ x ∈ fo, PrAt H' x) ∧ (∀ x ∈ wa, PrAt H' x) ∧
        DInv t ys (fo.map (·.2)) (wa.map (·.2)) ∧ fo.length = found.length + 1, ?_, ?_⟩
      · rintro σ' H' ⟨fo, wa, v3', v5', v6', rfl, s', h1', h2', p1', p2', I', el⟩
        exact ⟨_, by rw [el]; omega, fo, wa, v3', v5', v6', rfl, s', h1', h2', p1', p2', I', rfl⟩
      · have lastx : (refsP (w ++ [x]))[(refsP (w ++ [x])).length - 1]? = some (.ref x.1) := by
          rw [refsP_snoc, List.length_append, List.length_singleton, Nat.add_sub_cancel, List.getElem?_append_right (Nat.le_refl _), Nat.sub_self]
          rfl
        walk_at "nm"
        refine ⟨_, rfl, .inl ⟨rfl, _, SqL.of h2⟩, wl, _, _, rfl, rfl, h2, lastx, ?_⟩
        rw [refsP_snoc, List.dropLast_concat]
        have k6 : ∀ b o, H5 b = some o → b ≠ wl → upd H5 wl (.lst (refsP w)) b = some o := fun b o h n => (upd_ne n).trans h
        have h26 := upd_same (H := H5) (a := wl) (o := HO.lst (refsP w))
        have s6 := same_set (o := HO.lst (refsP w)) s5 nwl1
        generalize upd H5 wl (.lst (refsP w)) = H6 at k6 h26 s6 ⊢
        have kt6 : ∀ {b xs}, H5 b = some (.tup xs) → H6 b = some (.tup xs) := fun {b xs} h => k6 _ _ h (ne_of h h2 fun z => nomatch z)
        have hx6 := kt6 hx
        refine ⟨x.1, _, rfl, SqT.of hx6, rfl, ?_⟩
        have h16 := k6 _ _ h1 efw
        walk_at "rd"
        refine ⟨.inl ⟨rfl, _, SqL.of h16⟩, ?_⟩
        walk_at "rd"
        intro b n_b
        have s_b := same_upd (o := HO.tup [V.int x.2.1, V.int x.2.2]) n_b
        have t_b := upd_same (H := H6) (a := b) (o := HO.tup [V.int x.2.1, V.int x.2.2])
        generalize upd H6 b (HO.tup [V.int x.2.1, V.int x.2.2]) = H7 at s_b t_b ⊢
        have h17 := s_b _ _ h16
        refine ⟨fq, _, _, rfl, rfl, h17, small1000 (by unfold refsP; rw [List.length_map]; omega), ?_⟩
        have k8 : ∀ a o, H7 a = some o → a ≠ fq → upd H7 fq (.lst (refsP found ++ [V.ref b])) a = some o := fun a o h n => (upd_ne n).trans h
        have h18 : upd H7 fq (.lst (refsP found ++ [V.ref b])) fq = some (.lst (refsP (found ++ [(b, x.2)]))) := by rw [upd_same, refsP_snoc]
        have s8 := same_set (o := HO.lst (refsP found ++ [V.ref b])) (s6.trans s_b) nfq1
        generalize upd H7 fq (.lst (refsP found ++ [V.ref b])) = H8 at k8 h18 s8 ⊢
        have kt8 : ∀ {a xs}, H5 a = some (.tup xs) → H8 a = some (.tup xs) := fun {a xs} h => k8 _ _ (s_b _ _ (kt6 h)) (ne_of h h1 fun z => nomatch z)
        have hb8 : PrAt H8 (b, x.2) := k8 _ _ t_b (ne_of t_b h17 fun z => nomatch z)
        have h28 := k8 _ _ (s_b _ _ h26) efw.symm
        have FA8 := FA.same s8
        obtain ⟨kv8, hk8, _⟩ := FA8.ex
        walk_at "nm"
        refine ⟨_, rfl, .inl ⟨rfl, _, SqL.of h28⟩, ?_⟩
        refine ⟨_, rfl, fd, rfl, .inl ⟨kv8, .inl hk8⟩, _, rfl, Nat.zero_le _, ?_⟩
        intro e2 n_e2
        have s_e2 := same_upd (o := HO.lst []) n_e2
        have t_e2 := upd_same (H := H8) (a := e2) (o := HO.lst [])
        generalize upd H8 e2 (HO.lst []) = H9 at s_e2 t_e2 ⊢
        obtain ⟨o, lp, g, go, hlp⟩ := (FA8.same s_e2).get t_e2 x.2.2
        refine ⟨o, g, ?_⟩
        rw [go]
        refine ⟨lp, rfl, ⟨_, SqL.of hlp⟩, fun D nD => ?_⟩
        have fx := fll x.2.2
        refine lc_list (K := K) (a := lp) (xs := (fl t ys x.2.2).map V.int) (fun i H4 => ∃ w2 : List PR, Same H9 H4 ∧ H4 D = some (.lst (refsP w2)) ∧ (∀ x ∈ w2, PrAt H4 x) ∧ w2.map (·.2) = ((fl t ys x.2.2).take i).map fun c => (x.2.1 + 1, c)) ⟨[], same_upd nD, upd_same, (fun x hx => nomatch hx), rfl⟩ (fun i H4 _ ⟨_, z, _⟩ => SqL.of (z _ _ hlp)) ?_ ?_
        · rintro i xr Ha hi ⟨w2, sa, ha, hw2, ew2⟩
          rw [List.getElem?_map] at hi
          obtain ⟨c, hc, rfl⟩ := Option.map_eq_some_iff.mp hi
          have il : i < (fl t ys x.2.2).length := (List.getElem?_eq_some_iff.mp hc).1
          have lw : w2.length = i := by rw [← List.length_map (f := fun x : PR => x.2), ew2, List.length_map, List.length_take]; omega
          refine ⟨rfl, ?_⟩
          walk_at "rd"
          intro b2 n_b2
          have s_b2 := same_upd (o := HO.tup [V.int (x.2.1 + 1), V.int c]) n_b2
          have t_b2 := upd_same (H := Ha) (a := b2) (o := HO.tup [V.int (x.2.1 + 1), V.int c])
          generalize upd Ha b2 (HO.tup [V.int (x.2.1 + 1), V.int c]) = Hb at s_b2 t_b2 ⊢
          have hb := s_b2 _ _ ha
          refine ⟨_, hb, small1000 (by unfold refsP; rw [List.length_map]; omega), w2 ++ [(b2, (x.2.1 + 1, c))], same_set (sa.trans s_b2) nD, by rw [upd_same, refsP_snoc], fun y hy' => ?_, ?_⟩
          · have k : PrAt Hb y := by
              rcases List.mem_append.mp hy' with hy' | hy'
              · exact s_b2 _ _ (hw2 y hy')
              · rw [List.mem_singleton.mp hy']
                exact t_b2
            exact (upd_ne (ne_of k hb fun z => nomatch z)).trans k
          · rw [List.map_append, ew2, List.take_add_one, hc, List.map_append]
            rfl
        rintro Ha ⟨w2, sa, ha, hw2, ew2⟩
        rw [show ((fl t ys x.2.2).map V.int).length = (fl t ys x.2.2).length from List.length_map .., List.take_length] at ew2
        have s8a := s_e2.trans sa
        have h2a := s8a _ _ h28
        have lw2 : w2.length = (fl t ys x.2.2).length := by rw [← List.length_map (f := fun x : PR => x.2), ew2, List.length_map]
        refine ⟨wl, D, _, _, rfl, rfl, h2a, ha, Nat.le_of_lt (small1000 (by unfold refsP; rw [List.length_map, List.length_map]; omega)), ?_⟩
        have nDw : D ≠ wl := fun e => by rw [e, s_e2 _ _ h28] at nD; cases nD
        have kt : ∀ {a xs}, Ha a = some (.tup xs) → upd Ha wl (.lst (refsP w ++ refsP w2)) a = some (.tup xs) := fun {a xs} h => (upd_ne (ne_of h h2a fun z => nomatch z)).trans h
        refine ⟨found ++ [(b, x.2)], w ++ w2, _, _, _, rfl, same_set (s8.trans s8a) nwl1, (upd_ne efw).trans (s8a _ _ h18), ?_, fun y hy' => ?_, fun y hy' => ?_, ?_, by rw [List.length_append]; rfl⟩
        · rw [upd_same]
          unfold refsP
          rw [List.map_append]
        · refine kt (s8a _ _ ?_)
          rcases List.mem_append.mp hy' with hy' | hy'
          · exact kt8 (p1 y hy')
          · rw [List.mem_singleton.mp hy']
            exact hb8
        · rcases List.mem_append.mp hy' with hy' | hy'
          · exact kt (s8a _ _ (kt8 (p2 y (List.mem_append_left _ hy'))))
          · exact kt (hw2 y hy')
        · rw [List.map_append, List.map_append, ew2]
          exact I2
/-! ### _law_hangs -/
theorem iteNF {A B : Prop} {p : Prop} [Decidable p] (e : ¬ p) (h : B) : if decide p = true then A else B := by
  rw [decide_eq_false e]
  exact iteF h
theorem iteNT {A B : Prop} {p : Prop} [Decidable p] (e : p) (h : A) : if decide p = true then A else B := by
  rw [decide_eq_true e]
  exact iteT h
theorem cut_all (l : List V) (j : Nat) : cutV l none (some (j : Int)) = l.take j := by
  unfold cutV
  rw [HT.sIx_none, HT.sIx_nat, List.drop_zero, Nat.sub_zero]
  by_cases h : j ≤ l.length
  · rw [Nat.min_eq_left h]
  · rw [Nat.min_eq_right (by omega), List.take_length, List.take_of_length_le (by omega)]
theorem pathOf_length : ∀ l : List (Int × Int), (pathOf l).length ≤ l.length := by
  intro l
  rcases List.eq_nil_or_concat l with rfl | ⟨w, x, rfl⟩
  · exact Nat.le_refl _
  · rw [List.concat_eq_append, pathOf_snoc, List.length_append, List.length_append, List.length_take, List.length_singleton]
    have := pathOf_length w
    rw [List.length_singleton]
    omega
termination_by l => l.length
decreasing_by
  rename_i h
  subst h
  simp
theorem set_last {X : List Int} {j : Nat} {f : Int} (h : X.length = j + 1) : X.set j f = X.take j ++ [f] := by
  apply List.ext_getElem?
  intro i
  rw [List.getElem?_set]
  by_cases c : j = i
  · subst c
    rw [if_pos rfl, if_pos (by omega), List.getElem?_append_right (by rw [List.length_take]; omega), List.length_take, Nat.min_eq_left (by omega), Nat.sub_self]
    rfl
  · rw [if_neg c]
    by_cases k : i < j
    · rw [List.getElem?_append_left (by rw [List.length_take]; omega), List.getElem?_take_of_lt k]
    · rw [List.getElem?_eq_none (by omega), List.getElem?_eq_none (by rw [List.length_append, List.length_take, List.length_singleton]; omega)]
def sp_law_hangs (K : PySem.W.Frag) : Sp := fun vs H Q _ => ∃ (d p : Addr) (t : List (Int × Int)) (l : List PR), vs = [.ref d, .ref p] ∧ H d = some (.dK (kvT t)) ∧ H p = some (.lst (refsP l)) ∧ (∀ x ∈ l, PrAt H x) ∧ RunOk t (l.map (·.2)) ∧ Pos t ∧ l.length ≤ 400 ∧
  ∀ H', Same H H' → Q (.bl true) H'
set_option maxHeartbeats 4000000 in
theorem ok_law_hangs (T : Tx K mg) : FnOk P w K mg base CX0 2 T.a_law_hangs T.d_law_hangs ["_law_tree_here", "_law_found"] (sp_law_hangs K) := by
  refine T.F_law_hangs.ok sc_law_hangs (fun vs H Q E h => ?_) (fun cdv A outer s H vs Q E hr h => ?_)
  · obtain ⟨d, p, t, l, rfl, _⟩ := h
    rfl
  · obtain ⟨d, p, t, l, rfl, hd, hp, hm, run, pos, hl, q⟩ := h
    have hu := hu_of hr
    refine ⟨_, pss_cons (ps_set (i := 2) sc_law_hangs.nd rfl (.inl rfl) (pe_lst (pa_cons pe_int pa_nil)))
      (pss_cons (ps_set (i := 3) sc_law_hangs.nd rfl (.inl rfl) (pe_lst (pa_cons pe_int pa_nil)))
      (pss_cons (ps_for PassesOwn.never rfl (pi_list (pv 1)) (pg_name (i := 4) sc_law_hangs.nd rfl (Or.inl rfl)) (pss_cons (ps_if (PW.pt (pw_or (pt_not (pt_val (pe_callB call_isi (by rfl) T.m_isinstance (by decide +kernel) (pa_cons (pv 4) (pa_cons (pe_bltn (v := .ty "tuple") (by rfl) T.m_tuple (by decide +kernel) rfl) pa_nil))))) (pw_or (pt_cmpR op_ne (pe_callB call_len_seq (by rfl) T.m_len PySem.boot_len (pa_cons (pv 4) pa_nil)) pe_int (nomark _)) (pw_or (pt_not (pt_val (pe_call (ok_law_whole T) (hr.mono (by decide)) (by rfl) T.g_law_whole T.F_law_whole.kp T.b_law_whole .nil pass0 (pa_cons (pe_ix ix_tup (pv 4) pe_int (fun _ _ => rfl)) pa_nil)))) (pw_or1 (pt_not (pt_val (pe_call (ok_law_whole T) (hr.mono (by decide)) (by rfl) T.g_law_whole T.F_law_whole.kp T.b_law_whole .nil pass0 (pa_cons (pe_ix ix_tup (pv 4) pe_int (fun _ _ => rfl)) pa_nil))))))))) (pss_one (ps_ret pe_bl)) pss_nil)
      (pss_cons (ps_if (PW.pt (pw_or (pt_cmpR op_lt (pe_ix ix_tup (pv 4) pe_int (fun _ _ => rfl)) pe_int (nomark _)) (pw_or (pt_cmpR op_gt (pe_ix ix_tup (pv 4) pe_int (fun _ _ => rfl)) (pe_callB call_len_seq (by rfl) T.m_len PySem.boot_len (pa_cons (pv 2) pa_nil)) (nomark _)) (pw_or1 (pt_cmp (pc_dnotin hu (pe_ix ix_tup (pv 4) pe_int (fun _ _ => rfl)) (pv 0))))))) (pss_one (ps_ret pe_bl)) pss_nil)
      (pss_cons (ps_set (i := 2) sc_law_hangs.nd rfl (.inl rfl) (pe_slice sl_list (pv 2) po_none (po_some (pe_ix ix_tup (pv 4) pe_int (fun _ _ => rfl)))))
      (pss_cons (ps_set (i := 3) sc_law_hangs.nd rfl (.inl rfl) (pe_slice sl_list (pv 3) po_none (po_some (pe_op op_add (pe_ix ix_tup (pv 4) pe_int (fun _ _ => rfl)) pe_int))))
      (C8.pss_cut (ps_if (pt_cmpR op_eq (pe_callB call_len_seq (by rfl) T.m_len PySem.boot_len (pa_cons (pv 3) pa_nil)) (pe_ix ix_tup (pv 4) pe_int (fun _ _ => rfl)) (nomark _)) (pss_one (ps_expr (pe_bm PySem.F.plainAttrs_list PySem.F.slot_list_append PySem.F.type_list_append mt_append (pv 3) (pa_cons pe_int pa_nil)))) pss_nil)
      (pss_cons (ps_if (PW.pt (pw_or (pt_cmpR op_ne (pe_dget hu (pv 0) (pe_ix ix_tup (pv 4) pe_int (fun _ _ => rfl)) (fun _ _ => rfl)) (pe_ix ix_list (pv 2) (pe_un un_neg pe_int) (fun _ _ => rfl)) (nomark _)) (pw_or1 (pt_cmpR op_le (pe_ix ix_tup (pv 4) pe_int (fun _ _ => rfl)) (pe_ix ix_list (pv 3) (pe_ix ix_tup (pv 4) pe_int (fun _ _ => rfl)) (fun _ _ => rfl)) (nomark _))))) (pss_one (ps_ret pe_bl)) pss_nil)
      (pss_cons (ps_asg (pe_ix ix_tup (pv 4) pe_int (fun _ _ => rfl)) (pg_sub (pv 3) (pe_ix ix_tup (pv 4) pe_int (fun _ _ => rfl)) set_list))
      (pss_one (ps_expr (pe_bm PySem.F.plainAttrs_list PySem.F.slot_list_append PySem.F.type_list_append mt_append (pv 2) (pa_cons (pe_ix ix_tup (pv 4) pe_int (fun _ _ => rfl)) pa_nil))))))))))))
      (pss_one (ps_ret pe_bl)))), ?_⟩
    rw [st_law_hangs]
    walk_at "rd"
    intro pl0 n_pl0
    have s_pl0 := same_upd (o := HO.lst [V.int 0]) n_pl0
    have t_pl0 := upd_same (H := H) (a := pl0) (o := HO.lst [V.int 0])
    generalize upd H pl0 (HO.lst [V.int 0]) = H1 at s_pl0 t_pl0 ⊢
    walk_at "rd"
    intro ll0 n_ll0
    have s_ll0 := same_upd (o := HO.lst [V.int 0]) n_ll0
    have t_ll0 := upd_same (H := H1) (a := ll0) (o := HO.lst [V.int 0])
    generalize upd H1 ll0 (HO.lst [V.int 0]) = H2 at s_ll0 t_ll0 ⊢
    have s02 := s_pl0.trans s_ll0
    walk_at "rq"
    refine ⟨⟨_, SqL.of (s02 _ _ hp)⟩, for_list (K := K) (a := p) (xs := refsP l) (fun i σ H3 => ∃ (pl ll : Addr) (v4 : Option V), σ = [some (.ref d), some (.ref p), some (.ref pl), some (.ref ll), v4] ∧ Same H H3 ∧ H3 pl = some (.lst ((0 :: pathOf ((l.map (·.2)).take i)).map V.int)) ∧ H3 ll = some (.lst ((0 :: pathOf ((l.map (·.2)).take i)).map V.int)))
      ⟨pl0, ll0, none, rfl, s02, s_ll0 _ _ t_pl0, t_ll0⟩ (fun i σ H3 _ ⟨_, _, _, _, z, _⟩ => SqL.of (z _ _ hp)) ?_ ?_⟩
    · rintro i x σ H3 hi ⟨pl, ll, v4, rfl, s3, h1, h2⟩
      unfold refsP at hi
      rw [List.getElem?_map] at hi
      obtain ⟨z, hz, rfl⟩ := Option.map_eq_some_iff.mp hi
      obtain ⟨b, dd, f⟩ := z
      have il : i < l.length := (List.getElem?_eq_some_iff.mp hz).1
      have hz2 : (l.map (·.2))[i]? = some (dd, f) := by rw [List.getElem?_map, hz]; rfl
      obtain ⟨j, j1, j2, j3, j4⟩ := run i _ hz2
      have j2 : dd = (j : Int) + 1 := j2
      subst j2
      have j3 : look t f = some ((0 :: pathOf ((l.map (·.2)).take i)).getD j 0) := j3
      have j4 : ∀ y, (pathOf ((l.map (·.2)).take i))[j]? = some y → y < f := j4
      have f0 : 0 < f := pos _ (look_mem j3)
      have rl : (pathOf ((l.map (·.2)).take i)).length ≤ 400 := by
        refine Nat.le_trans (pathOf_length _) ?_
        rw [List.length_take, List.length_map]
        omega
      have eP : pathOf ((l.map (·.2)).take (i + 1)) = (pathOf ((l.map (·.2)).take i)).take j ++ [f] := by
        rw [List.take_add_one, hz2]
        show pathOf ((l.map (·.2)).take i ++ [((j : Int) + 1, f)]) = _
        rw [pathOf_snoc]
        refine congrArg (fun n => List.take n _ ++ [f]) ?_
        show ((j : Int) + 1 - 1).toNat = j
        omega
      rw [eP]
      clear eP run
      generalize pathOf ((l.map (·.2)).take i) = r at *
      have hb : H3 b = some (.tup [.int ((j : Int) + 1), .int f]) := s3 _ _ (hm _ (List.mem_of_getElem? hz))
      have hbS := SqT.of (K := K) hb
      have hd3 := s3 _ _ hd
      have h1S := SqL.of (K := K) h1
      have h2S := SqL.of (K := K) h2
      have lr : ((0 :: r).map V.int).length = r.length + 1 := by rw [List.length_map]; rfl
      have g := DGet.k (k := Sum.inl f) hd3
      rw [valV_kvT, j3] at g
      walk_at "rd"
      refine ⟨b, _, rfl, .inr hbS, rfl, _, rfl, ite_ne rfl ?_⟩
      walk_at "rd"
      refine ⟨pl, _, rfl, .inl h1S, ?_⟩
      rw [lr]
      refine ⟨_, _, rfl, rfl, _, rfl, iteNF (by omega) ?_⟩
      walk_at "rd"
      rw [show ((j : Int) + 1) = ((j + 1 : Nat) : Int) from rfl, cut_all, ← List.map_take]
      intro p2 n_p2
      have s_p2 := same_upd (o := HO.lst (((0 :: r).take (j + 1)).map V.int)) n_p2
      have t_p2 := upd_same (H := H3) (a := p2) (o := HO.lst (((0 :: r).take (j + 1)).map V.int))
      generalize upd H3 p2 (HO.lst (((0 :: r).take (j + 1)).map V.int)) = H4 at s_p2 t_p2 ⊢
      have s04 := s3.trans s_p2
      have h24 := s_p2 _ _ h2
      have h2S4 := SqL.of (K := K) h24
      have hbS4 := SqT.of (K := K) (s_p2 _ _ hb)
      walk_at "rd"
      rw [show ((j : Int) + 1 + 1) = ((j + 2 : Nat) : Int) from rfl, cut_all, ← List.map_take]
      intro l2 n_l2
      have s_l2 := same_upd (o := HO.lst (((0 :: r).take (j + 2)).map V.int)) n_l2
      have t_l2 := upd_same (H := H4) (a := l2) (o := HO.lst (((0 :: r).take (j + 2)).map V.int))
      generalize upd H4 l2 (HO.lst (((0 :: r).take (j + 2)).map V.int)) = H5 at s_l2 t_l2 ⊢
      have hb5 := s_l2 _ _ (s_p2 _ _ hb)
      have hbS5 := SqT.of (K := K) hb5
      have l2S := SqL.of (K := K) t_l2
      have ll2 : (((0 :: r).take (j + 2)).map V.int).length = min (j + 2) (r.length + 1) := by rw [List.length_map, List.length_take]; rfl
      have nHl : H l2 = none := s04.free n_l2
      have nHp : H p2 = none := s3.free n_p2
      have epl : p2 ≠ l2 := ne_of_none t_p2 n_l2
      have s05 := s04.trans s_l2
      refine ⟨fun σ' H' => ∃ (X : List Int) (y : Int), σ' = [some (.ref d), some (.ref p), some (.ref p2), some (.ref l2), some (.ref b)] ∧ Same H H' ∧ H' p2 = some (.lst (((0 :: r).take (j + 1)).map V.int)) ∧ H' b = some (.tup [.int ((j : Int) + 1), .int f]) ∧ H' l2 = some (.lst (X.map V.int)) ∧ X.length = j + 2 ∧ X[j + 1]? = some y ∧ y < f ∧ X.take (j + 1) = (0 :: r).take (j + 1), ?_, ?_⟩
      · walk_at "rd"
        refine ⟨l2, _, rfl, .inl l2S, ?_⟩
        rw [ll2]
        walk_at "rd"
        refine ite2 (fun c => ?_) (fun c => ?_)
        · have c : min (j + 2) (r.length + 1) = j + 1 := by have := V.int.inj (of_decide_eq_true c); omega
          have ej : j = r.length := by omega
          walk_at "rd"
          refine ⟨.inl ⟨rfl, _, l2S⟩, ?_⟩
          refine ⟨l2, _, _, rfl, rfl, t_l2, small1000 (by rw [ll2]; omega), ?_⟩
          refine ⟨(0 :: r) ++ [0], 0, rfl, same_set s05 nHl, (upd_ne epl).trans (s_l2 _ _ t_p2), (upd_ne (ne_of hb5 t_l2 fun z => nomatch z)).trans hb5, ?_, ?_, ?_, f0, ?_⟩
          · rw [upd_same, List.take_of_length_le (show (0 :: r).length ≤ j + 2 by rw [List.length_cons]; omega), List.map_append]
            rfl
          · rw [List.length_append, List.length_cons, List.length_singleton]
            omega
          · rw [List.getElem?_append_right (by rw [List.length_cons]; omega), List.length_cons, show j + 1 - (r.length + 1) = 0 by omega]
            rfl
          · rw [List.take_append_of_le_length (by rw [List.length_cons]; omega)]
        · have c : ¬ min (j + 2) (r.length + 1) = j + 1 := fun k => c (decide_eq_true (show V.int ((min (j + 2) (r.length + 1) : Nat) : Int) = V.int ((j : Int) + 1) by rw [k]; rfl))
          have ej : j < r.length := by omega
          refine ⟨(0 :: r).take (j + 2), r[j], rfl, s05, s_l2 _ _ t_p2, hb5, t_l2, ?_, ?_, j4 _ (List.getElem?_eq_getElem ej), ?_⟩
          · rw [List.length_take, List.length_cons]
            omega
          · rw [List.getElem?_take_of_lt (by omega)]
            exact List.getElem?_eq_getElem ej
          · rw [List.take_take, Nat.min_eq_left (by omega)]
      · rintro σ' H6 ⟨X, y, rfl, s6, h16, hb6, h26, lX, hX, hy, eX⟩
        have hd6 := s6 _ _ hd
        have g6 := DGet.k (k := Sum.inl f) hd6
        rw [valV_kvT, j3] at g6
        have hbS6 := SqT.of (K := K) hb6
        have pS6 := SqL.of (K := K) h16
        have lS6 := SqL.of (K := K) h26
        have atL : atI (((0 :: r).take (j + 1)).map V.int) (-1) = some (.int ((0 :: r).getD j 0)) := by
          have e : (0 :: r).take (j + 1) = (0 :: r).take j ++ [(0 :: r).getD j 0] := by
            rw [List.take_add_one]
            refine congrArg _ ?_
            rw [List.getElem?_eq_getElem (show j < (0 :: r).length by rw [List.length_cons]; omega), List.getD_eq_getElem?_getD, List.getElem?_eq_getElem (show j < (0 :: r).length by rw [List.length_cons]; omega)]
            rfl
          rw [e, List.map_append]
          exact atI_last _ _
        have atX : atI (X.map V.int) ((j : Int) + 1) = some (.int y) := atI_nat (j := j + 1) (by rw [List.getElem?_map, hX]; rfl)
        walk_at "rd"
        refine iteNF (by omega) ?_
        walk_at "rd"
        have ix : ixN (X.map V.int).length ((j : Int) + 1) = some (j + 1) := by
          unfold ixN
          rw [if_pos (by omega), if_pos (by rw [List.length_map, lX]; omega), show ((j : Int) + 1).toNat = j + 1 by omega]
        refine ⟨l2, _, _, j + 1, rfl, rfl, h26, ix, ?_⟩
        have eset : (X.map V.int).set (j + 1) (V.int f) = (0 :: (r.take j ++ [f])).map V.int := by
          rw [← List.map_set, set_last (by omega), eX]
          rfl
        rw [eset]
        have h27 := upd_same (H := H6) (a := l2) (o := HO.lst ((0 :: (r.take j ++ [f])).map V.int))
        have h17 := (upd_ne (o := HO.lst ((0 :: (r.take j ++ [f])).map V.int)) epl).trans h16
        have hb7 := (upd_ne (o := HO.lst ((0 :: (r.take j ++ [f])).map V.int)) (ne_of hb6 h26 fun z => nomatch z)).trans hb6
        have s7 := same_set (o := HO.lst ((0 :: (r.take j ++ [f])).map V.int)) s6 nHl
        generalize upd H6 l2 (.lst ((0 :: (r.take j ++ [f])).map V.int)) = H7 at h27 h17 hb7 s7 ⊢
        have hbS7 := SqT.of (K := K) hb7
        walk_at "rd"
        refine ⟨.inl ⟨rfl, _, SqL.of h17⟩, ?_⟩
        walk_at "rd"
        refine ⟨p2, _, _, rfl, rfl, h17, small1000 (by rw [List.length_map, List.length_take]; omega), ?_⟩
        refine ⟨p2, l2, _, rfl, same_set s7 nHp, ?_, (upd_ne epl.symm).trans h27⟩
        rw [upd_same]
        refine congrArg (fun z => some (HO.lst z)) ?_
        rw [List.take_succ_cons, List.map_cons, List.map_cons, List.map_append]
        rfl
    · rintro σ H3 ⟨pl, ll, v4, rfl, s3, h1, h2⟩
      walk_at "rd"
      exact q _ s3
/-! ### the law -/
theorem sorted_eq {l m : List Int} (p : l.Perm m) (h1 : l.Pairwise (· ≤ ·)) (h2 : m.Pairwise (· ≤ ·)) : l = m :=
  List.Perm.eq_of_pairwise (le := fun x y : Int => x ≤ y) (fun a b _ _ h1 h2 => Int.le_antisymm h1 h2) h1 h2 p
def prD (x : PR) : PyData := .tuple [.int x.2.1, .int x.2.2]
theorem prD_dp {K : PySem.W.Frag} {H : Hp} {x : PR} (h : PrAt H x) : Dp K H (.ref x.1) (prD x) := .tup (SqT.of h) (.cons (.int _) (.cons (.int _) .nil))
theorem prs_dp {K : PySem.W.Frag} {H : Hp} : ∀ {l : List PR}, (∀ x ∈ l, PrAt H x) → DpAll K H (refsP l) (l.map prD)
  | [], _ => .nil
  | x :: l, h => .cons (prD_dp (h x (List.mem_cons_self ..))) (prs_dp fun y hy => h y (List.mem_cons_of_mem _ hy))
theorem prD_flat (x : PR) : Flat 2 (prD x) := .tuple (Flat.intD [x.2.1, x.2.2])
theorem prs_flat (l : List PR) : Flat 3 (.list (l.map prD)) := .list fun d hd => by
  obtain ⟨x, _, rfl⟩ := List.mem_map.mp hd
  exact prD_flat x
theorem intD_dp {K : PySem.W.Frag} {H : Hp} : ∀ l : List Int, DpAll K H (l.map V.int) (intD l)
  | [] => .nil
  | _ :: l => .cons (.int _) (intD_dp l)
theorem TreeOk.pos {c : Int} {n : Nat} {t : List (Int × Int)} (h : TreeOk c n t) (hn : n ≤ 200) (nd : (t.map (·.1)).Nodup) : Pos t := fun p hp => by
  obtain ⟨i, hi, e, _⟩ := h p.1 p.2 (mem_look nd hp)
  have := nameOf_pos (c := c) (k := i) (by omega) (by omega)
  omega
theorem one_fine {n : Int} (h : 0 < n) : Fine [(n, 0)] ∧ Pos [(n, 0)] ∧ hanging [(n, 0)] = [n] := by
  have l0 : look [(n, 0)] 0 = none := by rw [look_cons, if_neg (by show ¬ n = 0; omega), look_nil]
  have ln : look [(n, 0)] n = some 0 := by rw [look_cons, if_pos rfl]
  have w : Way [(n, 0)] n [n, 0] := .step ln (.stop l0)
  refine ⟨.of (by simp) fun x => ?_, fun p hp => ?_, ?_⟩
  · by_cases e : n = x
    · subst e
      exact ⟨_, w⟩
    · exact ⟨[x], .stop (by rw [look_cons, if_neg e, look_nil])⟩
  · rw [List.mem_singleton.mp hp]
    exact h
  · unfold hanging
    rw [List.filter_eq_self.mpr fun c hc => by
      rw [show c = n by simpa using hc]
      unfold hangs
      rw [w.eq]
      rfl]
    rfl
theorem one_run {n : Int} {l : List PR} (run : RunOk [(n, 0)] (l.map (·.2))) (p : (l.map fun x => x.2.2).Perm [n]) : ∃ b, l = [(b, (1, n))] := by
  have e := List.perm_singleton.mp p
  match l, e, run with
  | [(b, dd, f)], e, run =>
    have e : f = n := (List.cons.inj e).1
    subst e
    obtain ⟨j, j1, j2, _⟩ := run 0 (dd, f) rfl
    have j1 : j ≤ 0 := j1
    have j2 : dd = (j : Int) + 1 := j2
    have : dd = 1 := by omega
    subst this
    exact ⟨b, rfl⟩
  | [], e, _ => nomatch e
  | _ :: _ :: _, e, _ => exact absurd (congrArg List.length e) (by simp)
def sp_law (K : PySem.W.Frag) : Sp := fun vs H Q _ => ∃ (a : Addr) (ns : List Int), vs = [.ref a] ∧ SqL K H a (ns.map V.int) ∧ ns.length ≤ 63 ∧ ∀ H', Q (.bl true) H'
set_option maxHeartbeats 8000000 in
theorem ok_law (T : Tx K mg) : FnOk P w K mg base CX0 3 T.a_law T.d_law ["_law_script"] (sp_law K) := by
  refine T.F_law.ok sc_law (fun vs H Q E h => ?_) (fun cdv A outer s H vs Q E hr h => ?_)
  · obtain ⟨a, ns, rfl, _⟩ := h
    rfl
  · obtain ⟨a, ns, rfl, hS, hl, q⟩ := h
    have hu := hu_of hr
    refine ⟨_, pss_cons (ps_set (i := 1) sc_law.nd rfl (.inl rfl) (pe_op op_mod (pe_call (ok_law_cell_at T) (hr.mono (by decide)) (by rfl) T.g_law_cell_at T.F_law_cell_at.kp T.b_law_cell_at .nil pass0 (pa_cons (pv 0) (pa_cons pe_int pa_nil))) pe_int))
      (pss_cons (ps_set (i := 2) sc_law.nd rfl (.inl rfl) (pe_cmpR op_eq (pe_op op_mod (pe_op op_fdiv (pe_call (ok_law_cell_at T) (hr.mono (by decide)) (by rfl) T.g_law_cell_at T.F_law_cell_at.kp T.b_law_cell_at .nil pass0 (pa_cons (pv 0) (pa_cons pe_int pa_nil))) pe_int) pe_int) pe_int (nomark _)))
      (C8.pss_cut (ps_if (pt_cmpR op_in_seq (pe_op op_mod (pe_op op_fdiv (pe_call (ok_law_cell_at T) (hr.mono (by decide)) (by rfl) T.g_law_cell_at T.F_law_cell_at.kp T.b_law_cell_at .nil pass0 (pa_cons (pv 0) (pa_cons pe_int pa_nil))) pe_int) pe_int) (pe_tup (pa_cons pe_int (pa_cons pe_int pa_nil))) (by rfl)) (pss_one (ps_set (i := 1) sc_law.nd rfl (.inl rfl) (pe_op op_add (pv 1) pe_int))) pss_nil)
      (pss_cons (ps_set (i := 3) sc_law.nd rfl (.inl rfl) (pe_call (ok_law_cell_at T) (hr.mono (by decide)) (by rfl) T.g_law_cell_at T.F_law_cell_at.kp T.b_law_cell_at .nil pass0 (pa_cons (pv 0) (pa_cons pe_int pa_nil))))
      (pss_cons (ps_set (i := 4) sc_law.nd rfl (.inr rfl) (pe_call (ok_law_tree T) (hr.mono (by decide)) (by rfl) T.g_law_tree T.F_law_tree.kp T.b_law_tree .nil pass0 (pa_cons (pv 0) (pa_cons (pv 1) (pa_cons (pv 2) (pa_cons (pv 3) pa_nil))))))
      (pss_cons (ps_set (i := 5) sc_law.nd rfl (.inr rfl) (pe_call (ok_law_pick T) (hr.mono (by decide)) (by rfl) T.g_law_pick T.F_law_pick.kp T.b_law_pick .nil pass0 (pa_cons (pe_op op_mod (pe_call (ok_law_cell_at T) (hr.mono (by decide)) (by rfl) T.g_law_cell_at T.F_law_cell_at.kp T.b_law_cell_at .nil pass0 (pa_cons (pv 0) (pa_cons pe_int pa_nil))) (pe_op op_add (pv 1) pe_int)) (pa_cons (pv 1) (pa_cons (pv 3) pa_nil)))))
      (pss_cons (ps_set (i := 6) sc_law.nd rfl (.inl rfl) (pe_callTy call_dictD (by rfl) T.m_dict (by decide +kernel) (pa_cons (pv 4) pa_nil)))
      (pss_cons (ps_set (i := 7) sc_law.nd rfl (.inl rfl) (pe_callB cr_sortedI (by rfl) T.m_sorted (by decide +kernel) (pa_cons (pe_lock (pe_lc (own := [("_law_one", 13)]) (g := gName 13) rfl sc_law.nd (pi_keys (pv 4)) (blkOk_by (own := [("_law_one", 13)]) (N := ["_law_script", "_law_size", "_law_wide", "_law_cell", "_law_tree_here", "_law_folder", "_law_handed", "_law_due", "_law_first", "_law_tops", "_law_found", "_law_hanging", "_law_kept", "_law_one", "_law_row"]) (sc := defScope s_law) (by decide +kernel)) (fun _ _ _ _ _ => pg_name (i := 13) sc_law.nd rfl (Or.inl rfl)) (fun _ _ _ _ _ => pts_one (pt_cmpR op_eq (pe_dget hu (pv 4) (pv 13) (fun _ _ => rfl)) (pv 5) (nomark _))) (fun _ _ _ _ _ => pv 13))) pa_nil)))
      (pss_cons (ps_set (i := 8) sc_law.nd rfl (.inl rfl) (pe_call (ok_children T) (hr.mono (by decide)) (by rfl) T.g_children T.F_children.kp T.b_children .nil pass0 (pa_cons (pv 6) (pa_cons (pv 5) pa_nil))))
      (pss_cons (ps_set (i := 9) sc_law.nd rfl (.inl rfl) (pe_callB cr_sortedI (by rfl) T.m_sorted (by decide +kernel) (pa_cons (pe_lock (pe_lc (own := [("_law_one", 13)]) (g := gName 13) rfl sc_law.nd (pi_keys (pv 4)) (blkOk_by (own := [("_law_one", 13)]) (N := ["_law_script", "_law_size", "_law_wide", "_law_cell", "_law_tree_here", "_law_folder", "_law_handed", "_law_due", "_law_first", "_law_tops", "_law_found", "_law_hanging", "_law_kept", "_law_one", "_law_row"]) (sc := defScope s_law) (by decide +kernel)) (fun _ _ _ _ _ => pg_name (i := 13) sc_law.nd rfl (Or.inl rfl)) (fun _ _ _ _ _ => pts_one (pt_cmpR op_eq (pe_dget hu (pv 4) (pv 13) (fun _ _ => rfl)) pe_int (nomark _))) (fun _ _ _ _ _ => pv 13))) pa_nil)))
      (pss_cons (ps_if (PW.pt (pw_or (pt_not (pt_val (pe_call (ok_law_numbers T) (hr.mono (by decide)) (by rfl) T.g_law_numbers T.F_law_numbers.kp T.b_law_numbers .nil pass0 (pa_cons (pv 8) (pa_cons (pv 7) pa_nil))))) (pw_or1 (pt_not (pt_val (pe_call (ok_law_numbers T) (hr.mono (by decide)) (by rfl) T.g_law_numbers T.F_law_numbers.kp T.b_law_numbers .nil pass0 (pa_cons (pe_call (ok_children T) (hr.mono (by decide)) (by rfl) T.g_children T.F_children.kp T.b_children .nil pass0 (pa_cons (pv 6) (pa_cons pe_int pa_nil))) (pa_cons (pv 9) pa_nil)))))))) (pss_one (ps_ret pe_bl)) pss_nil)
      (pss_cons (ps_if (pt_not (pt_val (pe_call (ok_law_numbers T) (hr.mono (by decide)) (by rfl) T.g_law_numbers T.F_law_numbers.kp T.b_law_numbers .nil pass0 (pa_cons (pv 8) (pa_cons (pv 7) pa_nil))))) (pss_one (ps_ret pe_bl)) pss_nil)
      (pss_cons (ps_set (i := 10) sc_law.nd rfl (.inl rfl) (pe_call (ok_rows T) (hr.mono (by decide)) (by rfl) T.g_rows T.F_rows.kp T.b_rows .nil pass0 (pa_cons (pv 6) pa_nil)))
      (pss_cons (ps_if (PW.pt (pw_or (pt_not (pt_val (pe_callB call_isi (by rfl) T.m_isinstance (by decide +kernel) (pa_cons (pv 10) (pa_cons (pe_bltn (v := .ty "list") (by rfl) T.m_list (by decide +kernel) rfl) pa_nil))))) (pw_or (pt_not (pt_val (pe_call (ok_law_hangs T) (hr.mono (by decide)) (by rfl) T.g_law_hangs T.F_law_hangs.kp T.b_law_hangs .nil pass0 (pa_cons (pv 4) (pa_cons (pv 10) pa_nil))))) (pw_or1 (pt_not (pt_val (pe_call (ok_law_same_tree T) (hr.mono (by decide)) (by rfl) T.g_law_same_tree T.F_law_same_tree.kp T.b_law_same_tree .nil pass0 (pa_cons (pv 6) (pa_cons (pv 4) pa_nil))))))))) (pss_one (ps_ret pe_bl)) pss_nil)
      (pss_cons (ps_lock (ps_setLc (i := 11) (own := [("_law_one", 13)]) (g := gName 13) rfl sc_law.nd rfl rfl (sw_true rfl rfl rfl (by decide +kernel)) (pi_keys (pv 4)) (blkOk_by (own := [("_law_one", 13)]) (N := ["_law_script", "_law_size", "_law_wide", "_law_cell", "_law_tree_here", "_law_folder", "_law_handed", "_law_due", "_law_first", "_law_tops", "_law_found", "_law_hanging", "_law_kept", "_law_one", "_law_row"]) (sc := defScope s_law) (by decide +kernel)) (fun _ _ _ _ _ => pg_name (i := 13) sc_law.nd rfl (Or.inl rfl)) (fun _ _ _ _ _ => pts_one (pt_cmpR op_eq (pe_ix (r := rIxL K) ix_list (pe_call (ok_law_way T) (hr.mono (by decide)) (by rfl) T.g_law_way T.F_law_way.kp T.b_law_way .nil pass0 (pa_cons (pv 4) (pa_cons (pv 13) pa_nil))) (pe_un un_neg pe_int) (fun _ _ => rfl)) pe_int (nomark _))) (fun _ _ _ _ _ => pv 13)))
      (pss_cons (ps_set (i := 12) sc_law.nd rfl (.inl rfl) (pe_callTy call_list_of (by rfl) T.m_list (by decide +kernel) (pa_cons (pv 10) pa_nil)))
      (pss_cons (ps_if (PW.pt (pw_or (pt_cmpR (op_neD hr.units) (pe_call (ok_rows T) (hr.mono (by decide)) (by rfl) T.g_rows T.F_rows.kp T.b_rows .nil pass0 (pa_cons (pe_disp (pps_cons (pe_call (ok_law_name T) (hr.mono (by decide)) (by rfl) T.g_law_name T.F_law_name.kp T.b_law_name .nil pass0 (pa_cons pe_int (pa_cons (pv 3) pa_nil))) pe_int pps_nil) (by rfl) (by rfl) (fun z => by cases z) (by decide)) pa_nil)) (pe_lst (pa_cons (pe_tup (pa_cons pe_int (pa_cons (pe_call (ok_law_name T) (hr.mono (by decide)) (by rfl) T.g_law_name T.F_law_name.kp T.b_law_name .nil pass0 (pa_cons pe_int (pa_cons (pv 3) pa_nil))) pa_nil))) pa_nil)) (nomark _)) (pw_or1 (pt_cmpR (op_neD hr.units) (pv 10) (pv 12) (nomark _))))) (pss_one (ps_ret pe_bl)) pss_nil)
      (pss_one (ps_ret (pe_and (pe_cmpR op_eq (pe_callB call_len_seq (by rfl) T.m_len PySem.boot_len (pa_cons (pv 10) pa_nil)) (pe_callB call_len_seq (by rfl) T.m_len PySem.boot_len (pa_cons (pv 11) pa_nil)) (nomark _)) (pe_one (pe_cmpR (op_eqD hr.units) (pe_callB cr_sortedI (by rfl) T.m_sorted (by decide +kernel) (pa_cons (pe_lc (own := [("_law_row", 14)]) (g := gName 14) (tt := tYes) rfl sc_law.nd (pi_list (pv 10)) (blkOk_by (own := [("_law_row", 14)]) (N := ["_law_script", "_law_size", "_law_wide", "_law_cell", "_law_tree_here", "_law_folder", "_law_handed", "_law_due", "_law_first", "_law_tops", "_law_found", "_law_hanging", "_law_kept", "_law_one", "_law_row"]) (sc := defScope s_law) (by decide +kernel)) (fun _ _ _ _ _ => pg_name (i := 14) sc_law.nd rfl (Or.inl rfl)) (fun _ _ _ _ _ => pts_nil) (fun _ _ _ _ _ => pe_ix (r := rIxT K) ix_tup (pv 14) pe_int (fun _ _ => rfl))) pa_nil)) (pe_callB cr_sortedI (by rfl) T.m_sorted (by decide +kernel) (pa_cons (pv 11) pa_nil)) (nomark _)))))))))))))))))))))), ?_⟩
    rw [st_law]
    walk_at "rd"
    refine ⟨fun σ' H' => ∃ n : Int, σ' = [some (.ref a), some (.int n), some (.bl (decide (V.int (cellOf ns (Int.toNat 0) / 9 % 8) = V.int 2))), none, none, none, none, none, none, none, none, none, none, none, none] ∧ Same H H' ∧ 0 ≤ n ∧ n ≤ 68, ?_, ?_⟩
    · walk_at "rd"
      intro p0 n0
      have s0 := same_upd (o := HO.tup [V.int 1, V.int 2]) n0
      refine ⟨p0, _, rfl, .inr (SqT.of upd_same), rfl, rfl, _, rfl, ?_⟩
      refine ite2 (fun _ => ?_) (fun _ => ?_)
      · walk_at "rd"
        omega
      · exact ⟨_, rfl, s0, by omega, by omega⟩
    · rintro σ' H1 ⟨n, rfl, s1, n0, n1⟩
      generalize decide (V.int (cellOf ns (Int.toNat 0) / 9 % 8) = V.int 2) = wd
      have hS1 := s1.seq hS
      walk_at "rd"
      generalize cellOf ns (Int.toNat 1) = c
      refine ⟨a, ns, n, wd, c, rfl, hS1, n0, n1, fun t p H2 s2 np hp ht hnd htl => ?_⟩
      have hS2 := s2.seq hS1
      have m0 := Int.emod_nonneg (cellOf ns (Int.toNat 2)) (show n + 2 ≠ 0 by omega)
      have m1 := Int.emod_lt_of_pos (cellOf ns (Int.toNat 2)) (show 0 < n + 2 by omega)
      walk_at "rd"
      intro H3 s3
      generalize pickOf c n (cellOf ns (Int.toNat 2) % (n + 2)) = f
      have hp3 := s3 _ _ hp
      have pos := ht.pos (by omega) hnd
      have F : Fine t := .of hnd fun x => by
        obtain ⟨l, w, _⟩ := ht.way (by omega) x
        exact ⟨l, w⟩
      have tl : t.length ≤ 68 := by omega
      walk_at "rd"
      refine ⟨p, _, rfl, .inl hp3, ?_⟩
      intro d n_d
      have s_d := same_upd (o := HO.dK (kvT t)) n_d
      have t_d := upd_same (H := H3) (a := d) (o := HO.dK (kvT t))
      generalize upd H3 d (HO.dK (kvT t)) = H4 at s_d t_d ⊢
      have hp4 := s_d _ _ hp3
      have hpd : d ≠ p := fun e => by rw [e, hp3] at n_d; cases n_d
      walk_at "nm"
      refine ⟨p, _, hp4, trivial, fun od => ?_⟩
      refine ⟨_, rfl, p, od, rfl, .inl ⟨kvT t, upd_same, fun D nD => ?_⟩⟩
      refine lc_keys (fun i H2 => Same (upd H4 p (.frz od (.dK (kvT t)))) H2 ∧ H2 D = some (.lst ((((t.take i).map (·.1)).filter fun c => decide (look t c = some f)).map V.int))) ⟨same_upd nD, upd_same⟩ (fun i H2 z => z.1 _ _ upd_same) ?_ ?_
      · rintro i k v H2 hi ⟨s2, hD⟩
        obtain ⟨z, hz, rfl, rfl⟩ := kvT_get hi
        have hlk := mem_look hnd (List.mem_of_getElem? hz)
        have rdd : Rd H2 p (.dK (kvT t)) := .inr ⟨od, s2 _ _ upd_same⟩
        have g : DGet H2 p (.int z.1) ((look t z.1).map V.int) := .inl ⟨kvT t, Sum.inl z.1, rdd, rfl, (valV_kvT z.1 t).symm⟩
        rw [hlk] at g
        have l1 : (((t.take i).map (·.1)).filter fun c => decide (look t c = some f)).length ≤ 400 := by
          refine Nat.le_trans (List.length_filter_le _ _) ?_
          rw [List.length_map, List.length_take]
          omega
        walk_at "rd"
        rw [keep_snoc hz]
        refine ite2 (fun c => ?_) (fun c => ?_)
        · have c : z.2 = f := V.int.inj (of_decide_eq_true c)
          rw [if_pos (by rw [hlk, c]; exact decide_eq_true rfl)]
          walk_at "rd"
          refine ⟨_, hD, small1000 (by rw [List.length_map]; omega), same_set s2 nD, ?_⟩
          rw [upd_same, List.map_append]
          rfl
        · have c : ¬ z.2 = f := fun k => c (decide_eq_true (congrArg V.int k))
          rw [if_neg (by rw [hlk, decide_eq_false (fun z => c (Option.some.inj z))]; exact Bool.false_ne_true), List.append_nil]
          exact ⟨s2, hD⟩
      rintro H5 ⟨s2A, hDA⟩
      rw [kvT_length, List.take_length] at hDA
      refine ⟨s2A _ _ upd_same, ?_⟩
      have sBA := lock_back hp4 s2A
      have dDA : D ≠ p := fun e => by rw [e, upd_same] at nD; cases nD
      have hDbA : upd H5 p (.dK (kvT t)) D = some (.lst ((kidsT t f).map V.int)) := (upd_ne dDA).trans hDA
      generalize upd H5 p (.dK (kvT t)) = GA at sBA hDbA ⊢
      refine ⟨D, kidsT t f, rfl, SqL.of hDbA, fun due du perm1 srt1 ndu => ?_⟩
      have s45 := sBA.trans (same_upd (o := HO.lst (due.map V.int)) ndu)
      have hdu := upd_same (H := GA) (a := du) (o := HO.lst (due.map V.int))
      generalize upd GA du (.lst (due.map V.int)) = H6 at s45 hdu ⊢
      have hd6 := s45 _ _ t_d
      have hp6 := s45 _ _ hp4
      walk_at "rd"
      intro H7 fi first s7 nfi hfi perm2 srt2
      obtain rfl : first = due := sorted_eq (perm2.trans perm1.symm) srt2 srt1
      have hp7 := s7 _ _ hp6
      walk_at "nm"
      refine ⟨p, _, hp7, trivial, fun od => ?_⟩
      refine ⟨_, rfl, p, od, rfl, .inl ⟨kvT t, upd_same, fun D nD => ?_⟩⟩
      refine lc_keys (fun i H2 => Same (upd H7 p (.frz od (.dK (kvT t)))) H2 ∧ H2 D = some (.lst ((((t.take i).map (·.1)).filter fun c => decide (look t c = some 0)).map V.int))) ⟨same_upd nD, upd_same⟩ (fun i H2 z => z.1 _ _ upd_same) ?_ ?_
      · rintro i k v H2 hi ⟨s2, hD⟩
        obtain ⟨z, hz, rfl, rfl⟩ := kvT_get hi
        have hlk := mem_look hnd (List.mem_of_getElem? hz)
        have rdd : Rd H2 p (.dK (kvT t)) := .inr ⟨od, s2 _ _ upd_same⟩
        have g : DGet H2 p (.int z.1) ((look t z.1).map V.int) := .inl ⟨kvT t, Sum.inl z.1, rdd, rfl, (valV_kvT z.1 t).symm⟩
        rw [hlk] at g
        have l1 : (((t.take i).map (·.1)).filter fun c => decide (look t c = some 0)).length ≤ 400 := by
          refine Nat.le_trans (List.length_filter_le _ _) ?_
          rw [List.length_map, List.length_take]
          omega
        walk_at "rd"
        rw [keep_snoc hz]
        refine ite2 (fun c => ?_) (fun c => ?_)
        · have c : z.2 = 0 := V.int.inj (of_decide_eq_true c)
          rw [if_pos (by rw [hlk, c]; exact decide_eq_true rfl)]
          walk_at "rd"
          refine ⟨_, hD, small1000 (by rw [List.length_map]; omega), same_set s2 nD, ?_⟩
          rw [upd_same, List.map_append]
          rfl
        · have c : ¬ z.2 = 0 := fun k => c (decide_eq_true (congrArg V.int k))
          rw [if_neg (by rw [hlk, decide_eq_false (fun z => c (Option.some.inj z))]; exact Bool.false_ne_true), List.append_nil]
          exact ⟨s2, hD⟩
      rintro H8 ⟨s2B, hDB⟩
      rw [kvT_length, List.take_length] at hDB
      refine ⟨s2B _ _ upd_same, ?_⟩
      have sBB := lock_back hp7 s2B
      have dDB : D ≠ p := fun e => by rw [e, upd_same] at nD; cases nD
      have hDbB : upd H8 p (.dK (kvT t)) D = some (.lst ((kidsT t 0).map V.int)) := (upd_ne dDB).trans hDB
      generalize upd H8 p (.dK (kvT t)) = GB at sBB hDbB ⊢
      refine ⟨D, kidsT t 0, rfl, SqL.of hDbB, fun tops to perm3 srt3 nto => ?_⟩
      have s79 := sBB.trans (same_upd (o := HO.lst (tops.map V.int)) nto)
      have hto := upd_same (H := GB) (a := to) (o := HO.lst (tops.map V.int))
      generalize upd GB to (.lst (tops.map V.int)) = H9 at s79 hto ⊢
      have s69 := s7.trans s79
      have hd9 := s69 _ _ hd6
      have hfi9 := s79 _ _ hfi
      have hdu9 := s69 _ _ hdu
      have kl : ∀ u, (kidsT t u).length ≤ 68 := fun u => by
        refine Nat.le_trans (List.length_filter_le _ _) ?_
        rw [List.length_map]
        exact tl
      have fl1 : first.length ≤ 900 := by rw [perm1.length_eq]; have := kl f; omega
      walk_at "rd"
      intro H10 fi2 l2 s10 nfi2 hfi2 perm4 srt4
      obtain rfl : l2 = tops := sorted_eq (perm4.trans perm3.symm) srt4 srt3
      have fl2 : l2.length ≤ 900 := by rw [perm3.length_eq]; have := kl 0; omega
      have hto10 := s10 _ _ hto
      have hfi10 := s10 _ _ hfi9
      have hdu10 := s10 _ _ hdu9
      have hd10 := s10 _ _ hd9
      walk_at "rd"
      intro H11 fq l s11 nfq hfq hpr run pm
      have hd11 := s11 _ _ hd10
      have hp11 := s11 _ _ (s10 _ _ (s69 _ _ hp6))
      have ll : l.length ≤ 400 := by
        have z := pm.length_eq
        rw [List.length_map] at z
        have h := List.length_filter_le (hangs t) (t.map (·.1))
        rw [List.length_map] at h
        unfold hanging at z
        omega
      walk_at "rd"
      refine ⟨p, fq, t, l, rfl, hp11, hfq, hpr, run, pos, ll, fun H12 s12 => ?_⟩
      have hp12 := s12 _ _ hp11
      walk_at "rd"
      refine ⟨d, p, t, t, rfl, s12 _ _ hd11, hp12, hpd, rfl, hnd, fun x hx => mem_look hnd hx, ?_⟩
      walk_at "rq"
      refine ⟨p, _, hp12, trivial, fun od => ?_⟩
      refine ⟨_, rfl, p, od, rfl, .inl ⟨kvT t, upd_same, fun hgl nhg => ?_⟩⟩
      refine lc_keys (fun i H2 => Same (upd H12 p (.frz od (.dK (kvT t)))) H2 ∧ H2 hgl = some (.lst ((((t.take i).map (·.1)).filter (hangs t)).map V.int))) ⟨same_upd nhg, upd_same⟩ (fun i H2 z => z.1 _ _ upd_same) ?_ ?_
      · rintro i k v H2 hi ⟨s2', hD⟩
        obtain ⟨z, hz, rfl, rfl⟩ := kvT_get hi
        have rdd : Rd H2 p (.dK (kvT t)) := .inr ⟨od, s2' _ _ upd_same⟩
        have l1 : (((t.take i).map (·.1)).filter (hangs t)).length ≤ 400 := by
          refine Nat.le_trans (List.length_filter_le _ _) ?_
          rw [List.length_map, List.length_take]
          omega
        have fs := F.small z.1
        walk_at "rd"
        refine ⟨p, t, z.1, wayOf t z.1, rfl, rdd, F.way _, by omega, fun H2a wp sa nwp hwp => ?_⟩
        have atL : atI ((wayOf t z.1).map V.int) (-1) = some (.int ((wayOf t z.1).getLastD 1)) := by
          rcases List.eq_nil_or_concat (wayOf t z.1) with e | ⟨w, x, e⟩
          · obtain ⟨r, er⟩ := (F.way z.1).head
            rw [e] at er
            cases er
          · rw [e, List.concat_eq_append, List.map_append, List.getLastD_concat]
            exact atI_last _ _
        have hwS := SqL.of (K := K) hwp
        walk_at "rd"
        rw [keep_snoc hz]
        have ec : hangs t z.1 = decide (V.int ((wayOf t z.1).getLastD 1) = V.int 0) := by
          unfold hangs
          exact decide_eq_decide.mpr ⟨fun h => congrArg V.int h, fun h => V.int.inj h⟩
        rw [← ec]
        refine ite2 (fun c => ?_) (fun c => ?_)
        · rw [if_pos c]
          walk_at "rd"
          refine ⟨_, sa _ _ hD, small1000 (by rw [List.length_map]; omega), same_set (s2'.trans sa) nhg, ?_⟩
          rw [upd_same, List.map_append]
          rfl
        · rw [if_neg c, List.append_nil]
          exact ⟨s2'.trans sa, sa _ _ hD⟩
      rintro H13' ⟨s2', hD⟩
      rw [kvT_length, List.take_length] at hD
      refine ⟨s2' _ _ upd_same, ?_⟩
      have s13 := lock_back hp12 s2'
      have dD : hgl ≠ p := fun e => by rw [e, upd_same] at nhg; cases nhg
      have hhg : upd H13' p (.dK (kvT t)) hgl = some (.lst ((hanging t).map V.int)) := (upd_ne dD).trans hD
      generalize upd H13' p (.dK (kvT t)) = H13 at s13 hhg ⊢
      have s11_13 := s12.trans s13
      have hfq13 := s11_13 _ _ hfq
      walk_at "rd"
      refine ⟨fq, _, rfl, .inl (SqL.of hfq13), ?_⟩
      intro kq n_kq
      have s_kq := same_upd (o := HO.lst (refsP l)) n_kq
      have t_kq := upd_same (H := H13) (a := kq) (o := HO.lst (refsP l))
      generalize upd H13 kq (HO.lst (refsP l)) = H14 at s_kq t_kq ⊢
      have hpr14 : ∀ x ∈ l, PrAt H14 x := fun x hx => s_kq _ _ (s11_13 _ _ (hpr x hx))
      have np := nameOf_pos (c := c) (k := 0) (by decide) (by decide)
      obtain ⟨F1, P1, hg1⟩ := one_fine (n := nameOf c 0) (by omega)
      walk_at "nm"
      intro dd n_dd
      have s_dd := same_upd (o := HO.dK []) n_dd
      have t_dd := upd_same (H := H14) (a := dd) (o := HO.dK [])
      generalize upd H14 dd (HO.dK []) = H15 at s_dd t_dd ⊢
      walk_at "rd"
      intro H16 s16
      have hdd := s16 _ _ t_dd
      refine ⟨hdd, [(Sum.inl (nameOf c 0), V.int 0)], rfl, by show 1 ≤ 15; omega, ?_⟩
      have hd17 : upd H16 dd (.dK (mergeK [] [(Sum.inl (nameOf c 0), V.int 0)])) dd = some (.dK (kvT [(nameOf c 0, 0)])) := upd_same
      have s17 := same_set (o := HO.dK (mergeK [] [(Sum.inl (nameOf c 0), V.int 0)])) (s_dd.trans s16) n_dd
      generalize upd H16 dd (.dK (mergeK [] [(Sum.inl (nameOf c 0), V.int 0)])) = H17 at hd17 s17 ⊢
      refine ⟨dd, [(nameOf c 0, 0)], rfl, hd17, F1, P1, by show 1 ≤ 400; omega, fun H18 q1 l1 s18 nq1 hq1 hpr1 run1 pm1 => ?_⟩
      rw [hg1] at pm1
      obtain ⟨b1, rfl⟩ := one_run run1 pm1
      walk_at "rd"
      intro H19 s19
      walk_at "rd"
      intro tp n_tp
      have s_tp := same_upd (o := HO.tup [V.int 1, V.int (nameOf c 0)]) n_tp
      have t_tp := upd_same (H := H19) (a := tp) (o := HO.tup [V.int 1, V.int (nameOf c 0)])
      generalize upd H19 tp (HO.tup [V.int 1, V.int (nameOf c 0)]) = H20 at s_tp t_tp ⊢
      walk_at "rd"
      intro tl' n_tl'
      have s_tl' := same_upd (o := HO.lst [V.ref tp]) n_tl'
      have t_tl' := upd_same (H := H20) (a := tl') (o := HO.lst [V.ref tp])
      generalize upd H20 tl' (HO.lst [V.ref tp]) = H21 at s_tl' t_tl' ⊢
      have s1921 := s_tp.trans s_tl'
      have Dq : Dp K H21 (.ref q1) (.list [prD (b1, (1, nameOf c 0))]) := .lst (SqL.of (s1921 _ _ (s19 _ _ hq1))) (.cons (prD_dp (s1921 _ _ (s19 _ _ (hpr1 _ (List.mem_singleton.mpr rfl))))) .nil)
      have Dt : Dp K H21 (.ref tl') (.list [prD (tp, (1, nameOf c 0))]) := .lst (SqL.of t_tl') (.cons (prD_dp (x := (tp, (1, nameOf c 0))) (s_tl' _ _ t_tp)) .nil)
      refine ⟨_, _, Dq, Dt, (prs_flat [(b1, (1, nameOf c 0))]).shaped (by decide), (prs_flat [(tp, (1, nameOf c 0))]).shaped (by decide), _, rfl, ?_⟩
      rw [show PyData.eqv (.list [prD (b1, (1, nameOf c 0))]) (.list [prD (tp, (1, nameOf c 0))]) = true from (prs_flat [(tp, (1, nameOf c 0))]).refl]
      refine iteF ?_
      have s1421 := s17.trans (s18.trans (s19.trans s1921))
      have hfq21 := s1421 _ _ (s_kq _ _ hfq13)
      have hkq21 := s1421 _ _ t_kq
      have hpr21 : ∀ x ∈ l, PrAt H21 x := fun x hx => s1421 _ _ (hpr14 x hx)
      have hhg21 := s1421 _ _ (s_kq _ _ hhg)
      refine ⟨_, rfl, _, rfl, _, _, .lst (SqL.of hfq21) (prs_dp hpr21), .lst (SqL.of hkq21) (prs_dp hpr21), (prs_flat l).shaped (by decide), (prs_flat l).shaped (by decide), _, rfl, ?_⟩
      rw [(prs_flat l).refl]
      refine iteF ?_
      have lh : l.length = (hanging t).length := by rw [← pm.length_eq, List.length_map]
      walk_at "rd"
      refine ⟨fq, _, rfl, .inl (SqL.of hfq21), _, rfl, hgl, _, rfl, .inl (SqL.of hhg21), ?_⟩
      rw [show (refsP l).length = (hanging t).length from (List.length_map ..).trans lh, show ((hanging t).map V.int).length = (hanging t).length from List.length_map ..]
      refine ⟨rfl, _, rfl, ?_⟩
      rw [decide_eq_true rfl]
      refine iteT ?_
      refine ⟨_, rfl, fq, rfl, ⟨_, SqL.of hfq21⟩, fun D nD => ?_⟩
      refine lc_list (K := K) (a := fq) (xs := refsP l) (fun i H4 => Same H21 H4 ∧ H4 D = some (.lst (((l.take i).map fun x => x.2.2).map V.int))) ⟨same_upd nD, upd_same⟩ (fun i H4 _ ⟨z, _⟩ => SqL.of (z _ _ hfq21)) ?_ ?_
      · rintro i xr H4 hi ⟨s4', hD⟩
        unfold refsP at hi
        rw [List.getElem?_map] at hi
        obtain ⟨z, hz, rfl⟩ := Option.map_eq_some_iff.mp hi
        have il : i < l.length := (List.getElem?_eq_some_iff.mp hz).1
        have hzS := SqT.of (K := K) (s4' _ _ (hpr21 z (List.mem_of_getElem? hz)))
        refine ⟨rfl, ?_⟩
        walk_at "rd"
        refine ⟨_, hD, small1000 (by rw [List.length_map, List.length_map, List.length_take]; omega), same_set s4' nD, ?_⟩
        rw [upd_same, List.take_add_one, hz, List.map_append, List.map_append]
        rfl
      rintro H22 ⟨s22, hD⟩
      rw [show (refsP l).length = l.length from List.length_map .., List.take_length] at hD
      refine ⟨D, l.map fun x => x.2.2, rfl, SqL.of hD, fun us q2 pu su nq2 => ?_⟩
      have s23 := same_upd (o := HO.lst (us.map V.int)) nq2
      have hq2 := upd_same (H := H22) (a := q2) (o := HO.lst (us.map V.int))
      generalize upd H22 q2 (.lst (us.map V.int)) = H23 at s23 hq2 ⊢
      have hhg23 := s23 _ _ (s22 _ _ hhg21)
      refine ⟨_, rfl, hgl, hanging t, rfl, SqL.of hhg23, fun ws q3 pw sw nq3 => ?_⟩
      have e : us = ws := sorted_eq (pu.trans (pm.trans pw.symm)) su sw
      subst e
      have s24 := same_upd (o := HO.lst (us.map V.int)) nq3
      have hq3 := upd_same (H := H23) (a := q3) (o := HO.lst (us.map V.int))
      generalize upd H23 q3 (.lst (us.map V.int)) = H24 at s24 hq3 ⊢
      refine ⟨_, _, .lst (SqL.of (s24 _ _ hq2)) (intD_dp _), .lst (SqL.of hq3) (intD_dp _), (Flat.list (Flat.intD us)).shaped (by decide), (Flat.list (Flat.intD us)).shaped (by decide), ?_⟩
      rw [(Flat.list (Flat.intD us)).refl]
      exact q _
end
theorem all_mk {l : PySem.W.OpenLaw} {w : World} {K : PySem.W.Frag} {h : Heap} {mg : Str → Option Value} {fa : Addr} (X : K.In h) (G : h.Ns mainGlobals mg) (hfa : mg "law" = some (.ref fa))
    {f0 : Addr} {od0 an0 : Option Addr} {sl0 : Array (Option Value)} {oc0 kV0 dc0 pm0 cd0 ct0 : Value} {f1 : Addr} {od1 an1 : Option Addr} {sl1 : Array (Option Value)} {oc1 kV1 dc1 pm1 cd1 ct1 : Value} {f2 : Addr} {od2 an2 : Option Addr} {sl2 : Array (Option Value)} {oc2 kV2 dc2 pm2 cd2 ct2 : Value} {f3 : Addr} {od3 an3 : Option Addr} {sl3 : Array (Option Value)} {oc3 kV3 dc3 pm3 cd3 ct3 : Value} {f4 : Addr} {od4 an4 : Option Addr} {sl4 : Array (Option Value)} {oc4 kV4 dc4 pm4 cd4 ct4 : Value} {f5 : Addr} {od5 an5 : Option Addr} {sl5 : Array (Option Value)} {oc5 kV5 dc5 pm5 cd5 ct5 : Value} {f6 : Addr} {od6 an6 : Option Addr} {sl6 : Array (Option Value)} {oc6 kV6 dc6 pm6 cd6 ct6 : Value} {f7 : Addr} {od7 an7 : Option Addr} {sl7 : Array (Option Value)} {oc7 kV7 dc7 pm7 cd7 ct7 : Value} {f8 : Addr} {od8 an8 : Option Addr} {sl8 : Array (Option Value)} {oc8 kV8 dc8 pm8 cd8 ct8 : Value} {f9 : Addr} {od9 an9 : Option Addr} {sl9 : Array (Option Value)} {oc9 kV9 dc9 pm9 cd9 ct9 : Value} {f10 : Addr} {od10 an10 : Option Addr} {sl10 : Array (Option Value)} {oc10 kV10 dc10 pm10 cd10 ct10 : Value} {f11 : Addr} {od11 an11 : Option Addr} {sl11 : Array (Option Value)} {oc11 kV11 dc11 pm11 cd11 ct11 : Value} {f12 : Addr} {od12 an12 : Option Addr} {sl12 : Array (Option Value)} {oc12 kV12 dc12 pm12 cd12 ct12 : Value}
    (a0 : PySem.W.nsIn K mainGlobals "children" = some (some (.ref f0))) (l0 : K.lookup f0 = some ⟨oc0, od0, .func (PySem.W.fnOf "children" "children" (defArgs s_children) (defBody s_children) (defScope s_children) .none kV0 dc0 pm0 an0 cd0 ct0), sl0⟩) (c0 : PySem.W.codeIn K cd0 "children" = true) (k0 : PySem.W.keepIn K (.ref f0) = true)
    (a1 : PySem.W.nsIn K mainGlobals "rows" = some (some (.ref f1))) (l1 : K.lookup f1 = some ⟨oc1, od1, .func (PySem.W.fnOf "rows" "rows" (defArgs s_rows) (defBody s_rows) (defScope s_rows) .none kV1 dc1 pm1 an1 cd1 ct1), sl1⟩) (c1 : PySem.W.codeIn K cd1 "rows" = true) (k1 : PySem.W.keepIn K (.ref f1) = true)
    (a2 : PySem.W.nsIn K mainGlobals "_children_falling" = some (some (.ref f2))) (l2 : K.lookup f2 = some ⟨oc2, od2, .func (PySem.W.fnOf "_children_falling" "_children_falling" (defArgs s_children_falling) (defBody s_children_falling) (defScope s_children_falling) .none kV2 dc2 pm2 an2 cd2 ct2), sl2⟩) (c2 : PySem.W.codeIn K cd2 "_children_falling" = true) (k2 : PySem.W.keepIn K (.ref f2) = true)
    (a3 : PySem.W.nsIn K mainGlobals "_law_whole" = some (some (.ref f3))) (l3 : K.lookup f3 = some ⟨oc3, od3, .func (PySem.W.fnOf "_law_whole" "_law_whole" (defArgs s_law_whole) (defBody s_law_whole) (defScope s_law_whole) .none kV3 dc3 pm3 an3 cd3 ct3), sl3⟩) (c3 : PySem.W.codeIn K cd3 "_law_whole" = true) (k3 : PySem.W.keepIn K (.ref f3) = true)
    (a4 : PySem.W.nsIn K mainGlobals "_law_cell_at" = some (some (.ref f4))) (l4 : K.lookup f4 = some ⟨oc4, od4, .func (PySem.W.fnOf "_law_cell_at" "_law_cell_at" (defArgs s_law_cell_at) (defBody s_law_cell_at) (defScope s_law_cell_at) .none kV4 dc4 pm4 an4 cd4 ct4), sl4⟩) (c4 : PySem.W.codeIn K cd4 "_law_cell_at" = true) (k4 : PySem.W.keepIn K (.ref f4) = true)
    (a5 : PySem.W.nsIn K mainGlobals "_law_name" = some (some (.ref f5))) (l5 : K.lookup f5 = some ⟨oc5, od5, .func (PySem.W.fnOf "_law_name" "_law_name" (defArgs s_law_name) (defBody s_law_name) (defScope s_law_name) .none kV5 dc5 pm5 an5 cd5 ct5), sl5⟩) (c5 : PySem.W.codeIn K cd5 "_law_name" = true) (k5 : PySem.W.keepIn K (.ref f5) = true)
    (a6 : PySem.W.nsIn K mainGlobals "_law_tree" = some (some (.ref f6))) (l6 : K.lookup f6 = some ⟨oc6, od6, .func (PySem.W.fnOf "_law_tree" "_law_tree" (defArgs s_law_tree) (defBody s_law_tree) (defScope s_law_tree) .none kV6 dc6 pm6 an6 cd6 ct6), sl6⟩) (c6 : PySem.W.codeIn K cd6 "_law_tree" = true) (k6 : PySem.W.keepIn K (.ref f6) = true)
    (a7 : PySem.W.nsIn K mainGlobals "_law_pick" = some (some (.ref f7))) (l7 : K.lookup f7 = some ⟨oc7, od7, .func (PySem.W.fnOf "_law_pick" "_law_pick" (defArgs s_law_pick) (defBody s_law_pick) (defScope s_law_pick) .none kV7 dc7 pm7 an7 cd7 ct7), sl7⟩) (c7 : PySem.W.codeIn K cd7 "_law_pick" = true) (k7 : PySem.W.keepIn K (.ref f7) = true)
    (a8 : PySem.W.nsIn K mainGlobals "_law_way" = some (some (.ref f8))) (l8 : K.lookup f8 = some ⟨oc8, od8, .func (PySem.W.fnOf "_law_way" "_law_way" (defArgs s_law_way) (defBody s_law_way) (defScope s_law_way) .none kV8 dc8 pm8 an8 cd8 ct8), sl8⟩) (c8 : PySem.W.codeIn K cd8 "_law_way" = true) (k8 : PySem.W.keepIn K (.ref f8) = true)
    (a9 : PySem.W.nsIn K mainGlobals "_law_numbers" = some (some (.ref f9))) (l9 : K.lookup f9 = some ⟨oc9, od9, .func (PySem.W.fnOf "_law_numbers" "_law_numbers" (defArgs s_law_numbers) (defBody s_law_numbers) (defScope s_law_numbers) .none kV9 dc9 pm9 an9 cd9 ct9), sl9⟩) (c9 : PySem.W.codeIn K cd9 "_law_numbers" = true) (k9 : PySem.W.keepIn K (.ref f9) = true)
    (a10 : PySem.W.nsIn K mainGlobals "_law_same_tree" = some (some (.ref f10))) (l10 : K.lookup f10 = some ⟨oc10, od10, .func (PySem.W.fnOf "_law_same_tree" "_law_same_tree" (defArgs s_law_same_tree) (defBody s_law_same_tree) (defScope s_law_same_tree) .none kV10 dc10 pm10 an10 cd10 ct10), sl10⟩) (c10 : PySem.W.codeIn K cd10 "_law_same_tree" = true) (k10 : PySem.W.keepIn K (.ref f10) = true)
    (a11 : PySem.W.nsIn K mainGlobals "_law_hangs" = some (some (.ref f11))) (l11 : K.lookup f11 = some ⟨oc11, od11, .func (PySem.W.fnOf "_law_hangs" "_law_hangs" (defArgs s_law_hangs) (defBody s_law_hangs) (defScope s_law_hangs) .none kV11 dc11 pm11 an11 cd11 ct11), sl11⟩) (c11 : PySem.W.codeIn K cd11 "_law_hangs" = true) (k11 : PySem.W.keepIn K (.ref f11) = true)
    (a12 : PySem.W.nsIn K mainGlobals "law" = some (some (.ref f12))) (l12 : K.lookup f12 = some ⟨oc12, od12, .func (PySem.W.fnOf "law" "law" (defArgs s_law) (defBody s_law) (defScope s_law) .none kV12 dc12 pm12 an12 cd12 ct12), sl12⟩) (c12 : PySem.W.codeIn K cd12 "law" = true) (k12 : PySem.W.keepIn K (.ref f12) = true)
    (z0 : PySem.W.nsIn K mainGlobals "bool" = some none)
    (z1 : PySem.W.nsIn K mainGlobals "dict" = some none)
    (z2 : PySem.W.nsIn K mainGlobals "int" = some none)
    (z3 : PySem.W.nsIn K mainGlobals "isinstance" = some none)
    (z4 : PySem.W.nsIn K mainGlobals "len" = some none)
    (z5 : PySem.W.nsIn K mainGlobals "list" = some none)
    (z6 : PySem.W.nsIn K mainGlobals "range" = some none)
    (z7 : PySem.W.nsIn K mainGlobals "sorted" = some none)
    (z8 : PySem.W.nsIn K mainGlobals "tuple" = some none)
    {t0 : Tok} (v0 : PySem.W.nsIn K mainGlobals "TOP" = some (some (.int 0 t0)))
    : ∃ fd : FuncData, (∀ (s : Shared) (v : Value), BindsTo s fd ⟨[v], []⟩ [("_law_script", v)]) ∧ ∀ base : Heap, K.In base → base.Ns mainGlobals mg → FnOk l.prog w K mg base CX0 3 fa fd ["_law_script"] (sp_law K) := by
  have e := hfa.symm.trans (PySem.W.mg_of X G a12)
  cases e
  have F0 := fun_mk (st := s_children) l0 c0 k0
  have b0 := F0.binds (ps := ["tree", "folder"]) fun _ _ _ _ _ _ us hl => match us, hl with | [_, _], _ => rfl
  have F1 := fun_mk (st := s_rows) l1 c1 k1
  have b1 := F1.binds (ps := ["tree"]) fun _ _ _ _ _ _ us hl => match us, hl with | [_], _ => rfl
  have F2 := fun_mk (st := s_children_falling) l2 c2 k2
  have b2 := F2.binds (ps := ["tree"]) fun _ _ _ _ _ _ us hl => match us, hl with | [_], _ => rfl
  have F3 := fun_mk (st := s_law_whole) l3 c3 k3
  have b3 := F3.binds (ps := ["_law_found"]) fun _ _ _ _ _ _ us hl => match us, hl with | [_], _ => rfl
  have F4 := fun_mk (st := s_law_cell_at) l4 c4 k4
  have b4 := F4.binds (ps := ["_law_script", "_law_k"]) fun _ _ _ _ _ _ us hl => match us, hl with | [_, _], _ => rfl
  have F5 := fun_mk (st := s_law_name) l5 c5 k5
  have b5 := F5.binds (ps := ["_law_k", "_law_cell"]) fun _ _ _ _ _ _ us hl => match us, hl with | [_, _], _ => rfl
  have F6 := fun_mk (st := s_law_tree) l6 c6 k6
  have b6 := F6.binds (ps := ["_law_script", "_law_size", "_law_wide", "_law_cell"]) fun _ _ _ _ _ _ us hl => match us, hl with | [_, _, _, _], _ => rfl
  have F7 := fun_mk (st := s_law_pick) l7 c7 k7
  have b7 := F7.binds (ps := ["_law_pick_here", "_law_size", "_law_cell"]) fun _ _ _ _ _ _ us hl => match us, hl with | [_, _, _], _ => rfl
  have F8 := fun_mk (st := s_law_way) l8 c8 k8
  have b8 := F8.binds (ps := ["_law_tree_here", "_law_folder"]) fun _ _ _ _ _ _ us hl => match us, hl with | [_, _], _ => rfl
  have F9 := fun_mk (st := s_law_numbers) l9 c9 k9
  have b9 := F9.binds (ps := ["_law_found", "_law_due"]) fun _ _ _ _ _ _ us hl => match us, hl with | [_, _], _ => rfl
  have F10 := fun_mk (st := s_law_same_tree) l10 c10 k10
  have b10 := F10.binds (ps := ["_law_found", "_law_due"]) fun _ _ _ _ _ _ us hl => match us, hl with | [_, _], _ => rfl
  have F11 := fun_mk (st := s_law_hangs) l11 c11 k11
  have b11 := F11.binds (ps := ["_law_tree_here", "_law_found"]) fun _ _ _ _ _ _ us hl => match us, hl with | [_, _], _ => rfl
  have F12 := fun_mk (st := s_law) l12 c12 k12
  have b12 := F12.binds (ps := ["_law_script"]) fun _ _ _ _ _ _ us hl => match us, hl with | [_], _ => rfl
  refine ⟨PySem.W.fnOf "law" "law" (defArgs s_law) (defBody s_law) (defScope s_law) .none kV12 dc12 pm12 an12 cd12 ct12, fun s v => .of_eq rfl, fun base _ _ => ?_⟩
  exact ok_law ⟨f0, _, F0, b0, PySem.W.mg_of X G a0, f1, _, F1, b1, PySem.W.mg_of X G a1, f2, _, F2, b2, PySem.W.mg_of X G a2, f3, _, F3, b3, PySem.W.mg_of X G a3, f4, _, F4, b4, PySem.W.mg_of X G a4, f5, _, F5, b5, PySem.W.mg_of X G a5, f6, _, F6, b6, PySem.W.mg_of X G a6, f7, _, F7, b7, PySem.W.mg_of X G a7, f8, _, F8, b8, PySem.W.mg_of X G a8, f9, _, F9, b9, PySem.W.mg_of X G a9, f10, _, F10, b10, PySem.W.mg_of X G a10, f11, _, F11, b11, PySem.W.mg_of X G a11, fa, _, F12, b12, PySem.W.mg_of X G a12, PySem.W.mg_none_of X G z0, PySem.W.mg_none_of X G z1, PySem.W.mg_none_of X G z2, PySem.W.mg_none_of X G z3, PySem.W.mg_none_of X G z4, PySem.W.mg_none_of X G z5, PySem.W.mg_none_of X G z6, PySem.W.mg_none_of X G z7, PySem.W.mg_none_of X G z8, t0, PySem.W.mg_of X G v0⟩
end Tm
open PySem PySem.W PyProof.Rows
set_option maxHeartbeats 0 in
theorem PySem.Challenge.cw_treemove_k04_rows_holds : PySem.Challenge.rw_treemove_k04_rows.Holds := by
  w_on; o_law; k_head; (case hw => w_witness2)
  k_fill
  refine L2.walk_of (l := PySem.Challenge.rw_treemove_k04_rows) (n := 63) (k := 3) (x := "_law_script") (CX := fun _ => L2.CX0) (sp := fun w => Tm.sp_law _) rfl (by decide) rfl ⟨rfl, by decide, by decide⟩ (fun w h Y => PySem.W.kIn_of Y) ?F (fun _ _ a ns hl _ hS => ⟨a, ns, rfl, hS, hl, fun _ => rfl⟩) (fun _ _ _ _ _ h => h)
  case F =>
    intro w mg fa h KX G hmg
    refine' Tm.all_mk KX G hmg ?a0 ?l0 ?c0 ?k0 ?a1 ?l1 ?c1 ?k1 ?a2 ?l2 ?c2 ?k2 ?a3 ?l3 ?c3 ?k3 ?a4 ?l4 ?c4 ?k4 ?a5 ?l5 ?c5 ?k5 ?a6 ?l6 ?c6 ?k6 ?a7 ?l7 ?c7 ?k7 ?a8 ?l8 ?c8 ?k8 ?a9 ?l9 ?c9 ?k9 ?a10 ?l10 ?c10 ?k10 ?a11 ?l11 ?c11 ?k11 ?a12 ?l12 ?c12 ?k12 ?z0 ?z1 ?z2 ?z3 ?z4 ?z5 ?z6 ?z7 ?z8 ?v0
    (case a0 => k_is); (case l0 => k_is); (case c0 => k_is); (case k0 => k_is); (case a1 => k_is); (case l1 => k_is)
    (case c1 => k_is); (case k1 => k_is); (case a2 => k_is); (case l2 => k_is); (case c2 => k_is); (case k2 => k_is)
    (case a3 => k_is); (case l3 => k_is); (case c3 => k_is); (case k3 => k_is); (case a4 => k_is); (case l4 => k_is)
    (case c4 => k_is); (case k4 => k_is); (case a5 => k_is); (case l5 => k_is); (case c5 => k_is); (case k5 => k_is)
    (case a6 => k_is); (case l6 => k_is); (case c6 => k_is); (case k6 => k_is); (case a7 => k_is); (case l7 => k_is)
    (case c7 => k_is); (case k7 => k_is); (case a8 => k_is); (case l8 => k_is); (case c8 => k_is); (case k8 => k_is)
    (case a9 => k_is); (case l9 => k_is); (case c9 => k_is); (case k9 => k_is); (case a10 => k_is); (case l10 => k_is)
    (case c10 => k_is); (case k10 => k_is); (case a11 => k_is); (case l11 => k_is); (case c11 => k_is); (case k11 => k_is)
    (case a12 => k_is); (case l12 => k_is); (case c12 => k_is); (case k12 => k_is); (case z0 => k_is); (case z1 => k_is)
    (case z2 => k_is); (case z3 => k_is); (case z4 => k_is); (case z5 => k_is); (case z6 => k_is); (case z7 => k_is)
    (case z8 => k_is); (case v0 => k_is)
