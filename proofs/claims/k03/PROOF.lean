import PyProof.Rows.All
import Wide.All
import OpenK.AllK
import Wide.FinOn
import HandS.ForMost
import HandS.IsInst
import HandS.More
import PySem.Challenge.RW_treemove_k03_put
set_option Elab.async false
set_option linter.all false
set_option maxRecDepth 100000
set_option pp.maxSteps 900
namespace Tm
open PySem PySem.Spec PyProof.Rows L2
def topS (i : Nat) : Stmt := PySem.Challenge.pw_treemove_k03_put.main.body.getD i (.Pass ⟨0, 0, 0, 0⟩)
abbrev s_way_up : Stmt := topS 1
theorem sc_way_up : FnScope ["tree", "folder", "way"] ["tree", "folder"] (defScope s_way_up) := ⟨rfl, rfl, rfl, by decide +kernel, rfl, by decide +kernel, by decide +kernel⟩
abbrev s_closes : Stmt := topS 2
theorem sc_closes : FnScope ["tree", "folder", "under"] ["tree", "folder", "under"] (defScope s_closes) := ⟨rfl, rfl, rfl, by decide +kernel, rfl, by decide +kernel, by decide +kernel⟩
abbrev s_put : Stmt := topS 3
theorem sc_put : FnScope ["tree", "folder", "under", "made"] ["tree", "folder", "under"] (defScope s_put) := ⟨rfl, rfl, rfl, by decide +kernel, rfl, by decide +kernel, by decide +kernel⟩
abbrev s_law_whole : Stmt := topS 5
theorem sc_law_whole : FnScope ["_law_found"] ["_law_found"] (defScope s_law_whole) := ⟨rfl, rfl, rfl, by decide +kernel, rfl, by decide +kernel, by decide +kernel⟩
abbrev s_law_cell_at : Stmt := topS 6
theorem sc_law_cell_at : FnScope ["_law_script", "_law_k"] ["_law_script", "_law_k"] (defScope s_law_cell_at) := ⟨rfl, rfl, rfl, by decide +kernel, rfl, by decide +kernel, by decide +kernel⟩
abbrev s_law_name : Stmt := topS 7
theorem sc_law_name : FnScope ["_law_k", "_law_cell", "_law_some"] ["_law_k", "_law_cell"] (defScope s_law_name) := ⟨rfl, rfl, rfl, by decide +kernel, rfl, by decide +kernel, by decide +kernel⟩
abbrev s_law_tree : Stmt := topS 8
theorem sc_law_tree : FnScope ["_law_script", "_law_size", "_law_wide", "_law_cell", "_law_tree_here", "_law_k", "_law_pick_here"] ["_law_script", "_law_size", "_law_wide", "_law_cell"] (defScope s_law_tree) := ⟨rfl, rfl, rfl, by decide +kernel, rfl, by decide +kernel, by decide +kernel⟩
abbrev s_law_pick : Stmt := topS 9
theorem sc_law_pick : FnScope ["_law_pick_here", "_law_size", "_law_cell"] ["_law_pick_here", "_law_size", "_law_cell"] (defScope s_law_pick) := ⟨rfl, rfl, rfl, by decide +kernel, rfl, by decide +kernel, by decide +kernel⟩
abbrev s_law_way : Stmt := topS 10
theorem sc_law_way : FnScope ["_law_tree_here", "_law_folder", "_law_way_here"] ["_law_tree_here", "_law_folder"] (defScope s_law_way) := ⟨rfl, rfl, rfl, by decide +kernel, rfl, by decide +kernel, by decide +kernel⟩
abbrev s_law_same_tree : Stmt := topS 11
theorem sc_law_same_tree : FnScope ["_law_found", "_law_due", "_law_folder"] ["_law_found", "_law_due"] (defScope s_law_same_tree) := ⟨rfl, rfl, rfl, by decide +kernel, rfl, by decide +kernel, by decide +kernel⟩
abbrev s_law : Stmt := topS 12
theorem sc_law : FnScope ["_law_script", "_law_size", "_law_wide", "_law_cell", "_law_tree_here", "_law_folder", "_law_under", "_law_ring", "_law_handed", "_law_found", "_law_due", "_law_made", "_law_kept"] ["_law_script"] (defScope s_law) := ⟨rfl, rfl, rfl, by decide +kernel, rfl, by decide +kernel, by decide +kernel⟩
theorem st_way_up (v0 v1 : V) : L2.start ["tree", "folder", "way"] [v0, v1] = [some v0, some v1, none] := rfl
theorem st_closes (v0 v1 v2 : V) : L2.start ["tree", "folder", "under"] [v0, v1, v2] = [some v0, some v1, some v2] := rfl
theorem st_put (v0 v1 v2 : V) : L2.start ["tree", "folder", "under", "made"] [v0, v1, v2] = [some v0, some v1, some v2, none] := rfl
theorem st_law_whole (v0 : V) : L2.start ["_law_found"] [v0] = [some v0] := rfl
theorem st_law_cell_at (v0 v1 : V) : L2.start ["_law_script", "_law_k"] [v0, v1] = [some v0, some v1] := rfl
theorem st_law_name (v0 v1 : V) : L2.start ["_law_k", "_law_cell", "_law_some"] [v0, v1] = [some v0, some v1, none] := rfl
theorem st_law_tree (v0 v1 v2 v3 : V) : L2.start ["_law_script", "_law_size", "_law_wide", "_law_cell", "_law_tree_here", "_law_k", "_law_pick_here"] [v0, v1, v2, v3] = [some v0, some v1, some v2, some v3, none, none, none] := rfl
theorem st_law_pick (v0 v1 v2 : V) : L2.start ["_law_pick_here", "_law_size", "_law_cell"] [v0, v1, v2] = [some v0, some v1, some v2] := rfl
theorem st_law_way (v0 v1 : V) : L2.start ["_law_tree_here", "_law_folder", "_law_way_here"] [v0, v1] = [some v0, some v1, none] := rfl
theorem st_law_same_tree (v0 v1 : V) : L2.start ["_law_found", "_law_due", "_law_folder"] [v0, v1] = [some v0, some v1, none] := rfl
theorem st_law (v0 : V) : L2.start ["_law_script", "_law_size", "_law_wide", "_law_cell", "_law_tree_here", "_law_folder", "_law_under", "_law_ring", "_law_handed", "_law_found", "_law_due", "_law_made", "_law_kept"] [v0] = [some v0, none, none, none, none, none, none, none, none, none, none, none, none] := rfl
/-- what the top leaves -/
structure Tx (K : PySem.W.Frag) (mg : Str → Option Value) where
  a_way_up : Addr
  d_way_up : FuncData
  F_way_up : Fun K "way_up" "way_up" s_way_up a_way_up d_way_up
  b_way_up : Binds K d_way_up ["tree", "folder"] []
  g_way_up : mg "way_up" = some (.ref a_way_up)
  a_closes : Addr
  d_closes : FuncData
  F_closes : Fun K "closes" "closes" s_closes a_closes d_closes
  b_closes : Binds K d_closes ["tree", "folder", "under"] []
  g_closes : mg "closes" = some (.ref a_closes)
  a_put : Addr
  d_put : FuncData
  F_put : Fun K "put" "put" s_put a_put d_put
  b_put : Binds K d_put ["tree", "folder", "under"] []
  g_put : mg "put" = some (.ref a_put)
  a_law_whole : Addr
  d_law_whole : FuncData
  F_law_whole : Fun K "_law_whole" "_law_whole" s_law_whole a_law_whole d_law_whole
  b_law_whole : Binds K d_law_whole ["_law_found"] []
  g_law_whole : mg "_law_whole" = some (.ref a_law_whole)
  a_law_cell_at : Addr
  d_law_cell_at : FuncData
  F_law_cell_at : Fun K "_law_cell_at" "_law_cell_at" s_law_cell_at a_law_cell_at d_law_cell_at
  b_law_cell_at : Binds K d_law_cell_at ["_law_script", "_law_k"] []
  g_law_cell_at : mg "_law_cell_at" = some (.ref a_law_cell_at)
  a_law_name : Addr
  d_law_name : FuncData
  F_law_name : Fun K "_law_name" "_law_name" s_law_name a_law_name d_law_name
  b_law_name : Binds K d_law_name ["_law_k", "_law_cell"] []
  g_law_name : mg "_law_name" = some (.ref a_law_name)
  a_law_tree : Addr
  d_law_tree : FuncData
  F_law_tree : Fun K "_law_tree" "_law_tree" s_law_tree a_law_tree d_law_tree
  b_law_tree : Binds K d_law_tree ["_law_script", "_law_size", "_law_wide", "_law_cell"] []
  g_law_tree : mg "_law_tree" = some (.ref a_law_tree)
  a_law_pick : Addr
  d_law_pick : FuncData
  F_law_pick : Fun K "_law_pick" "_law_pick" s_law_pick a_law_pick d_law_pick
  b_law_pick : Binds K d_law_pick ["_law_pick_here", "_law_size", "_law_cell"] []
  g_law_pick : mg "_law_pick" = some (.ref a_law_pick)
  a_law_way : Addr
  d_law_way : FuncData
  F_law_way : Fun K "_law_way" "_law_way" s_law_way a_law_way d_law_way
  b_law_way : Binds K d_law_way ["_law_tree_here", "_law_folder"] []
  g_law_way : mg "_law_way" = some (.ref a_law_way)
  a_law_same_tree : Addr
  d_law_same_tree : FuncData
  F_law_same_tree : Fun K "_law_same_tree" "_law_same_tree" s_law_same_tree a_law_same_tree d_law_same_tree
  b_law_same_tree : Binds K d_law_same_tree ["_law_found", "_law_due"] []
  g_law_same_tree : mg "_law_same_tree" = some (.ref a_law_same_tree)
  a_law : Addr
  d_law : FuncData
  F_law : Fun K "law" "law" s_law a_law d_law
  b_law : Binds K d_law ["_law_script"] []
  g_law : mg "law" = some (.ref a_law)
  m_bool : mg "bool" = none
  m_dict : mg "dict" = none
  m_int : mg "int" = none
  m_isinstance : mg "isinstance" = none
  m_len : mg "len" = none
  m_range : mg "range" = none
/-! ### short readings -/
theorem isi {K : PySem.W.Frag} {H : Hp} {x : V} {t n : String} {b : Bool} {Q : VK} (ty : TyX K H x (.type t)) (e : kitB t n = some b) (q : Q (.bl b) H) : rIsi K [x, .ty n] H Q := ⟨x, .ty n, .type t, .type n, b, rfl, .ty n, ty, kit_ty e, q⟩
theorem kbb : kitB "bool" "bool" = some true := by decide +kernel
theorem kbi : kitB "bool" "int" = some true := by decide +kernel
theorem kii : kitB "int" "int" = some true := by decide +kernel
theorem kib : kitB "int" "bool" = some false := by decide +kernel
theorem kll : kitB "list" "list" = some true := by decide +kernel
theorem ktt : kitB "tuple" "tuple" = some true := by decide +kernel
theorem kdd : kitB "dict" "dict" = some true := by decide +kernel
theorem kss : kitB "str" "str" = some true := by decide +kernel
theorem same_upd {H : Hp} {p : Addr} {o : HO} (h : H p = none) : Same H (upd H p o) := fun b x e => by
  rw [upd_ne (ne_of_none e h)]
  exact e
/-- a change at an object that is new since H -/
theorem same_set {H H' : Hp} {p : Addr} {o : HO} (s : Same H H') (h : H p = none) : Same H (upd H' p o) := fun b x e => by
  rw [upd_ne (ne_of_none e h)]
  exact s b x e
theorem same_seqT {K : PySem.W.Frag} {H H' : Hp} {a : Addr} {xs : List V} (e : Same H H') (h : SqT K H a xs) : SqT K H' a xs := by
  rcases h with (h | ⟨o, h⟩) | h
  · exact .inl (.inl (e _ _ h))
  · exact .inl (.inr ⟨o, e _ _ h⟩)
  · exact .inr h
theorem p60 : (10 : Int) ^ (Int.toNat 60) = 1000000000000000000000000000000000000000000000000000000000000 := by decide +kernel
theorem ite_ne {x y : V} {A B : Prop} (e : x = y) (h : B) : if (!decide (x = y)) = true then A else B := by
  rw [decide_eq_true e]
  exact iteF h
theorem ite_eq {x y : V} {A B : Prop} (e : x = y) (h : A) : if decide (x = y) = true then A else B := by
  rw [decide_eq_true e]
  exact iteT h
local macro_rules | `(tactic| walk_at "cond") => `(tactic| first
  | assumption
  | exact Nat.le_of_ble_eq_true rfl
  | decide
  | omega
  | (dsimp only; first | decide | omega)
  | exact ⟨by decide, by decide, by decide⟩
  | exact ⟨by first | decide | omega, by first | decide | omega⟩
  | exact .inr ⟨by first | decide | omega, by first | decide | omega⟩
  | exact .inl ⟨by first | decide | omega, by first | decide | omega⟩)
local macro_rules | `(tactic| walk_at "rd1") => `(tactic| first
  | refine ⟨_, rfl, ?_⟩
  | refine ⟨_, _, rfl, rfl, ?_⟩
  | refine ⟨rfl, ?_⟩
  | refine ⟨_, _, rfl, ?_⟩
  | refine ⟨(by walk_at "cond" : (_ : Prop)), ?_⟩
  | refine ⟨_, _, _, rfl, by assumption, by first | decide | omega, ?_⟩
  | refine ⟨_, _, rfl, by assumption, ?_⟩
  | refine ⟨_, _, _, _, _, rfl, .ty _, .base (.int _), kit_ty kii, ?_⟩
  | refine ⟨_, _, _, _, _, rfl, .ty _, .base (.int _), kit_ty kib, ?_⟩
  | refine ⟨_, _, _, _, _, rfl, .ty _, .base (.bl _), kit_ty kbb, ?_⟩
  | refine ⟨_, _, _, _, _, rfl, .ty _, .base (.bl _), kit_ty kbi, ?_⟩
  | refine ⟨_, _, _, _, _, rfl, .ty _, .base (.str _), kit_ty kss, ?_⟩
  | refine ⟨_, _, _, _, _, rfl, .ty _, .base (.lst (by assumption)), kit_ty kll, ?_⟩
  | refine ⟨_, _, _, _, _, rfl, .ty _, .base (.tup (by assumption)), kit_ty ktt, ?_⟩
  | refine ⟨_, _, _, _, _, rfl, .ty _, .base (.dK (by assumption)), kit_ty kdd, ?_⟩
  | refine ⟨_, _, _, _, rfl, rfl, by assumption, by first | exact atI_nat (j := 0) rfl | exact atI_nat (j := 1) rfl | exact atI_nat (j := 2) rfl | exact atI_nat (j := 3) rfl, ?_⟩
  | refine ⟨_, _, _, rfl, ?_⟩
  | refine iteF ?_
  | refine iteT ?_
  | refine ite_ne rfl ?_
  | refine ite_eq rfl ?_)
local macro_rules | `(tactic| walk_at "nm") => `(tactic| try dsimp only [List.set_cons_zero, List.set_cons_succ])
local macro_rules | `(tactic| walk_at "rd") => `(tactic| ((repeat (walk_at "rd1")); walk_at "nm"))

/-! ### trees of numbers -/
def kvT (t : List (Int × Int)) : List (Key × V) := t.map fun p => (Sum.inl p.1, V.int p.2)
def look (t : List (Int × Int)) (k : Int) : Option Int := (t.find? fun p => decide (p.1 = k)).map (·.2)
def putT (t : List (Int × Int)) (k v : Int) : List (Int × Int) :=
  if (t.any fun p => decide (p.1 = k)) = true then t.map (fun p => if p.1 = k then (p.1, v) else p) else t ++ [(k, v)]
theorem look_nil (k : Int) : look [] k = none := rfl
theorem look_cons (p : Int × Int) (t : List (Int × Int)) (k : Int) : look (p :: t) k = if p.1 = k then some p.2 else look t k := by
  unfold look
  rw [List.find?_cons]
  by_cases h : p.1 = k
  · rw [decide_eq_true h, if_pos h]
    rfl
  · rw [decide_eq_false h, if_neg h]
theorem kvT_length (t : List (Int × Int)) : (kvT t).length = t.length := List.length_map ..
theorem valV_kvT (k : Int) : ∀ t : List (Int × Int), valV (kvT t) (Sum.inl k : Key) = (look t k).map V.int
  | [] => rfl
  | p :: t => by
    rw [look_cons]
    by_cases h : p.1 = k
    · rw [if_pos h]
      exact valV_pos (p := ((Sum.inl p.1 : Key), V.int p.2)) (congrArg Sum.inl h)
    · rw [if_neg h, ← valV_kvT k t]
      exact valV_neg (p := ((Sum.inl p.1 : Key), V.int p.2)) (fun z => h (Sum.inl.inj z))
theorem any_kvT (k : Int) (t : List (Int × Int)) : ((kvT t).any fun kv => decide (kv.1 = (Sum.inl k : Key))) = t.any fun p => decide (p.1 = k) := by
  induction t with
  | nil => rfl
  | cons p t ih =>
    show (decide ((Sum.inl p.1 : Key) = Sum.inl k) || (kvT t).any fun kv => decide (kv.1 = (Sum.inl k : Key))) = (decide (p.1 = k) || t.any fun p => decide (p.1 = k))
    rw [ih]
    by_cases h : p.1 = k
    · rw [decide_eq_true h, decide_eq_true (congrArg Sum.inl h)]
    · rw [decide_eq_false h, decide_eq_false (fun z => h (Sum.inl.inj z))]
theorem putK_kvT (t : List (Int × Int)) (k v : Int) : putK (kvT t) (Sum.inl k : Key) (V.int v) = kvT (putT t k v) := by
  unfold putK putT
  rw [any_kvT]
  by_cases h : (t.any fun p => decide (p.1 = k)) = true
  · rw [if_pos h, if_pos h]
    unfold kvT
    rw [List.map_map, List.map_map]
    refine List.map_congr_left fun p _ => ?_
    show (if (Sum.inl p.1 : Key) = Sum.inl k then ((Sum.inl p.1 : Key), V.int v) else ((Sum.inl p.1 : Key), V.int p.2)) = (Sum.inl (if p.1 = k then (p.1, v) else p).1, V.int (if p.1 = k then (p.1, v) else p).2)
    by_cases e : p.1 = k
    · rw [if_pos (congrArg Sum.inl e), if_pos e]
    · rw [if_neg (fun z => e (Sum.inl.inj z)), if_neg e]
  · rw [if_neg h, if_neg h]
    unfold kvT
    rw [List.map_append]
    rfl
theorem look_any (k : Int) : ∀ t : List (Int × Int), (t.any fun p => decide (p.1 = k)) = (look t k).isSome
  | [] => rfl
  | p :: t => by
    show (decide (p.1 = k) || t.any fun p => decide (p.1 = k)) = _
    rw [look_any k t, look_cons]
    by_cases h : p.1 = k
    · rw [decide_eq_true h, if_pos h]
      rfl
    · rw [decide_eq_false h, if_neg h, Bool.false_or]
theorem look_map (k j v : Int) : ∀ t : List (Int × Int), look (t.map fun p => if p.1 = k then (p.1, v) else p) j = (look t j).map fun x => if j = k then v else x
  | [] => rfl
  | p :: t => by
    rw [List.map_cons, look_cons, look_cons, look_map k j v t]
    by_cases h : p.1 = k
    · rw [if_pos h]
      by_cases e : p.1 = j
      · rw [if_pos e, if_pos e, Option.map_some, if_pos (e.symm.trans h)]
      · rw [if_neg e, if_neg e]
    · rw [if_neg h]
      by_cases e : p.1 = j
      · rw [if_pos e, if_pos e, Option.map_some, if_neg (fun z => h (e.trans z))]
      · rw [if_neg e, if_neg e]
theorem look_snoc (k j v : Int) : ∀ t : List (Int × Int), look t k = none → look (t ++ [(k, v)]) j = if j = k then some v else look t j
  | [], _ => by
    show look [(k, v)] j = _
    rw [look_cons, look_nil]
    by_cases e : k = j
    · rw [if_pos e, if_pos e.symm]
    · rw [if_neg e, if_neg (fun z => e z.symm)]
  | p :: t, h => by
    rw [look_cons] at h
    by_cases h1 : p.1 = k
    · rw [if_pos h1] at h
      cases h
    · rw [if_neg h1] at h
      rw [List.cons_append, look_cons, look_cons, look_snoc k j v t h]
      by_cases e : p.1 = j
      · rw [if_pos e, if_pos e, if_neg (fun z => h1 (e.trans z))]
      · rw [if_neg e, if_neg e]
theorem look_putT (t : List (Int × Int)) (k j v : Int) : look (putT t k v) j = if j = k then some v else look t j := by
  unfold putT
  by_cases h : (t.any fun p => decide (p.1 = k)) = true
  · rw [if_pos h, look_map]
    by_cases e : j = k
    · subst e
      rw [look_any] at h
      cases q : look t j with
      | none =>
        rw [q] at h
        cases h
      | some x =>
        rw [Option.map_some, if_pos rfl, if_pos rfl]
    · rw [if_neg e]
      cases look t j with
      | none => rfl
      | some x => rw [Option.map_some, if_neg e]
  · rw [if_neg h]
    refine look_snoc k j v t ?_
    rw [look_any] at h
    cases q : look t k with
    | none => rfl
    | some x =>
      rw [q] at h
      exact absurd rfl h
theorem keys_putT (t : List (Int × Int)) (k v : Int) : (putT t k v).map (·.1) = if (look t k).isSome = true then t.map (·.1) else t.map (·.1) ++ [k] := by
  unfold putT
  rw [look_any]
  by_cases h : (look t k).isSome = true
  · rw [if_pos h, if_pos h, List.map_map]
    refine List.map_congr_left fun p _ => ?_
    show (if p.1 = k then (p.1, v) else p).1 = p.1
    by_cases e : p.1 = k
    · rw [if_pos e]
    · rw [if_neg e]
  · rw [if_neg h, if_neg h, List.map_append]
    rfl
theorem look_mem {t : List (Int × Int)} {k v : Int} (h : look t k = some v) : (k, v) ∈ t := by
  induction t with
  | nil => cases h
  | cons p t ih =>
    rw [look_cons] at h
    by_cases e : p.1 = k
    · rw [if_pos e] at h
      cases h
      subst e
      exact List.mem_cons_self ..
    · rw [if_neg e] at h
      exact List.mem_cons_of_mem _ (ih h)
theorem mem_look {t : List (Int × Int)} {k v : Int} (hn : (t.map (·.1)).Nodup) (h : (k, v) ∈ t) : look t k = some v := by
  induction t with
  | nil => cases h
  | cons p t ih =>
    rw [look_cons]
    rw [List.map_cons, List.nodup_cons] at hn
    rcases List.mem_cons.mp h with e | e
    · subst e
      rw [if_pos rfl]
    · by_cases c : p.1 = k
      · exact absurd (List.mem_map.mpr ⟨(k, v), e, c.symm⟩) hn.1
      · rw [if_neg c]
        exact ih hn.2 e
theorem look_keys {t : List (Int × Int)} {k : Int} : k ∈ t.map (·.1) ↔ (look t k).isSome = true := by
  rw [← look_any, List.any_eq_true, List.mem_map]
  constructor
  · rintro ⟨p, hp, e⟩
    exact ⟨p, hp, decide_eq_true e⟩
  · rintro ⟨p, hp, e⟩
    exact ⟨p, hp, of_decide_eq_true e⟩
theorem nd_putT {t : List (Int × Int)} (k v : Int) (hn : (t.map (·.1)).Nodup) : ((putT t k v).map (·.1)).Nodup := by
  rw [keys_putT]
  by_cases h : (look t k).isSome = true
  · rw [if_pos h]
    exact hn
  · rw [if_neg h]
    refine List.nodup_append.mpr ⟨hn, List.nodup_cons.mpr ⟨fun z => (nomatch z), List.nodup_nil⟩, fun a ha b hb => ?_⟩
    rw [List.mem_singleton.mp hb]
    intro e
    subst e
    exact h (look_keys.mp ha)
theorem putT_length (t : List (Int × Int)) (k v : Int) : (putT t k v).length ≤ t.length + 1 := by
  unfold putT
  by_cases h : (t.any fun p => decide (p.1 = k)) = true
  · rw [if_pos h, List.length_map]
    omega
  · rw [if_neg h, List.length_append]
    exact Nat.le_refl _
/-- the way up -/
inductive Way (t : List (Int × Int)) : Int → List Int → Prop where
  | stop {f : Int} (h : look t f = none) : Way t f [f]
  | step {f u : Int} {l : List Int} (h : look t f = some u) (w : Way t u l) : Way t f (f :: l)
theorem Way.head {t : List (Int × Int)} {f : Int} {l : List Int} (w : Way t f l) : ∃ r, l = f :: r := by
  cases w with
  | stop h => exact ⟨_, rfl⟩
  | step h w => exact ⟨_, rfl⟩
theorem Way.det {t : List (Int × Int)} {f : Int} {l l' : List Int} (w : Way t f l) (w' : Way t f l') : l = l' := by
  induction w generalizing l' with
  | stop h =>
    cases w' with
    | stop _ => rfl
    | step h' _ =>
      rw [h] at h'
      cases h'
  | step h _ ih =>
    cases w' with
    | stop h' =>
      rw [h] at h'
      cases h'
    | step h' w' =>
      rw [h] at h'
      cases h'
      rw [ih w']

section
variable {P : Program} {w : World} {K : PySem.W.Frag} {mg : Str → Option Value} {base : Heap}
/-! ### _law_cell_at -/
def cellOf (ns : List Int) (k : Nat) : Int := ns.getD k 0
def sp_law_cell_at (K : PySem.W.Frag) : Sp := fun vs H Q _ => ∃ (a : Addr) (ns : List Int) (k : Int), vs = [.ref a, .int k] ∧ SqL K H a (ns.map V.int) ∧ 0 ≤ k ∧ Q (.int (cellOf ns k.toNat)) H
theorem ok_law_cell_at (T : Tx K mg) : FnOk P w K mg base CX0 1 T.a_law_cell_at T.d_law_cell_at ["_law_script", "_law_k"] (sp_law_cell_at K) := by
  refine T.F_law_cell_at.ok sc_law_cell_at (fun vs H Q E h => ?_) (fun cdv A outer s H vs Q E hr h => ?_)
  · obtain ⟨a, ns, k, rfl, _⟩ := h
    rfl
  · obtain ⟨a, ns, k, rfl, hS, hk, q⟩ := h
    obtain ⟨k, rfl⟩ := Int.eq_ofNat_of_zero_le hk
    refine ⟨_, pss_cons (ps_if (pt_cmpR op_lt (pv 1) (pe_callB call_len_seq (by rfl) T.m_len PySem.boot_len (pa_cons (pv 0) pa_nil)) (nomark _)) (pss_one (ps_ret (pe_ix ix_list (pv 0) (pv 1) (fun _ _ => rfl)))) pss_nil)
      (pss_one (ps_ret pe_int)), ?_⟩
    refine ⟨_, rfl, .ref a, rfl, a, _, rfl, .inl hS, _, _, rfl, rfl, _, rfl, ite2 (fun e => ?_) (fun e => ?_)⟩
    · have e1 := of_decide_eq_true e
      rw [List.length_map] at e1
      have h1 : k < ns.length := by omega
      refine ⟨_, rfl, _, rfl, a, _, _, _, rfl, rfl, hS, atI_nat (j := k) (v := .int ns[k]) (by rw [List.getElem?_map, List.getElem?_eq_getElem h1]; rfl), ?_⟩
      have e2 : cellOf ns k = ns[k] := by
        unfold cellOf
        rw [List.getD_eq_getElem?_getD, List.getElem?_eq_getElem h1]
        rfl
      have q' : Q (.int (cellOf ns k)) H := q
      rw [e2] at q'
      exact q'
    · have e1 : ¬ ((k : Int) < ((ns.map V.int).length : Nat)) := fun z => e (decide_eq_true z)
      rw [List.length_map] at e1
      have h1 : ns.length ≤ k := by omega
      have e2 : cellOf ns k = 0 := by
        unfold cellOf
        rw [List.getD_eq_getElem?_getD, List.getElem?_eq_none h1]
        rfl
      have q' : Q (.int (cellOf ns k)) H := q
      rw [e2] at q'
      exact q'

/-! ### way_up -/
def sp_way_up (K : PySem.W.Frag) : Sp := fun vs H Q _ => ∃ (d : Addr) (t : List (Int × Int)) (f : Int) (l : List Int), vs = [.ref d, .int f] ∧ H d = some (.dK (kvT t)) ∧ Way t f l ∧ l.length ≤ 900 ∧ ∀ H' p, Same H H' → H p = none → H' p = some (.lst (l.map V.int)) → Q (.ref p) H'
set_option maxHeartbeats 1000000 in
theorem ok_way_up (T : Tx K mg) : FnOk P w K mg base CX0 1 T.a_way_up T.d_way_up ["tree", "folder"] (sp_way_up K) := by
  refine T.F_way_up.ok sc_way_up (fun vs H Q E h => ?_) (fun cdv A outer s H vs Q E hr h => ?_)
  · obtain ⟨d, t, f, l, rfl, _⟩ := h
    rfl
  · obtain ⟨d, t, f, l, rfl, hd, hw, hl, q⟩ := h
    have hu := hu_of hr
    refine ⟨_, pss_cons (ps_set (i := 2) sc_way_up.nd rfl (.inl rfl) (pe_lst (pa_cons (pv 1) pa_nil)))
      (pss_cons (ps_while PassesOwn.never (pt_cmp (pc_din hu (pe_ix ix_list (pv 2) (pe_un un_neg pe_int) (fun _ _ => rfl)) (pv 0))) (pss_one (ps_expr (pe_bm PySem.F.plainAttrs_list PySem.F.slot_list_append PySem.F.type_list_append mt_append (pv 2) (pa_cons (pe_dget hu (pv 0) (pe_ix ix_list (pv 2) (pe_un un_neg pe_int) (fun _ _ => rfl)) (fun _ _ => rfl)) pa_nil)))))
      (pss_one (ps_ret (pv 2)))), ?_⟩
    walk_at "rd"
    intro p np
    have s0 := same_upd (o := HO.lst [V.int f]) np
    refine ⟨fun m σ H2 => ∃ pre x l', σ = [some (.ref d), some (.int f), some (.ref p)] ∧ Same H H2 ∧ H2 p = some (.lst ((pre.map V.int) ++ [V.int x])) ∧ Way t x l' ∧ pre ++ l' = l ∧ m = l'.length,
      ⟨_, [], f, l, rfl, s0, upd_same, hw, rfl, rfl⟩, ?_⟩
    rintro m σ H2 ⟨pre, x, l', rfl, s2, hp, hx, el, rfl⟩
    have hd2 := s2 _ _ hd
    refine ⟨_, rfl, _, rfl, p, _, _, _, rfl, rfl, SqL.of hp, atI_last _ _, _, rfl, d, _, rfl, DGet.k (k := Sum.inl x) hd2, _, rfl, ?_⟩
    rw [valV_kvT]
    cases hx with
    | stop h =>
      rw [h]
      refine iteF ?_
      refine ⟨_, rfl, ?_⟩
      refine q _ _ s2 np ?_
      rw [hp, ← el, List.map_append]
      rfl
    | @step _ u r h w =>
      rw [h]
      refine iteT ?_
      refine ⟨fun σ' H' => σ' = [some (.ref d), some (.int f), some (.ref p)] ∧ Same H H' ∧ H' p = some (.lst (((pre ++ [x]).map V.int) ++ [V.int u])), ?_, ?_⟩
      · rintro σ' H' ⟨e, s3, hp'⟩
        refine ⟨r.length, Nat.lt_succ_self _, pre ++ [x], u, r, e, s3, hp', w, ?_, rfl⟩
        rw [← el, List.append_assoc]
        rfl
      · have hlen : pre.length + 1 ≤ 900 := by
          have : (pre ++ x :: r).length = l.length := by rw [el]
          rw [List.length_append, List.length_cons] at this
          omega
        refine ⟨_, rfl, .inl ⟨rfl, _, SqL.of hp⟩, _, rfl, _, rfl, _, rfl, p, _, _, _, rfl, rfl, SqL.of hp, atI_last _ _, d, V.int u, rfl, ?_, p, _, _, rfl, rfl, hp, ?_, ?_⟩
        · have g := DGet.k (k := Sum.inl x) hd2
          rw [valV_kvT, h] at g
          exact g
        · refine small1000 ?_
          rw [List.length_append, List.length_map]
          show pre.length + 1 ≤ 1000
          omega
        · refine ⟨rfl, same_set s2 np, ?_⟩
          rw [upd_same, List.map_append]
          rfl

/-! ### closes, put -/
def sp_closes (K : PySem.W.Frag) : Sp := fun vs H Q _ => ∃ (d : Addr) (t : List (Int × Int)) (f u : Int) (l : List Int), vs = [.ref d, .int f, .int u] ∧ H d = some (.dK (kvT t)) ∧ Way t u l ∧ l.length ≤ 900 ∧ ∀ H', Same H H' → Q (.bl (inV (.int f) (l.map V.int))) H'
theorem flat_ints (l : List Int) : (l.map V.int).all flatV = true := by
  rw [List.all_eq_true]
  intro v hv
  obtain ⟨i, _, rfl⟩ := List.mem_map.mp hv
  rfl
theorem ok_closes (T : Tx K mg) : FnOk P w K mg base CX0 2 T.a_closes T.d_closes ["tree", "folder", "under"] (sp_closes K) := by
  refine T.F_closes.ok sc_closes (fun vs H Q E h => ?_) (fun cdv A outer s H vs Q E hr h => ?_)
  · obtain ⟨d, t, f, u, l, rfl, _⟩ := h
    rfl
  · obtain ⟨d, t, f, u, l, rfl, hd, hw, hl, q⟩ := h
    refine ⟨_, pss_one (ps_ret (pe_cmpR op_in_seq (pv 1) (pe_call (ok_way_up T) (hr.mono (by decide)) (by rfl) T.g_way_up T.F_way_up.kp T.b_way_up .nil pass0 (pa_cons (pv 0) (pa_cons (pv 2) pa_nil))) (by rfl))), ?_⟩
    walk_at "rd"
    refine ⟨d, t, u, l, rfl, hd, hw, hl, fun H1 p s1 np hp => ?_⟩
    refine ⟨p, _, rfl, .inl (SqL.of hp), rfl, flat_ints l, ?_⟩
    exact q _ s1
def putW (t : List (Int × Int)) (f u : Int) (l : List Int) : List (Int × Int) := if inV (.int f) (l.map V.int) = true then t else putT t f u
def sp_put (K : PySem.W.Frag) : Sp := fun vs H Q _ => ∃ (d : Addr) (t : List (Int × Int)) (f u : Int) (l : List Int), vs = [.ref d, .int f, .int u] ∧ H d = some (.dK (kvT t)) ∧ Way t u l ∧ l.length ≤ 900 ∧ t.length ≤ 900 ∧ ∀ H' p, Same H H' → H p = none → H' p = some (.dK (kvT (putW t f u l))) → Q (.ref p) H'
theorem ok_put (T : Tx K mg) : FnOk P w K mg base CX0 3 T.a_put T.d_put ["tree", "folder", "under"] (sp_put K) := by
  refine T.F_put.ok sc_put (fun vs H Q E h => ?_) (fun cdv A outer s H vs Q E hr h => ?_)
  · obtain ⟨d, t, f, u, l, rfl, _⟩ := h
    rfl
  · obtain ⟨d, t, f, u, l, rfl, hd, hw, hl, htl, q⟩ := h
    have hu := hu_of hr
    refine ⟨_, pss_cons (ps_set (i := 3) sc_put.nd rfl (.inl rfl) (pe_callTy call_dictD (by rfl) T.m_dict (by decide +kernel) (pa_cons (pv 0) pa_nil)))
      (pss_cons (ps_if (pt_not (pt_val (pe_call (ok_closes T) (hr.mono (by decide)) (by rfl) T.g_closes T.F_closes.kp T.b_closes .nil pass0 (pa_cons (pv 0) (pa_cons (pv 1) (pa_cons (pv 2) pa_nil)))))) (pss_one (ps_dput hu (pv 3) (pv 1) (pv 2) rfl)) pss_nil)
      (pss_one (ps_ret (pv 3)))), ?_⟩
    walk_at "rd"
    refine ⟨d, _, rfl, .inl hd, fun p np => ?_⟩
    have s1 := same_upd (o := HO.dK (kvT t)) np
    walk_at "rd"
    refine ⟨d, t, f, u, l, rfl, s1 _ _ hd, hw, hl, fun H1 s2 => ?_⟩
    have hp := s2 _ _ (upd_same (H := H) (a := p) (o := HO.dK (kvT t)))
    walk_at "rd"
    cases e : inV (.int f) (l.map V.int) with
    | true =>
      walk_at "rd"
      refine q _ _ (s1.trans s2) np ?_
      unfold putW
      rw [if_pos e]
      exact hp
    | false =>
      walk_at "rd"
      refine ⟨p, _, rfl, DPut.k (k := Sum.inl f) hp (small1000 (by rw [kvT_length]; omega)), ?_⟩
      walk_at "rd"
      refine q _ _ (same_set (s1.trans s2) np) np ?_
      unfold putW
      rw [if_neg (by rw [e]; exact Bool.false_ne_true)]
      exact upd_same.trans (congrArg (fun z => some (HO.dK z)) (putK_kvT t f u))

/-! ### _law_way -/
def sp_law_way (K : PySem.W.Frag) : Sp := fun vs H Q _ => ∃ (d : Addr) (t : List (Int × Int)) (f : Int) (l : List Int), vs = [.ref d, .int f] ∧ H d = some (.dK (kvT t)) ∧ Way t f l ∧ l.length ≤ 900 ∧ ∀ H' p, Same H H' → H p = none → H' p = some (.lst (l.map V.int)) → Q (.ref p) H'
set_option maxHeartbeats 1000000 in
theorem ok_law_way (T : Tx K mg) : FnOk P w K mg base CX0 1 T.a_law_way T.d_law_way ["_law_tree_here", "_law_folder"] (sp_law_way K) := by
  refine T.F_law_way.ok sc_law_way (fun vs H Q E h => ?_) (fun cdv A outer s H vs Q E hr h => ?_)
  · obtain ⟨d, t, f, l, rfl, _⟩ := h
    rfl
  · obtain ⟨d, t, f, l, rfl, hd, hw, hl, q⟩ := h
    have hu := hu_of hr
    refine ⟨_, pss_cons (ps_set (i := 2) sc_law_way.nd rfl (.inl rfl) (pe_lst (pa_cons (pv 1) pa_nil)))
      (pss_cons (ps_while PassesOwn.never (pt_cmp (pc_din hu (pe_ix ix_list (pv 2) (pe_un un_neg pe_int) (fun _ _ => rfl)) (pv 0))) (pss_one (ps_expr (pe_bm PySem.F.plainAttrs_list PySem.F.slot_list_append PySem.F.type_list_append mt_append (pv 2) (pa_cons (pe_dget hu (pv 0) (pe_ix ix_list (pv 2) (pe_un un_neg pe_int) (fun _ _ => rfl)) (fun _ _ => rfl)) pa_nil)))))
      (pss_one (ps_ret (pv 2)))), ?_⟩
    walk_at "rd"
    intro p np
    have s0 := same_upd (o := HO.lst [V.int f]) np
    refine ⟨fun m σ H2 => ∃ pre x l', σ = [some (.ref d), some (.int f), some (.ref p)] ∧ Same H H2 ∧ H2 p = some (.lst ((pre.map V.int) ++ [V.int x])) ∧ Way t x l' ∧ pre ++ l' = l ∧ m = l'.length,
      ⟨_, [], f, l, rfl, s0, upd_same, hw, rfl, rfl⟩, ?_⟩
    rintro m σ H2 ⟨pre, x, l', rfl, s2, hp, hx, el, rfl⟩
    have hd2 := s2 _ _ hd
    refine ⟨_, rfl, _, rfl, p, _, _, _, rfl, rfl, SqL.of hp, atI_last _ _, _, rfl, d, _, rfl, DGet.k (k := Sum.inl x) hd2, _, rfl, ?_⟩
    rw [valV_kvT]
    cases hx with
    | stop h =>
      rw [h]
      refine iteF ?_
      refine ⟨_, rfl, ?_⟩
      refine q _ _ s2 np ?_
      rw [hp, ← el, List.map_append]
      rfl
    | @step _ u r h w =>
      rw [h]
      refine iteT ?_
      refine ⟨fun σ' H' => σ' = [some (.ref d), some (.int f), some (.ref p)] ∧ Same H H' ∧ H' p = some (.lst (((pre ++ [x]).map V.int) ++ [V.int u])), ?_, ?_⟩
      · rintro σ' H' ⟨e, s3, hp'⟩
        refine ⟨r.length, Nat.lt_succ_self _, pre ++ [x], u, r, e, s3, hp', w, ?_, rfl⟩
        rw [← el, List.append_assoc]
        rfl
      · have hlen : pre.length + 1 ≤ 900 := by
          have : (pre ++ x :: r).length = l.length := by rw [el]
          rw [List.length_append, List.length_cons] at this
          omega
        refine ⟨_, rfl, .inl ⟨rfl, _, SqL.of hp⟩, _, rfl, _, rfl, _, rfl, p, _, _, _, rfl, rfl, SqL.of hp, atI_last _ _, d, V.int u, rfl, ?_, p, _, _, rfl, rfl, hp, ?_, ?_⟩
        · have g := DGet.k (k := Sum.inl x) hd2
          rw [valV_kvT, h] at g
          exact g
        · refine small1000 ?_
          rw [List.length_append, List.length_map]
          show pre.length + 1 ≤ 1000
          omega
        · refine ⟨rfl, same_set s2 np, ?_⟩
          rw [upd_same, List.map_append]
          rfl

theorem for_keys {d : Addr} {o : Obj} {kvs : List (Key × V)} {g : TG} {tb : TS} {D : Ends} {σ : L2.St} {H : Hp} (Pv : Nat → L2.St → Hp → Prop) (h0 : Pv 0 σ H) (hl : ∀ i σ H, Pv i σ H → H d = some (.frz o (.dK kvs)))
    (hs : ∀ i k v σ H, kvs[i]? = some (k, v) → Pv i σ H → g (kV k) σ H fun σ2 H2 => tb { D with nx := Pv (i + 1), ct := Pv (i + 1), bk := D.nx } σ2 H2) (hd : ∀ σ H, Pv kvs.length σ H → D.nx σ H) :
    ∃ W : Nat → Nat → L2.St → Hp → Prop, (∃ m, W 0 m σ H) ∧ ∀ i m σ H, W i m σ H →
      ((Itk d o kvs).stop i H ∧ D.nx σ H) ∨ ((Itk d o kvs).go i H ∧ ∃ N : L2.St → Hp → Prop, (∀ σ' H', N σ' H' → ∃ m', m' < m ∧ W (i + 1) m' σ' H') ∧ ∀ x H', (Itk d o kvs).yld i H x H' → g x σ H' fun σ2 H2 => tb { D with nx := N, ct := N, bk := D.nx } σ2 H2) := by
  refine ⟨fun i m σ H => m = kvs.length - i ∧ i ≤ kvs.length ∧ Pv i σ H, ⟨kvs.length, by simp, Nat.zero_le _, h0⟩, ?_⟩
  rintro i m σ H ⟨rfl, hi, p⟩
  have q := hl i σ H p
  by_cases hlt : i < kvs.length
  · refine .inr ⟨⟨q, hlt⟩, Pv (i + 1), fun σ' H' p' => ⟨kvs.length - (i + 1), by omega, rfl, hlt, p'⟩, fun x H' y => ?_⟩
    obtain ⟨e, k, v, ek, rfl⟩ := y
    subst e
    exact hs i k v σ _ ek p
  · have e : i = kvs.length := by omega
    subst e
    exact .inl ⟨⟨q, Nat.le_refl _⟩, hd σ H p⟩
theorem kvT_get {t : List (Int × Int)} {i : Nat} {k : Key} {v : V} (h : (kvT t)[i]? = some (k, v)) : ∃ p, t[i]? = some p ∧ k = .inl p.1 ∧ v = .int p.2 := by
  unfold kvT at h
  rw [List.getElem?_map] at h
  cases e : t[i]? with
  | none =>
    rw [e] at h
    cases h
  | some p =>
    rw [e] at h
    cases h
    exact ⟨p, rfl, rfl, rfl⟩
theorem upd_back {H : Hp} {d : Addr} {o u : HO} (h : H d = some u) : upd (upd H d o) d u = H := by
  rw [upd_upd]
  funext b
  by_cases e : b = d
  · subst e
    rw [upd_same, h]
  · rw [upd_ne e]
/-! ### _law_whole, of a number -/
def sp_law_whole (K : PySem.W.Frag) : Sp := fun vs H Q _ => ∃ i : Int, vs = [.int i] ∧ Q (.bl true) H
theorem ok_law_whole (T : Tx K mg) : FnOk P w K mg base CX0 1 T.a_law_whole T.d_law_whole ["_law_found"] (sp_law_whole K) := by
  refine T.F_law_whole.ok sc_law_whole (fun vs H Q E h => ?_) (fun cdv A outer s H vs Q E hr h => ?_)
  · obtain ⟨i, rfl, _⟩ := h
    rfl
  · obtain ⟨i, rfl, q⟩ := h
    refine ⟨_, pss_one (ps_ret (pe_and (pe_callB call_isi (by rfl) T.m_isinstance (by decide +kernel) (pa_cons (pv 0) (pa_cons (pe_bltn (v := .ty "int") (by rfl) T.m_int (by decide +kernel) rfl) pa_nil))) (pe_one (pe_not (pe_callB call_isi (by rfl) T.m_isinstance (by decide +kernel) (pa_cons (pv 0) (pa_cons (pe_bltn (v := .ty "bool") (by rfl) T.m_bool (by decide +kernel) rfl) pa_nil))))))), ?_⟩
    walk_at "rd"
    exact q
/-! ### _law_same_tree: of two that are the same -/
def sp_law_same_tree (K : PySem.W.Frag) : Sp := fun vs H Q _ => ∃ (a b : Addr) (t u : List (Int × Int)), vs = [.ref a, .ref b] ∧ H a = some (.dK (kvT t)) ∧ H b = some (.dK (kvT u)) ∧ a ≠ b ∧ t.length = u.length ∧ (u.map (·.1)).Nodup ∧ (∀ p ∈ u, look t p.1 = some p.2) ∧ Q (.bl true) H
set_option maxHeartbeats 1000000 in
theorem ok_law_same_tree (T : Tx K mg) : FnOk P w K mg base CX0 2 T.a_law_same_tree T.d_law_same_tree ["_law_found", "_law_due"] (sp_law_same_tree K) := by
  refine T.F_law_same_tree.ok sc_law_same_tree (fun vs H Q E h => ?_) (fun cdv A outer s H vs Q E hr h => ?_)
  · obtain ⟨a, b, t, u, rfl, _⟩ := h
    rfl
  · obtain ⟨a, b, t, u, rfl, ha, hb, hab, hl, hnd, hlk, q⟩ := h
    have hu := hu_of hr
    refine ⟨_, pss_cons (ps_if (PW.pt (pw_or (pt_not (pt_val (pe_callB call_isi (by rfl) T.m_isinstance (by decide +kernel) (pa_cons (pv 0) (pa_cons (pe_bltn (v := .ty "dict") (by rfl) T.m_dict (by decide +kernel) rfl) pa_nil))))) (pw_or1 (pt_cmpR op_ne (pe_callB call_lenD (by rfl) T.m_len PySem.boot_len (pa_cons (pv 0) pa_nil)) (pe_callB call_lenD (by rfl) T.m_len PySem.boot_len (pa_cons (pv 1) pa_nil)) (nomark _))))) (pss_one (ps_ret pe_bl)) pss_nil)
      (pss_cons (ps_lock (ps_for PassesOwn.never rfl (pi_keys (pv 1)) (pg_name (i := 2) sc_law_same_tree.nd rfl (Or.inl rfl)) (pss_one (ps_if (PW.pt (pw_or (pt_cmp (pc_dnotin hu (pv 2) (pv 0))) (pw_or (pt_not (pt_val (pe_call (ok_law_whole T) (hr.mono (by decide)) (by rfl) T.g_law_whole T.F_law_whole.kp T.b_law_whole .nil pass0 (pa_cons (pe_dget hu (pv 0) (pv 2) (fun _ _ => rfl)) pa_nil)))) (pw_or1 (pt_cmpR op_ne (pe_dget hu (pv 0) (pv 2) (fun _ _ => rfl)) (pe_dget hu (pv 1) (pv 2) (fun _ _ => rfl)) (nomark _)))))) (pss_one (ps_ret pe_bl)) pss_nil))))
      (pss_cons (ps_lock (ps_for PassesOwn.never rfl (pi_keys (pv 0)) (pg_name (i := 2) sc_law_same_tree.nd rfl (Or.inl rfl)) (pss_one (ps_if (pt_not (pt_val (pe_call (ok_law_whole T) (hr.mono (by decide)) (by rfl) T.g_law_whole T.F_law_whole.kp T.b_law_whole .nil pass0 (pa_cons (pv 2) pa_nil)))) (pss_one (ps_ret pe_bl)) pss_nil))))
      (pss_one (ps_ret pe_bl)))), ?_⟩
    walk_at "rd"
    rw [kvT_length, kvT_length, hl, decide_eq_true rfl]
    refine iteF ?_
    refine ⟨b, _, hb, trivial, fun od => ?_⟩
    refine ⟨_, rfl, b, od, rfl, .inl ⟨kvT u, upd_same, for_keys (fun i σ H2 => ∃ v2, σ = [some (.ref a), some (.ref b), v2] ∧ H2 = upd H b (.frz od (.dK (kvT u)))) ⟨none, rfl, rfl⟩ (fun i σ H2 ⟨_, _, e⟩ => by rw [e, upd_same]) ?_ ?_⟩⟩
    · rintro i k v σ H2 hi ⟨v2, rfl, rfl⟩
      obtain ⟨p, hp, rfl, rfl⟩ := kvT_get hi
      have hk := hlk p (List.mem_of_getElem? hp)
      have ha2 : (upd H b (.frz od (.dK (kvT u)))) a = some (.dK (kvT t)) := by rw [upd_ne hab]; exact ha
      have g := DGet.k (k := Sum.inl p.1) ha2
      rw [valV_kvT, hk] at g
      have g2 : DGet (upd H b (.frz od (.dK (kvT u)))) b (kV (Sum.inl p.1)) ((look u p.1).map V.int) := .inl ⟨kvT u, Sum.inl p.1, .inr ⟨od, upd_same⟩, rfl, (valV_kvT p.1 u).symm⟩
      rw [mem_look hnd (List.mem_of_getElem? hp)] at g2
      refine ⟨_, rfl, _, rfl, a, _, rfl, g, _, rfl, ?_⟩
      walk_at "rd"
    · rintro σ H2 ⟨v2, rfl, rfl⟩
      refine ⟨upd_same, ?_⟩
      rw [upd_back hb]
      refine ⟨a, _, ha, trivial, fun oe => ?_⟩
      refine ⟨_, rfl, a, oe, rfl, .inl ⟨kvT t, upd_same, for_keys (fun i σ H2 => ∃ v2, σ = [some (.ref a), some (.ref b), v2] ∧ H2 = upd H a (.frz oe (.dK (kvT t)))) ⟨_, rfl, rfl⟩ (fun i σ H2 ⟨_, _, e⟩ => by rw [e, upd_same]) ?_ ?_⟩⟩
      · rintro i k v σ H2 hi ⟨v2, rfl, rfl⟩
        obtain ⟨p, hp, rfl, rfl⟩ := kvT_get hi
        walk_at "rd"
      · rintro σ H2 ⟨v2, rfl, rfl⟩
        refine ⟨upd_same, ?_⟩
        rw [upd_back ha]
        exact q

/-! ### _law_name -/
def someL : List Int := [1, 1000000000, 100000000000000000000, 1000000000000000000000000000000000, 100000000000000000000000000000000000000000000000, 1000000000000000000000000000000000000000000000000000000000]
abbrev N60 : Int := 1000000000000000000000000000000000000000000000000000000000000
def nameOf (c k : Int) : Int :=
  if c % 4 = 1 then N60 - k
  else if c % 4 = 2 then 1 + (c / 24 + k * someL.getD (c / 4 % 6).toNat 0) % N60
  else if c % 4 = 3 then 1 + 7 * k
  else if c / 224 % 2 = 1 ∧ k % 2 = 1 then N60 - k
  else 1 + k
theorem nameOf_pos {c k : Int} (h0 : 0 ≤ k) (h1 : k ≤ 200) : 1 ≤ nameOf c k := by
  unfold nameOf
  split
  · show 1 ≤ (1000000000000000000000000000000000000000000000000000000000000 : Int) - k
    omega
  · split
    · have := Int.emod_nonneg (c / 24 + k * someL.getD (c / 4 % 6).toNat 0) (show N60 ≠ 0 by decide)
      omega
    · split
      · omega
      · split
        · show 1 ≤ (1000000000000000000000000000000000000000000000000000000000000 : Int) - k
          omega
        · omega
theorem nameOf_le {c k : Int} (h0 : 0 ≤ k) (h1 : k ≤ 200) : nameOf c k ≤ N60 := by
  unfold nameOf
  split
  · show (1000000000000000000000000000000000000000000000000000000000000 : Int) - k ≤ 1000000000000000000000000000000000000000000000000000000000000
    omega
  · split
    · have := Int.emod_lt_of_pos (c / 24 + k * someL.getD (c / 4 % 6).toNat 0) (show (0 : Int) < N60 by decide)
      omega
    · split
      · show 1 + 7 * k ≤ 1000000000000000000000000000000000000000000000000000000000000
        omega
      · split
        · show (1000000000000000000000000000000000000000000000000000000000000 : Int) - k ≤ 1000000000000000000000000000000000000000000000000000000000000
          omega
        · show 1 + k ≤ 1000000000000000000000000000000000000000000000000000000000000
          omega
theorem someL_cases {j : Int} (h0 : 0 ≤ j) (h1 : j < 6) : someL.getD j.toNat 0 = 1 ∨ someL.getD j.toNat 0 = 1000000000 ∨ someL.getD j.toNat 0 = 100000000000000000000 ∨ someL.getD j.toNat 0 = 1000000000000000000000000000000000 ∨ someL.getD j.toNat 0 = 100000000000000000000000000000000000000000000000 ∨ someL.getD j.toNat 0 = 1000000000000000000000000000000000000000000000000000000000 := by
  have h : j = 0 ∨ j = 1 ∨ j = 2 ∨ j = 3 ∨ j = 4 ∨ j = 5 := by omega
  rcases h with rfl | rfl | rfl | rfl | rfl | rfl
  · exact .inl rfl
  · exact .inr (.inl rfl)
  · exact .inr (.inr (.inl rfl))
  · exact .inr (.inr (.inr (.inl rfl)))
  · exact .inr (.inr (.inr (.inr (.inl rfl))))
  · exact .inr (.inr (.inr (.inr (.inr rfl))))
theorem nameOf_inj {c k j : Int} (h0 : 0 ≤ k) (h1 : k ≤ 200) (g0 : 0 ≤ j) (g1 : j ≤ 200) (e : nameOf c k = nameOf c j) : k = j := by
  unfold nameOf at e
  by_cases c1 : c % 4 = 1
  · rw [if_pos c1, if_pos c1] at e
    omega
  rw [if_neg c1, if_neg c1] at e
  by_cases c2 : c % 4 = 2
  · rw [if_pos c2, if_pos c2] at e
    have hs := someL_cases (j := c / 4 % 6) (by omega) (by omega)
    have e' : (c / 24 + k * someL.getD (c / 4 % 6).toNat 0) % (1000000000000000000000000000000000000000000000000000000000000 : Int) = (c / 24 + j * someL.getD (c / 4 % 6).toNat 0) % 1000000000000000000000000000000000000000000000000000000000000 := by
      exact Int.add_left_cancel (a := 1) e
    generalize c / 24 = a at e'
    rcases hs with hs | hs | hs | hs | hs | hs <;> rw [hs] at e' <;> omega
  rw [if_neg c2, if_neg c2] at e
  by_cases c3 : c % 4 = 3
  · rw [if_pos c3, if_pos c3] at e
    omega
  rw [if_neg c3, if_neg c3] at e
  have hN : N60 = 1000000000000000000000000000000000000000000000000000000000000 := rfl
  by_cases ck : c / 224 % 2 = 1 ∧ k % 2 = 1
  · rw [if_pos ck] at e
    by_cases cj : c / 224 % 2 = 1 ∧ j % 2 = 1
    · rw [if_pos cj] at e
      omega
    · rw [if_neg cj] at e
      omega
  · rw [if_neg ck] at e
    by_cases cj : c / 224 % 2 = 1 ∧ j % 2 = 1
    · rw [if_pos cj] at e
      omega
    · rw [if_neg cj] at e
      omega
theorem p9 : (10 : Int) ^ Int.toNat 9 = 1000000000 := by decide +kernel
theorem p20 : (10 : Int) ^ Int.toNat 20 = 100000000000000000000 := by decide +kernel
theorem p33 : (10 : Int) ^ Int.toNat 33 = 1000000000000000000000000000000000 := by decide +kernel
theorem p47 : (10 : Int) ^ Int.toNat 47 = 100000000000000000000000000000000000000000000000 := by decide +kernel
theorem p57 : (10 : Int) ^ Int.toNat 57 = 1000000000000000000000000000000000000000000000000000000000 := by decide +kernel
def sp_law_name (K : PySem.W.Frag) : Sp := fun vs H Q _ => ∃ k c : Int, vs = [.int k, .int c] ∧ 0 ≤ k ∧ k ≤ 200 ∧ ∀ H', Same H H' → Q (.int (nameOf c k)) H'
set_option maxHeartbeats 1000000 in
theorem ok_law_name (T : Tx K mg) : FnOk P w K mg base CX0 1 T.a_law_name T.d_law_name ["_law_k", "_law_cell"] (sp_law_name K) := by
  refine T.F_law_name.ok sc_law_name (fun vs H Q E h => ?_) (fun cdv A outer s H vs Q E hr h => ?_)
  · obtain ⟨k, c, rfl, _⟩ := h
    rfl
  · obtain ⟨k, c, rfl, h0, h1, q⟩ := h
    have hp := p60
    refine ⟨_, pss_cons (ps_if (pt_cmpR op_eq (pe_op op_mod (pv 1) pe_int) pe_int (nomark _)) (pss_one (ps_ret (pe_op op_sub (pe_op op_pow pe_int pe_int) (pv 0)))) pss_nil)
      (pss_cons (ps_if (pt_cmpR op_eq (pe_op op_mod (pv 1) pe_int) pe_int (nomark _)) (pss_cons (ps_set (i := 2) sc_law_name.nd rfl (.inl rfl) (pe_lst (pa_cons pe_int (pa_cons (pe_op op_pow pe_int pe_int) (pa_cons (pe_op op_pow pe_int pe_int) (pa_cons (pe_op op_pow pe_int pe_int) (pa_cons (pe_op op_pow pe_int pe_int) (pa_cons (pe_op op_pow pe_int pe_int) pa_nil))))))))
      (pss_one (ps_ret (pe_op op_add pe_int (pe_op op_mod (pe_op op_add (pe_op op_fdiv (pv 1) pe_int) (pe_op op_mul (pv 0) (pe_ix ix_list (pv 2) (pe_op op_mod (pe_op op_fdiv (pv 1) pe_int) pe_int) (fun _ _ => rfl)))) (pe_op op_pow pe_int pe_int)))))) pss_nil)
      (pss_cons (ps_if (pt_cmpR op_eq (pe_op op_mod (pv 1) pe_int) pe_int (nomark _)) (pss_one (ps_ret (pe_op op_add pe_int (pe_op op_mul pe_int (pv 0))))) pss_nil)
      (pss_cons (ps_if (PW.pt (pw_and (pt_cmpR op_eq (pe_op op_mod (pe_op op_fdiv (pv 1) pe_int) pe_int) pe_int (nomark _)) (pw_and1 (pt_cmpR op_eq (pe_op op_mod (pv 0) pe_int) pe_int (nomark _))))) (pss_one (ps_ret (pe_op op_sub (pe_op op_pow pe_int pe_int) (pv 0)))) pss_nil)
      (pss_one (ps_ret (pe_op op_add pe_int (pv 0))))))), ?_⟩
    walk_at "rd"
    refine ite2 (fun c1 => ?_) (fun c1 => ?_)
    · walk_at "rd"
      have c1 := V.int.inj (of_decide_eq_true c1)
      have z := q H (Same.refl H)
      unfold nameOf at z
      rw [if_pos c1] at z
      exact z
    have c1 : ¬ c % 4 = 1 := fun z => c1 (decide_eq_true (congrArg V.int z))
    walk_at "rd"
    refine ite2 (fun c2 => ?_) (fun c2 => ?_)
    · have c2 : c % 4 = 2 := V.int.inj (of_decide_eq_true c2)
      walk_at "rd"
      intro p np
      have s1 := fun o => same_upd (o := o) np
      walk_at "rd"
      have hat : atI [V.int 1, V.int (10 ^ Int.toNat 9), V.int (10 ^ Int.toNat 20), V.int (10 ^ Int.toNat 33), V.int (10 ^ Int.toNat 47), V.int (10 ^ Int.toNat 57)] (c / 4 % 6) = some (V.int (someL.getD (c / 4 % 6).toNat 0)) := by
        have h : c / 4 % 6 = 0 ∨ c / 4 % 6 = 1 ∨ c / 4 % 6 = 2 ∨ c / 4 % 6 = 3 ∨ c / 4 % 6 = 4 ∨ c / 4 % 6 = 5 := by omega
        rcases h with h | h | h | h | h | h <;> rw [h]
        · exact atI_nat (j := 0) rfl
        · exact atI_nat (j := 1) (congrArg (fun z => some (V.int z)) p9)
        · exact atI_nat (j := 2) (congrArg (fun z => some (V.int z)) p20)
        · exact atI_nat (j := 3) (congrArg (fun z => some (V.int z)) p33)
        · exact atI_nat (j := 4) (congrArg (fun z => some (V.int z)) p47)
        · exact atI_nat (j := 5) (congrArg (fun z => some (V.int z)) p57)
      refine ⟨_, _, _, _, rfl, rfl, SqL.of upd_same, hat, ?_⟩
      walk_at "rd"
      have en : nameOf c k = 1 + (c / 24 + k * someL.getD (c / 4 % 6).toNat 0) % N60 := by
        unfold nameOf
        rw [if_neg c1, if_pos c2]
      rw [hp]
      show Q (V.int (1 + (c / 24 + k * someL.getD (c / 4 % 6).toNat 0) % N60)) _
      rw [← en]
      exact q _ (s1 _)
    have c2 : ¬ c % 4 = 2 := fun z => c2 (decide_eq_true (congrArg V.int z))
    walk_at "rd"
    refine ite2 (fun c3 => ?_) (fun c3 => ?_)
    · have c3 : c % 4 = 3 := V.int.inj (of_decide_eq_true c3)
      walk_at "rd"
      have z := q H (Same.refl H)
      unfold nameOf at z
      rw [if_neg c1, if_neg c2, if_pos c3] at z
      exact z
    have c3 : ¬ c % 4 = 3 := fun z => c3 (decide_eq_true (congrArg V.int z))
    walk_at "rd"
    have z := q H (Same.refl H)
    unfold nameOf at z
    rw [if_neg c1, if_neg c2, if_neg c3] at z
    refine ite2 (fun c4 => ?_) (fun c4 => ?_)
    · have c4 : c / 224 % 2 = 1 := V.int.inj (of_decide_eq_true c4)
      walk_at "rd"
      refine ite2 (fun c5 => ?_) (fun c5 => ?_)
      · have c5 : k % 2 = 1 := V.int.inj (of_decide_eq_true c5)
        walk_at "rd"
        rw [if_pos ⟨c4, c5⟩] at z
        rw [hp]
        exact z
      · have c5 : ¬ k % 2 = 1 := fun z => c5 (decide_eq_true (congrArg V.int z))
        walk_at "rd"
        rw [if_neg (fun z => c5 z.2)] at z
        exact z
    · have c4 : ¬ c / 224 % 2 = 1 := fun z => c4 (decide_eq_true (congrArg V.int z))
      walk_at "rd"
      rw [if_neg (fun z => c4 z.1)] at z
      exact z

/-! ### _law_pick -/
def pickOf (c size p : Int) : Int := if p = 0 then 0 else if size < p then nameOf c (size + 5) else nameOf c (p - 1)
def sp_law_pick (K : PySem.W.Frag) : Sp := fun vs H Q _ => ∃ p size c : Int, vs = [.int p, .int size, .int c] ∧ 0 ≤ p ∧ 0 ≤ size ∧ size ≤ 100 ∧ p ≤ 200 ∧ ∀ H', Same H H' → Q (.int (pickOf c size p)) H'
theorem ok_law_pick (T : Tx K mg) : FnOk P w K mg base CX0 2 T.a_law_pick T.d_law_pick ["_law_pick_here", "_law_size", "_law_cell"] (sp_law_pick K) := by
  refine T.F_law_pick.ok sc_law_pick (fun vs H Q E h => ?_) (fun cdv A outer s H vs Q E hr h => ?_)
  · obtain ⟨p, size, c, rfl, _⟩ := h
    rfl
  · obtain ⟨p, size, c, rfl, h0, h1, h2, h3, q⟩ := h
    refine ⟨_, pss_cons (ps_if (pt_cmpR op_eq (pv 0) pe_int (nomark _)) (pss_one (ps_ret pe_int)) pss_nil)
      (pss_cons (ps_if (pt_cmpR op_gt (pv 0) (pv 1) (nomark _)) (pss_one (ps_ret (pe_call (ok_law_name T) (hr.mono (by decide)) (by rfl) T.g_law_name T.F_law_name.kp T.b_law_name .nil pass0 (pa_cons (pe_op op_add (pv 1) pe_int) (pa_cons (pv 2) pa_nil))))) pss_nil)
      (pss_one (ps_ret (pe_call (ok_law_name T) (hr.mono (by decide)) (by rfl) T.g_law_name T.F_law_name.kp T.b_law_name .nil pass0 (pa_cons (pe_op op_sub (pv 0) pe_int) (pa_cons (pv 2) pa_nil)))))), ?_⟩
    walk_at "rd"
    refine ite2 (fun c1 => ?_) (fun c1 => ?_)
    · have c1 : p = 0 := V.int.inj (of_decide_eq_true c1)
      walk_at "rd"
      have z := q H (Same.refl H)
      unfold pickOf at z
      rw [if_pos c1] at z
      exact z
    have c1 : ¬ p = 0 := fun z => c1 (decide_eq_true (congrArg V.int z))
    walk_at "rd"
    refine ite2 (fun c2 => ?_) (fun c2 => ?_)
    · have c2 : size < p := of_decide_eq_true c2
      walk_at "rd"
      intro H' s'
      have z := q H' s'
      unfold pickOf at z
      rw [if_neg c1, if_pos c2] at z
      exact z
    have c2 : ¬ size < p := fun z => c2 (decide_eq_true z)
    walk_at "rd"
    intro H' s'
    have z := q H' s'
    unfold pickOf at z
    rw [if_neg c1, if_neg c2] at z
    exact z
/-! ### _law_tree -/
/-- each stands under the top or under one told ahead of it -/
def TreeOk (c : Int) (n : Nat) (t : List (Int × Int)) : Prop := ∀ k v, look t k = some v → ∃ i : Nat, i < n ∧ k = nameOf c i ∧ (v = 0 ∨ ∃ j : Nat, j < i ∧ v = nameOf c j)
theorem TreeOk.mono {c : Int} {n m : Nat} {t : List (Int × Int)} (h : TreeOk c n t) (e : n ≤ m) : TreeOk c m t := fun k v hk => by
  obtain ⟨i, hi, r⟩ := h k v hk
  exact ⟨i, Nat.lt_of_lt_of_le hi e, r⟩
theorem TreeOk.put {c : Int} {n : Nat} {t : List (Int × Int)} {v : Int} (h : TreeOk c n t) (hv : v = 0 ∨ ∃ j : Nat, j < n ∧ v = nameOf c j) : TreeOk c (n + 1) (putT t (nameOf c n) v) := fun k u hk => by
  rw [look_putT] at hk
  by_cases e : k = nameOf c n
  · rw [if_pos e] at hk
    cases hk
    exact ⟨n, Nat.lt_succ_self n, e, hv⟩
  · rw [if_neg e] at hk
    exact h.mono (Nat.le_succ n) k u hk
theorem TreeOk.look0 {c : Int} {n : Nat} {t : List (Int × Int)} (h : TreeOk c n t) (hn : n ≤ 200) : look t 0 = none := by
  cases e : look t 0 with
  | none => rfl
  | some v =>
    obtain ⟨i, hi, r, _⟩ := h 0 v e
    have := nameOf_pos (c := c) (k := i) (by omega) (by omega)
    omega
theorem TreeOk.wayN {c : Int} {n : Nat} {t : List (Int × Int)} (h : TreeOk c n t) (hn : n ≤ 200) : ∀ (m i : Nat), i ≤ m → i ≤ 200 → ∃ l, Way t (nameOf c i) l ∧ l.length ≤ i + 2 := by
  intro m
  induction m with
  | zero =>
    intro i hi hl
    cases e : look t (nameOf c i) with
    | none => exact ⟨_, .stop e, by show 1 ≤ i + 2; omega⟩
    | some v =>
      obtain ⟨j, hj, r, rv⟩ := h _ v e
      have ej : (i : Int) = j := nameOf_inj (by omega) (by omega) (by omega) (by omega) r
      rcases rv with rfl | ⟨j', hj', rfl⟩
      · exact ⟨_, .step e (.stop (h.look0 hn)), by show 2 ≤ i + 2; omega⟩
      · omega
  | succ m ih =>
    intro i hi hl
    cases e : look t (nameOf c i) with
    | none => exact ⟨_, .stop e, by show 1 ≤ i + 2; omega⟩
    | some v =>
      obtain ⟨j, hj, r, rv⟩ := h _ v e
      have ej : (i : Int) = j := nameOf_inj (by omega) (by omega) (by omega) (by omega) r
      rcases rv with rfl | ⟨j', hj', rfl⟩
      · exact ⟨_, .step e (.stop (h.look0 hn)), by show 2 ≤ i + 2; omega⟩
      · obtain ⟨l, hw, hl⟩ := ih j' (by omega) (by omega)
        exact ⟨_, .step e hw, by rw [List.length_cons]; omega⟩
theorem TreeOk.way {c : Int} {n : Nat} {t : List (Int × Int)} (h : TreeOk c n t) (hn : n ≤ 200) (f : Int) : ∃ l, Way t f l ∧ l.length ≤ n + 2 := by
  cases e : look t f with
  | none => exact ⟨_, .stop e, by show 1 ≤ n + 2; omega⟩
  | some v =>
    obtain ⟨i, hi, rfl, _⟩ := h f v e
    obtain ⟨l, hw, hl⟩ := h.wayN hn i i (Nat.le_refl i) (by omega)
    exact ⟨l, hw, by omega⟩
def sp_law_tree (K : PySem.W.Frag) : Sp := fun vs H Q _ => ∃ (a : Addr) (ns : List Int) (m : Int) (b : Bool) (c : Int), vs = [.ref a, .int m, .bl b, .int c] ∧ SqL K H a (ns.map V.int) ∧ 0 ≤ m ∧ m ≤ 68 ∧
  ∀ t p H', Same H H' → H p = none → H' p = some (.dK (kvT t)) → TreeOk c m.toNat t → (t.map (·.1)).Nodup → t.length ≤ m.toNat → Q (.ref p) H'
set_option maxHeartbeats 4000000 in
theorem ok_law_tree (T : Tx K mg) : FnOk P w K mg base CX0 2 T.a_law_tree T.d_law_tree ["_law_script", "_law_size", "_law_wide", "_law_cell"] (sp_law_tree K) := by
  refine T.F_law_tree.ok sc_law_tree (fun vs H Q E h => ?_) (fun cdv A outer s H vs Q E hr h => ?_)
  · obtain ⟨a, ns, n, b, c, rfl, _⟩ := h
    rfl
  · obtain ⟨a, ns, m, b, c, rfl, hS, hm, hn, q⟩ := h
    obtain ⟨n, rfl⟩ := Int.eq_ofNat_of_zero_le hm
    have hu := hu_of hr
    refine ⟨_, pss_cons (ps_set (i := 4) sc_law_tree.nd rfl (.inl rfl) pe_dnewK)
      (pss_cons (ps_for PassesOwn.never rfl (pi_range1 (by rfl) T.m_range (pa_cons (pv 1) pa_nil)) (pg_name (i := 5) sc_law_tree.nd rfl (Or.inl rfl)) (pss_cons (ps_set (i := 6) sc_law_tree.nd rfl (.inl rfl) (pe_op op_mod (pe_call (ok_law_cell_at T) (hr.mono (by decide)) (by rfl) T.g_law_cell_at T.F_law_cell_at.kp T.b_law_cell_at .nil pass0 (pa_cons (pv 0) (pa_cons (pe_op op_add pe_int (pv 5)) pa_nil))) (pe_op op_add (pv 5) pe_int)))
      (pss_cons (ps_if (pt_cmpR op_gt (pv 5) pe_int (nomark _)) (pss_one (ps_set (i := 6) sc_law_tree.nd rfl (.inl rfl) (pe_ix ix_list (pe_lst (pa_cons (pe_op op_sub (pe_op op_add (pv 5) pe_int) (pe_op op_mod (pe_call (ok_law_cell_at T) (hr.mono (by decide)) (by rfl) T.g_law_cell_at T.F_law_cell_at.kp T.b_law_cell_at .nil pass0 (pa_cons (pv 0) (pa_cons pe_int pa_nil))) pe_int)) (pa_cons (pe_op op_mul pe_int (pe_op op_mod (pe_op op_mod (pv 5) pe_int) pe_int)) pa_nil))) (pe_callTy call_int1 (by rfl) T.m_int (by decide +kernel) (pa_cons (pv 2) pa_nil)) (fun _ _ => rfl)))) pss_nil)
      (pss_cons (ps_if (pt_cmpR op_eq (pv 6) pe_int (nomark _)) (pss_one (ps_dput hu (pv 4) (pe_call (ok_law_name T) (hr.mono (by decide)) (by rfl) T.g_law_name T.F_law_name.kp T.b_law_name .nil pass0 (pa_cons (pv 5) (pa_cons (pv 3) pa_nil))) pe_int rfl)) pss_nil)
      (pss_one (ps_if (pt_cmpR op_gt (pv 6) pe_int (nomark _)) (pss_one (ps_dput hu (pv 4) (pe_call (ok_law_name T) (hr.mono (by decide)) (by rfl) T.g_law_name T.F_law_name.kp T.b_law_name .nil pass0 (pa_cons (pv 5) (pa_cons (pv 3) pa_nil))) (pe_call (ok_law_name T) (hr.mono (by decide)) (by rfl) T.g_law_name T.F_law_name.kp T.b_law_name .nil pass0 (pa_cons (pe_op op_sub (pv 6) pe_int) (pa_cons (pv 3) pa_nil))) rfl)) pss_nil))))))
      (pss_one (ps_ret (pv 4)))), ?_⟩
    intro p np
    have s0 := same_upd (o := HO.dK []) np
    refine ⟨_, rfl, n, rfl, by omega, by omega, for_range (n := n) (fun i σ H2 => ∃ t v5 v6, σ = [some (.ref a), some (.int n), some (.bl b), some (.int c), some (.ref p), v5, v6] ∧ Same H H2 ∧ H2 p = some (.dK (kvT t)) ∧ TreeOk c i t ∧ (t.map (·.1)).Nodup ∧ t.length ≤ i)
      ⟨[], none, none, rfl, s0, upd_same, (fun k v h => nomatch h), List.nodup_nil, Nat.le_refl _⟩ ?_ ?_⟩
    · rintro i σ H2 hi ⟨t, v5, v6, rfl, s2, hp, ht, hnd, htl⟩
      have hS2 := s2.seq hS
      rw [Int.zero_add]
      walk_at "rd"
      refine ite2 (fun c0 => ?_) (fun c0 => ?_)
      · have c0 := of_decide_eq_true c0
        walk_at "rd"
        intro l nl
        have hp3 := same_upd (o := HO.lst [V.int ((i : Int) + 1 - cellOf ns (Int.toNat 3) % 2), V.int (2 * ((i : Int) % 3 % 2))]) nl _ _ hp
        have s3 := s2.trans (same_upd (o := HO.lst [V.int ((i : Int) + 1 - cellOf ns (Int.toNat 3) % 2), V.int (2 * ((i : Int) % 3 % 2))]) nl)
        walk_at "rd"
        refine .inr ⟨b, rfl, ?_⟩
        cases b with
        | false =>
          refine ⟨_, _, _, _, rfl, rfl, SqL.of upd_same, atI_nat (j := 0) rfl, ?_⟩
          walk_at "rd"
          refine ite2 (fun c1 => ?_) (fun c1 => ?_)
          · have c1 := V.int.inj (of_decide_eq_true c1)
            walk_at "rd"
            intro H4 s4
            have hp4 := s4 _ _ hp3
            refine ⟨p, _, rfl, DPut.k (k := Sum.inl (nameOf c i)) hp4 (small1000 (by rw [kvT_length]; omega)), ?_⟩
            walk_at "rd"
            refine ite2 (fun z => absurd (of_decide_eq_true z) (by omega)) (fun _ => ?_)
            refine ⟨putT t (nameOf c i) 0, _, _, rfl, same_set (s3.trans s4) np, ?_, ht.put (.inl rfl), nd_putT _ _ hnd, Nat.le_trans (putT_length t _ _) (by omega)⟩
            exact upd_same.trans (congrArg (fun z => some (HO.dK z)) (putK_kvT t (nameOf c i) 0))
          · have c1 := fun z => c1 (decide_eq_true (congrArg V.int z))
            walk_at "rd"
            refine ite2 (fun c2 => ?_) (fun c2 => ?_)
            · have c2 := of_decide_eq_true c2
              walk_at "rd"
              intro H4 s4
              walk_at "rd"
              intro H5 s5
              have hp4 := s5 _ _ (s4 _ _ hp3)
              refine ⟨p, _, rfl, DPut.k (k := Sum.inl (nameOf c i)) hp4 (small1000 (by rw [kvT_length]; omega)), ?_⟩
              refine ⟨putT t (nameOf c i) (nameOf c (((i : Int) + 1 - cellOf ns (Int.toNat 3) % 2) - 2)), _, _, rfl, same_set ((s3.trans s4).trans s5) np, ?_, ht.put (.inr ⟨(((i : Int) + 1 - cellOf ns (Int.toNat 3) % 2) - 2).toNat, by omega, by rw [Int.toNat_of_nonneg (by omega)]⟩), nd_putT _ _ hnd, Nat.le_trans (putT_length t _ _) (by omega)⟩
              exact upd_same.trans (congrArg (fun z => some (HO.dK z)) (putK_kvT t (nameOf c i) _))
            · walk_at "rd"
              exact ⟨ht.mono (Nat.le_succ i), hnd, Nat.le_succ_of_le htl⟩
        | true =>
          refine ⟨_, _, _, _, rfl, rfl, SqL.of upd_same, atI_nat (j := 1) rfl, ?_⟩
          walk_at "rd"
          refine ite2 (fun c1 => ?_) (fun c1 => ?_)
          · have c1 := V.int.inj (of_decide_eq_true c1)
            walk_at "rd"
            intro H4 s4
            have hp4 := s4 _ _ hp3
            refine ⟨p, _, rfl, DPut.k (k := Sum.inl (nameOf c i)) hp4 (small1000 (by rw [kvT_length]; omega)), ?_⟩
            walk_at "rd"
            refine ite2 (fun z => absurd (of_decide_eq_true z) (by omega)) (fun _ => ?_)
            refine ⟨putT t (nameOf c i) 0, _, _, rfl, same_set (s3.trans s4) np, ?_, ht.put (.inl rfl), nd_putT _ _ hnd, Nat.le_trans (putT_length t _ _) (by omega)⟩
            exact upd_same.trans (congrArg (fun z => some (HO.dK z)) (putK_kvT t (nameOf c i) 0))
          · have c1 := fun z => c1 (decide_eq_true (congrArg V.int z))
            walk_at "rd"
            refine ite2 (fun c2 => ?_) (fun c2 => ?_)
            · have c2 := of_decide_eq_true c2
              walk_at "rd"
              intro H4 s4
              walk_at "rd"
              intro H5 s5
              have hp4 := s5 _ _ (s4 _ _ hp3)
              refine ⟨p, _, rfl, DPut.k (k := Sum.inl (nameOf c i)) hp4 (small1000 (by rw [kvT_length]; omega)), ?_⟩
              refine ⟨putT t (nameOf c i) (nameOf c ((2 * ((i : Int) % 3 % 2)) - 2)), _, _, rfl, same_set ((s3.trans s4).trans s5) np, ?_, ht.put (.inr ⟨((2 * ((i : Int) % 3 % 2)) - 2).toNat, by omega, by rw [Int.toNat_of_nonneg (by omega)]⟩), nd_putT _ _ hnd, Nat.le_trans (putT_length t _ _) (by omega)⟩
              exact upd_same.trans (congrArg (fun z => some (HO.dK z)) (putK_kvT t (nameOf c i) _))
            · walk_at "rd"
              exact ⟨ht.mono (Nat.le_succ i), hnd, Nat.le_succ_of_le htl⟩
      · have hp3 := hp
        have s3 := s2
        have c0 : ¬ (8 : Int) < i := fun z => c0 (decide_eq_true z)
        have m0 := Int.emod_nonneg (cellOf ns (Int.toNat (3 + (i : Int)))) (show (i : Int) + 2 ≠ 0 by omega)
        have m1 := Int.emod_lt_of_pos (cellOf ns (Int.toNat (3 + (i : Int)))) (show (0 : Int) < (i : Int) + 2 by omega)
        walk_at "rd"
        refine ite2 (fun c1 => ?_) (fun c1 => ?_)
        · have c1 := V.int.inj (of_decide_eq_true c1)
          walk_at "rd"
          intro H4 s4
          have hp4 := s4 _ _ hp3
          refine ⟨p, _, rfl, DPut.k (k := Sum.inl (nameOf c i)) hp4 (small1000 (by rw [kvT_length]; omega)), ?_⟩
          walk_at "rd"
          refine ite2 (fun z => absurd (of_decide_eq_true z) (by omega)) (fun _ => ?_)
          refine ⟨putT t (nameOf c i) 0, _, _, rfl, same_set (s3.trans s4) np, ?_, ht.put (.inl rfl), nd_putT _ _ hnd, Nat.le_trans (putT_length t _ _) (by omega)⟩
          exact upd_same.trans (congrArg (fun z => some (HO.dK z)) (putK_kvT t (nameOf c i) 0))
        · have c1 := fun z => c1 (decide_eq_true (congrArg V.int z))
          walk_at "rd"
          refine ite2 (fun c2 => ?_) (fun c2 => ?_)
          · have c2 := of_decide_eq_true c2
            walk_at "rd"
            intro H4 s4
            walk_at "rd"
            intro H5 s5
            have hp4 := s5 _ _ (s4 _ _ hp3)
            refine ⟨p, _, rfl, DPut.k (k := Sum.inl (nameOf c i)) hp4 (small1000 (by rw [kvT_length]; omega)), ?_⟩
            refine ⟨putT t (nameOf c i) (nameOf c ((cellOf ns (Int.toNat (3 + (i : Int))) % ((i : Int) + 2)) - 2)), _, _, rfl, same_set ((s3.trans s4).trans s5) np, ?_, ht.put (.inr ⟨((cellOf ns (Int.toNat (3 + (i : Int))) % ((i : Int) + 2)) - 2).toNat, by omega, by rw [Int.toNat_of_nonneg (by omega)]⟩), nd_putT _ _ hnd, Nat.le_trans (putT_length t _ _) (by omega)⟩
            exact upd_same.trans (congrArg (fun z => some (HO.dK z)) (putK_kvT t (nameOf c i) _))
          · walk_at "rd"
            exact ⟨ht.mono (Nat.le_succ i), hnd, Nat.le_succ_of_le htl⟩
    · rintro σ H2 ⟨t, v5, v6, rfl, s2, hp, ht, hnd, htl⟩
      refine ⟨_, rfl, ?_⟩
      exact q t p H2 s2 np hp ht hnd htl

def sp_law (K : PySem.W.Frag) : Sp := fun vs H Q _ => ∃ (a : Addr) (ns : List Int), vs = [.ref a] ∧ SqL K H a (ns.map V.int) ∧ ns.length ≤ 63 ∧ ∀ H', Q (.bl true) H'
theorem nd_putW {t : List (Int × Int)} {f u : Int} {l : List Int} (hn : (t.map (·.1)).Nodup) : ((putW t f u l).map (·.1)).Nodup := by
  unfold putW
  split
  · exact hn
  · exact nd_putT f u hn
theorem putW_length (t : List (Int × Int)) (f u : Int) (l : List Int) : (putW t f u l).length ≤ t.length + 1 := by
  unfold putW
  split
  · omega
  · exact putT_length t f u
set_option maxHeartbeats 8000000 in
theorem ok_law (T : Tx K mg) : FnOk P w K mg base CX0 4 T.a_law T.d_law ["_law_script"] (sp_law K) := by
  refine T.F_law.ok sc_law (fun vs H Q E h => ?_) (fun cdv A outer s H vs Q E hr h => ?_)
  · obtain ⟨a, ns, rfl, _⟩ := h
    rfl
  · obtain ⟨a, ns, rfl, hS, hlen, k⟩ := h
    have hu := hu_of hr
    refine ⟨_, pss_cons (ps_set (i := 1) sc_law.nd rfl (.inl rfl) (pe_op op_mod (pe_call (ok_law_cell_at T) (hr.mono (by decide)) (by rfl) T.g_law_cell_at T.F_law_cell_at.kp T.b_law_cell_at .nil pass0 (pa_cons (pv 0) (pa_cons pe_int pa_nil))) pe_int))
      (pss_cons (ps_set (i := 2) sc_law.nd rfl (.inl rfl) (pe_cmpR op_eq (pe_op op_mod (pe_op op_fdiv (pe_call (ok_law_cell_at T) (hr.mono (by decide)) (by rfl) T.g_law_cell_at T.F_law_cell_at.kp T.b_law_cell_at .nil pass0 (pa_cons (pv 0) (pa_cons pe_int pa_nil))) pe_int) pe_int) pe_int (nomark _)))
      (pss_cons (ps_if (pt_cmpR op_in_seq (pe_op op_mod (pe_op op_fdiv (pe_call (ok_law_cell_at T) (hr.mono (by decide)) (by rfl) T.g_law_cell_at T.F_law_cell_at.kp T.b_law_cell_at .nil pass0 (pa_cons (pv 0) (pa_cons pe_int pa_nil))) pe_int) pe_int) (pe_tup (pa_cons pe_int (pa_cons pe_int pa_nil))) (by rfl)) (pss_one (ps_set (i := 1) sc_law.nd rfl (.inl rfl) (pe_op op_add (pv 1) pe_int))) pss_nil)
      (pss_cons (ps_set (i := 3) sc_law.nd rfl (.inl rfl) (pe_call (ok_law_cell_at T) (hr.mono (by decide)) (by rfl) T.g_law_cell_at T.F_law_cell_at.kp T.b_law_cell_at .nil pass0 (pa_cons (pv 0) (pa_cons pe_int pa_nil))))
      (pss_cons (ps_set (i := 4) sc_law.nd rfl (.inl rfl) (pe_call (ok_law_tree T) (hr.mono (by decide)) (by rfl) T.g_law_tree T.F_law_tree.kp T.b_law_tree .nil pass0 (pa_cons (pv 0) (pa_cons (pv 1) (pa_cons (pv 2) (pa_cons (pv 3) pa_nil))))))
      (pss_cons (ps_set (i := 5) sc_law.nd rfl (.inl rfl) (pe_call (ok_law_pick T) (hr.mono (by decide)) (by rfl) T.g_law_pick T.F_law_pick.kp T.b_law_pick .nil pass0 (pa_cons (pe_op op_add pe_int (pe_op op_mod (pe_call (ok_law_cell_at T) (hr.mono (by decide)) (by rfl) T.g_law_cell_at T.F_law_cell_at.kp T.b_law_cell_at .nil pass0 (pa_cons (pv 0) (pa_cons pe_int pa_nil))) (pe_op op_add (pv 1) pe_int))) (pa_cons (pv 1) (pa_cons (pv 3) pa_nil)))))
      (pss_cons (ps_set (i := 6) sc_law.nd rfl (.inl rfl) (pe_call (ok_law_pick T) (hr.mono (by decide)) (by rfl) T.g_law_pick T.F_law_pick.kp T.b_law_pick .nil pass0 (pa_cons (pe_op op_mod (pe_op op_fdiv (pe_call (ok_law_cell_at T) (hr.mono (by decide)) (by rfl) T.g_law_cell_at T.F_law_cell_at.kp T.b_law_cell_at .nil pass0 (pa_cons (pv 0) (pa_cons pe_int pa_nil))) (pe_op op_add (pv 1) pe_int)) (pe_op op_add (pv 1) pe_int)) (pa_cons (pv 1) (pa_cons (pv 3) pa_nil)))))
      (pss_cons (ps_set (i := 7) sc_law.nd rfl (.inl rfl) (pe_cmpR op_in_seq (pv 5) (pe_call (ok_law_way T) (hr.mono (by decide)) (by rfl) T.g_law_way T.F_law_way.kp T.b_law_way .nil pass0 (pa_cons (pv 4) (pa_cons (pv 6) pa_nil))) (by rfl)))
      (pss_cons (ps_set (i := 8) sc_law.nd rfl (.inl rfl) (pe_callTy call_dictD (by rfl) T.m_dict (by decide +kernel) (pa_cons (pv 4) pa_nil)))
      (pss_cons (ps_set (i := 9) sc_law.nd rfl (.inl rfl) (pe_call (ok_closes T) (hr.mono (by decide)) (by rfl) T.g_closes T.F_closes.kp T.b_closes .nil pass0 (pa_cons (pv 8) (pa_cons (pv 5) (pa_cons (pv 6) pa_nil)))))
      (pss_cons (ps_if (PW.pt (pw_or (pt_not (pt_val (pe_callB call_isi (by rfl) T.m_isinstance (by decide +kernel) (pa_cons (pv 9) (pa_cons (pe_bltn (v := .ty "bool") (by rfl) T.m_bool (by decide +kernel) rfl) pa_nil))))) (pw_or1 (pt_cmpR op_ne (pv 9) (pv 7) (nomark _))))) (pss_one (ps_ret pe_bl)) pss_nil)
      (pss_cons (ps_set (i := 10) sc_law.nd rfl (.inl rfl) (pe_callTy call_dictD (by rfl) T.m_dict (by decide +kernel) (pa_cons (pv 4) pa_nil)))
      (pss_cons (ps_if (pt_not (pt_val (pv 7))) (pss_one (ps_dput hu (pv 10) (pv 5) (pv 6) rfl)) pss_nil)
      (pss_cons (ps_set (i := 11) sc_law.nd rfl (.inl rfl) (pe_call (ok_put T) (hr.mono (by decide)) (by rfl) T.g_put T.F_put.kp T.b_put .nil pass0 (pa_cons (pv 8) (pa_cons (pv 5) (pa_cons (pv 6) pa_nil)))))
      (pss_cons (ps_if (pt_not (pt_val (pe_call (ok_law_same_tree T) (hr.mono (by decide)) (by rfl) T.g_law_same_tree T.F_law_same_tree.kp T.b_law_same_tree .nil pass0 (pa_cons (pv 11) (pa_cons (pv 10) pa_nil))))) (pss_one (ps_ret pe_bl)) pss_nil)
      (pss_cons (ps_dput hu (pv 11) (pv 5) pe_int rfl)
      (pss_cons (ps_dput hu (pv 11) (pe_call (ok_law_name T) (hr.mono (by decide)) (by rfl) T.g_law_name T.F_law_name.kp T.b_law_name .nil pass0 (pa_cons (pe_op op_add (pv 1) pe_int) (pa_cons (pv 3) pa_nil))) pe_int rfl)
      (pss_cons (ps_set (i := 12) sc_law.nd rfl (.inl rfl) (pe_callTy call_dictD (by rfl) T.m_dict (by decide +kernel) (pa_cons (pv 11) pa_nil)))
      (pss_cons (ps_if (PW.pt (pw_or (pt_not (pt_val (pe_call (ok_law_same_tree T) (hr.mono (by decide)) (by rfl) T.g_law_same_tree T.F_law_same_tree.kp T.b_law_same_tree .nil pass0 (pa_cons (pe_call (ok_put T) (hr.mono (by decide)) (by rfl) T.g_put T.F_put.kp T.b_put .nil pass0 (pa_cons (pv 8) (pa_cons (pv 5) (pa_cons (pv 6) pa_nil)))) (pa_cons (pv 10) pa_nil))))) (pw_or1 (pt_not (pt_val (pe_call (ok_law_same_tree T) (hr.mono (by decide)) (by rfl) T.g_law_same_tree T.F_law_same_tree.kp T.b_law_same_tree .nil pass0 (pa_cons (pv 11) (pa_cons (pv 12) pa_nil)))))))) (pss_one (ps_ret pe_bl)) pss_nil)
      (pss_one (ps_ret (pe_call (ok_law_same_tree T) (hr.mono (by decide)) (by rfl) T.g_law_same_tree T.F_law_same_tree.kp T.b_law_same_tree .nil pass0 (pa_cons (pv 8) (pa_cons (pv 4) pa_nil))))))))))))))))))))))), ?_⟩
    rw [st_law]
    walk_at "rd"
    intro p0 n0
    have s0 := fun o => same_upd (o := o) n0
    refine ⟨p0, _, rfl, .inr (SqT.of upd_same), rfl, rfl, _, rfl, ?_⟩
    have hS1 := (s0 (HO.tup [V.int 1, V.int 2])).seq hS
    refine ite2 (fun _ => ?_) (fun _ => ?_)
    · walk_at "rd"
      refine ⟨a, ns, _, _, _, rfl, hS1, by omega, by omega, fun t p H2 s2 np hp ht hnd htl => ?_⟩
      have hS2 := s2.seq hS1
      have m0 := Int.emod_nonneg (cellOf ns (Int.toNat 2)) (show (cellOf ns (Int.toNat 0) % 9 + 60) + 1 ≠ 0 by omega)
      have m1 := Int.emod_lt_of_pos (cellOf ns (Int.toNat 2)) (show 0 < (cellOf ns (Int.toNat 0) % 9 + 60) + 1 by omega)
      have m2 := Int.emod_nonneg (cellOf ns (Int.toNat 2) / ((cellOf ns (Int.toNat 0) % 9 + 60) + 1)) (show (cellOf ns (Int.toNat 0) % 9 + 60) + 2 ≠ 0 by omega)
      have m3 := Int.emod_lt_of_pos (cellOf ns (Int.toNat 2) / ((cellOf ns (Int.toNat 0) % 9 + 60) + 1)) (show 0 < (cellOf ns (Int.toNat 0) % 9 + 60) + 2 by omega)
      walk_at "rd"
      intro H3 s3
      have hS3 := s3.seq hS2
      walk_at "rd"
      intro H4 s4
      have hp4 := s4 _ _ (s3 _ _ hp)
      generalize pickOf (cellOf ns (Int.toNat 1)) (cellOf ns (Int.toNat 0) % 9 + 60) (1 + cellOf ns (Int.toNat 2) % ((cellOf ns (Int.toNat 0) % 9 + 60) + 1)) = f
      generalize pickOf (cellOf ns (Int.toNat 1)) (cellOf ns (Int.toNat 0) % 9 + 60) (cellOf ns (Int.toNat 2) / ((cellOf ns (Int.toNat 0) % 9 + 60) + 1) % ((cellOf ns (Int.toNat 0) % 9 + 60) + 2)) = g
      obtain ⟨l, w1, h1⟩ := ht.way (by omega) g
      walk_at "rd"
      refine ⟨p, t, _, l, rfl, hp4, w1, by omega, fun H5 q1 s5 nq1 hq1 => ?_⟩
      refine ⟨q1, _, rfl, .inl (SqL.of hq1), rfl, flat_ints l, ?_⟩
      have hp5 := s5 _ _ hp4
      walk_at "rd"
      refine ⟨p, _, rfl, .inl hp5, fun d nd => ?_⟩
      have s6 := same_upd (o := HO.dK (kvT t)) nd
      have hd6 : (upd H5 d (HO.dK (kvT t))) d = some (.dK (kvT t)) := upd_same
      have hp6 := s6 _ _ hp5
      have hdp : d ≠ p := (ne_of_none hp5 nd).symm
      walk_at "rd"
      refine ⟨d, t, f, g, l, rfl, hd6, w1, by omega, fun H7 s7 => ?_⟩
      walk_at "rd"
      have hp7 := s7 _ _ hp6
      refine ⟨p, _, rfl, .inl hp7, fun e ne => ?_⟩
      have s8 := same_upd (o := HO.dK (kvT t)) ne
      have hd8 := s8 _ _ (s7 _ _ hd6)
      have hp8 := s8 _ _ hp7
      have he8 : (upd H7 e (HO.dK (kvT t))) e = some (.dK (kvT t)) := upd_same
      have hde : d ≠ e := ne_of_none (s7 _ _ hd6) ne
      have hpe : p ≠ e := ne_of_none hp7 ne
      walk_at "rd"
      have hndU := nd_putW (f := f) (u := g) (l := l) hnd
      have hlU := putW_length t f g l
      cases eR : inV (.int f) (l.map V.int) with
      | true =>
        walk_at "rd"
        have eU : putW t f g l = t := by unfold putW; rw [if_pos eR]
        have he9 : (upd H7 e (HO.dK (kvT t))) e = some (.dK (kvT (putW t f g l))) := by rw [eU]; exact he8
        have hd9 := hd8
        have hp9 := hp8
        walk_at "rd"
        refine ⟨d, t, f, g, l, rfl, hd9, w1, by omega, by omega, fun H10 m s10 nm hm => ?_⟩
        walk_at "rd"
        have hme : m ≠ e := (ne_of_none he9 nm).symm
        have hmd : m ≠ d := (ne_of_none hd9 nm).symm
        have hmp : m ≠ p := (ne_of_none hp9 nm).symm
        have he10 := s10 _ _ he9
        have hd10 := s10 _ _ hd9
        have hp10 := s10 _ _ hp9
        clear eU
        obtain ⟨U, hU⟩ : ∃ U, U = putW t f g l := ⟨_, rfl⟩
        rw [← hU] at hm he10 hndU hlU
        refine ⟨m, e, U, U, rfl, hm, he10, hme, rfl, hndU, fun x hx => mem_look hndU hx, ?_⟩
        walk_at "rd"
        refine ⟨m, _, rfl, DPut.k (k := Sum.inl f) hm (small1000 (by rw [kvT_length]; omega)), ?_⟩
        have hm11 : (upd H10 m (HO.dK (putK (kvT U) (Sum.inl f) (V.int 0)))) m = some (.dK (kvT (putT U f 0))) := upd_same.trans (congrArg (fun z => some (HO.dK z)) (putK_kvT U f 0))
        have he11 : (upd H10 m (HO.dK (putK (kvT U) (Sum.inl f) (V.int 0)))) e = some (.dK (kvT U)) := by rw [upd_ne hme.symm]; exact he10
        have hd11 : (upd H10 m (HO.dK (putK (kvT U) (Sum.inl f) (V.int 0)))) d = some (.dK (kvT t)) := by rw [upd_ne hmd.symm]; exact hd10
        have hp11 : (upd H10 m (HO.dK (putK (kvT U) (Sum.inl f) (V.int 0)))) p = some (.dK (kvT t)) := by rw [upd_ne hmp.symm]; exact hp10
        walk_at "rd"
        intro H12 s12
        have hm12 := s12 _ _ hm11
        have he12 := s12 _ _ he11
        have hd12 := s12 _ _ hd11
        have hp12 := s12 _ _ hp11
        have hndV := nd_putT f 0 hndU
        have hlV := putT_length U f 0
        generalize putT U f 0 = W at hm12 hndV hlV
        generalize nameOf (cellOf ns (Int.toNat 1)) ((cellOf ns (Int.toNat 0) % 9 + 60) + 9) = n
        refine ⟨m, _, rfl, DPut.k (k := Sum.inl n) hm12 (small1000 (by rw [kvT_length]; omega)), ?_⟩
        have hm13 : (upd H12 m (HO.dK (putK (kvT W) (Sum.inl n) (V.int 0)))) m = some (.dK (kvT (putT W n 0))) := upd_same.trans (congrArg (fun z => some (HO.dK z)) (putK_kvT W n 0))
        have he13 : (upd H12 m (HO.dK (putK (kvT W) (Sum.inl n) (V.int 0)))) e = some (.dK (kvT U)) := by rw [upd_ne hme.symm]; exact he12
        have hd13 : (upd H12 m (HO.dK (putK (kvT W) (Sum.inl n) (V.int 0)))) d = some (.dK (kvT t)) := by rw [upd_ne hmd.symm]; exact hd12
        have hp13 : (upd H12 m (HO.dK (putK (kvT W) (Sum.inl n) (V.int 0)))) p = some (.dK (kvT t)) := by rw [upd_ne hmp.symm]; exact hp12
        have hndX := nd_putT n 0 hndV
        walk_at "rd"
        refine ⟨m, _, rfl, .inl hm13, fun c nc => ?_⟩
        have s14 := fun o => same_upd (o := o) nc
        have hcm : m ≠ c := ne_of_none hm13 nc
        walk_at "rd"
        refine ⟨d, t, f, g, l, rfl, s14 _ _ _ hd13, w1, by omega, by omega, fun H15 m2 s15 nm2 hm2 => ?_⟩
        have he15 := s15 _ _ (s14 _ _ _ he13)
        walk_at "rd"
        refine ⟨m2, e, U, U, rfl, by rw [hU]; exact hm2, he15, (ne_of_none (s14 _ _ _ he13) nm2).symm, rfl, hndU, fun x hx => mem_look hndU hx, ?_⟩
        walk_at "rd"
        refine ⟨m, c, _, _, rfl, s15 _ _ (s14 _ _ _ hm13), s15 _ _ upd_same, hcm, rfl, hndX, fun x hx => mem_look hndX hx, ?_⟩
        walk_at "rd"
        refine ⟨d, p, t, t, rfl, s15 _ _ (s14 _ _ _ hd13), s15 _ _ (s14 _ _ _ hp13), hdp, rfl, hnd, fun x hx => mem_look hnd hx, ?_⟩
        exact k _
      | false =>
        walk_at "rd"
        refine ⟨e, _, rfl, DPut.k (k := Sum.inl f) he8 (small1000 (by rw [kvT_length]; omega)), ?_⟩
        have eU : putW t f g l = putT t f g := by unfold putW; rw [if_neg (by rw [eR]; exact Bool.false_ne_true)]
        have he9 : (upd (upd H7 e (HO.dK (kvT t))) e (HO.dK (putK (kvT t) (Sum.inl f) (V.int g)))) e = some (.dK (kvT (putW t f g l))) := by rw [eU]; exact upd_same.trans (congrArg (fun z => some (HO.dK z)) (putK_kvT t f g))
        have hd9 : (upd (upd H7 e (HO.dK (kvT t))) e (HO.dK (putK (kvT t) (Sum.inl f) (V.int g)))) d = some (.dK (kvT t)) := by rw [upd_ne hde]; exact hd8
        have hp9 : (upd (upd H7 e (HO.dK (kvT t))) e (HO.dK (putK (kvT t) (Sum.inl f) (V.int g)))) p = some (.dK (kvT t)) := by rw [upd_ne hpe]; exact hp8
        walk_at "rd"
        refine ⟨d, t, f, g, l, rfl, hd9, w1, by omega, by omega, fun H10 m s10 nm hm => ?_⟩
        walk_at "rd"
        have hme : m ≠ e := (ne_of_none he9 nm).symm
        have hmd : m ≠ d := (ne_of_none hd9 nm).symm
        have hmp : m ≠ p := (ne_of_none hp9 nm).symm
        have he10 := s10 _ _ he9
        have hd10 := s10 _ _ hd9
        have hp10 := s10 _ _ hp9
        clear eU
        obtain ⟨U, hU⟩ : ∃ U, U = putW t f g l := ⟨_, rfl⟩
        rw [← hU] at hm he10 hndU hlU
        refine ⟨m, e, U, U, rfl, hm, he10, hme, rfl, hndU, fun x hx => mem_look hndU hx, ?_⟩
        walk_at "rd"
        refine ⟨m, _, rfl, DPut.k (k := Sum.inl f) hm (small1000 (by rw [kvT_length]; omega)), ?_⟩
        have hm11 : (upd H10 m (HO.dK (putK (kvT U) (Sum.inl f) (V.int 0)))) m = some (.dK (kvT (putT U f 0))) := upd_same.trans (congrArg (fun z => some (HO.dK z)) (putK_kvT U f 0))
        have he11 : (upd H10 m (HO.dK (putK (kvT U) (Sum.inl f) (V.int 0)))) e = some (.dK (kvT U)) := by rw [upd_ne hme.symm]; exact he10
        have hd11 : (upd H10 m (HO.dK (putK (kvT U) (Sum.inl f) (V.int 0)))) d = some (.dK (kvT t)) := by rw [upd_ne hmd.symm]; exact hd10
        have hp11 : (upd H10 m (HO.dK (putK (kvT U) (Sum.inl f) (V.int 0)))) p = some (.dK (kvT t)) := by rw [upd_ne hmp.symm]; exact hp10
        walk_at "rd"
        intro H12 s12
        have hm12 := s12 _ _ hm11
        have he12 := s12 _ _ he11
        have hd12 := s12 _ _ hd11
        have hp12 := s12 _ _ hp11
        have hndV := nd_putT f 0 hndU
        have hlV := putT_length U f 0
        generalize putT U f 0 = W at hm12 hndV hlV
        generalize nameOf (cellOf ns (Int.toNat 1)) ((cellOf ns (Int.toNat 0) % 9 + 60) + 9) = n
        refine ⟨m, _, rfl, DPut.k (k := Sum.inl n) hm12 (small1000 (by rw [kvT_length]; omega)), ?_⟩
        have hm13 : (upd H12 m (HO.dK (putK (kvT W) (Sum.inl n) (V.int 0)))) m = some (.dK (kvT (putT W n 0))) := upd_same.trans (congrArg (fun z => some (HO.dK z)) (putK_kvT W n 0))
        have he13 : (upd H12 m (HO.dK (putK (kvT W) (Sum.inl n) (V.int 0)))) e = some (.dK (kvT U)) := by rw [upd_ne hme.symm]; exact he12
        have hd13 : (upd H12 m (HO.dK (putK (kvT W) (Sum.inl n) (V.int 0)))) d = some (.dK (kvT t)) := by rw [upd_ne hmd.symm]; exact hd12
        have hp13 : (upd H12 m (HO.dK (putK (kvT W) (Sum.inl n) (V.int 0)))) p = some (.dK (kvT t)) := by rw [upd_ne hmp.symm]; exact hp12
        have hndX := nd_putT n 0 hndV
        walk_at "rd"
        refine ⟨m, _, rfl, .inl hm13, fun c nc => ?_⟩
        have s14 := fun o => same_upd (o := o) nc
        have hcm : m ≠ c := ne_of_none hm13 nc
        walk_at "rd"
        refine ⟨d, t, f, g, l, rfl, s14 _ _ _ hd13, w1, by omega, by omega, fun H15 m2 s15 nm2 hm2 => ?_⟩
        have he15 := s15 _ _ (s14 _ _ _ he13)
        walk_at "rd"
        refine ⟨m2, e, U, U, rfl, by rw [hU]; exact hm2, he15, (ne_of_none (s14 _ _ _ he13) nm2).symm, rfl, hndU, fun x hx => mem_look hndU hx, ?_⟩
        walk_at "rd"
        refine ⟨m, c, _, _, rfl, s15 _ _ (s14 _ _ _ hm13), s15 _ _ upd_same, hcm, rfl, hndX, fun x hx => mem_look hndX hx, ?_⟩
        walk_at "rd"
        refine ⟨d, p, t, t, rfl, s15 _ _ (s14 _ _ _ hd13), s15 _ _ (s14 _ _ _ hp13), hdp, rfl, hnd, fun x hx => mem_look hnd hx, ?_⟩
        exact k _
    · walk_at "rd"
      refine ⟨a, ns, _, _, _, rfl, hS1, by omega, by omega, fun t p H2 s2 np hp ht hnd htl => ?_⟩
      have hS2 := s2.seq hS1
      have m0 := Int.emod_nonneg (cellOf ns (Int.toNat 2)) (show (cellOf ns (Int.toNat 0) % 9) + 1 ≠ 0 by omega)
      have m1 := Int.emod_lt_of_pos (cellOf ns (Int.toNat 2)) (show 0 < (cellOf ns (Int.toNat 0) % 9) + 1 by omega)
      have m2 := Int.emod_nonneg (cellOf ns (Int.toNat 2) / ((cellOf ns (Int.toNat 0) % 9) + 1)) (show (cellOf ns (Int.toNat 0) % 9) + 2 ≠ 0 by omega)
      have m3 := Int.emod_lt_of_pos (cellOf ns (Int.toNat 2) / ((cellOf ns (Int.toNat 0) % 9) + 1)) (show 0 < (cellOf ns (Int.toNat 0) % 9) + 2 by omega)
      walk_at "rd"
      intro H3 s3
      have hS3 := s3.seq hS2
      walk_at "rd"
      intro H4 s4
      have hp4 := s4 _ _ (s3 _ _ hp)
      generalize pickOf (cellOf ns (Int.toNat 1)) (cellOf ns (Int.toNat 0) % 9) (1 + cellOf ns (Int.toNat 2) % ((cellOf ns (Int.toNat 0) % 9) + 1)) = f
      generalize pickOf (cellOf ns (Int.toNat 1)) (cellOf ns (Int.toNat 0) % 9) (cellOf ns (Int.toNat 2) / ((cellOf ns (Int.toNat 0) % 9) + 1) % ((cellOf ns (Int.toNat 0) % 9) + 2)) = g
      obtain ⟨l, w1, h1⟩ := ht.way (by omega) g
      walk_at "rd"
      refine ⟨p, t, _, l, rfl, hp4, w1, by omega, fun H5 q1 s5 nq1 hq1 => ?_⟩
      refine ⟨q1, _, rfl, .inl (SqL.of hq1), rfl, flat_ints l, ?_⟩
      have hp5 := s5 _ _ hp4
      walk_at "rd"
      refine ⟨p, _, rfl, .inl hp5, fun d nd => ?_⟩
      have s6 := same_upd (o := HO.dK (kvT t)) nd
      have hd6 : (upd H5 d (HO.dK (kvT t))) d = some (.dK (kvT t)) := upd_same
      have hp6 := s6 _ _ hp5
      have hdp : d ≠ p := (ne_of_none hp5 nd).symm
      walk_at "rd"
      refine ⟨d, t, f, g, l, rfl, hd6, w1, by omega, fun H7 s7 => ?_⟩
      walk_at "rd"
      have hp7 := s7 _ _ hp6
      refine ⟨p, _, rfl, .inl hp7, fun e ne => ?_⟩
      have s8 := same_upd (o := HO.dK (kvT t)) ne
      have hd8 := s8 _ _ (s7 _ _ hd6)
      have hp8 := s8 _ _ hp7
      have he8 : (upd H7 e (HO.dK (kvT t))) e = some (.dK (kvT t)) := upd_same
      have hde : d ≠ e := ne_of_none (s7 _ _ hd6) ne
      have hpe : p ≠ e := ne_of_none hp7 ne
      walk_at "rd"
      have hndU := nd_putW (f := f) (u := g) (l := l) hnd
      have hlU := putW_length t f g l
      cases eR : inV (.int f) (l.map V.int) with
      | true =>
        walk_at "rd"
        have eU : putW t f g l = t := by unfold putW; rw [if_pos eR]
        have he9 : (upd H7 e (HO.dK (kvT t))) e = some (.dK (kvT (putW t f g l))) := by rw [eU]; exact he8
        have hd9 := hd8
        have hp9 := hp8
        walk_at "rd"
        refine ⟨d, t, f, g, l, rfl, hd9, w1, by omega, by omega, fun H10 m s10 nm hm => ?_⟩
        walk_at "rd"
        have hme : m ≠ e := (ne_of_none he9 nm).symm
        have hmd : m ≠ d := (ne_of_none hd9 nm).symm
        have hmp : m ≠ p := (ne_of_none hp9 nm).symm
        have he10 := s10 _ _ he9
        have hd10 := s10 _ _ hd9
        have hp10 := s10 _ _ hp9
        clear eU
        obtain ⟨U, hU⟩ : ∃ U, U = putW t f g l := ⟨_, rfl⟩
        rw [← hU] at hm he10 hndU hlU
        refine ⟨m, e, U, U, rfl, hm, he10, hme, rfl, hndU, fun x hx => mem_look hndU hx, ?_⟩
        walk_at "rd"
        refine ⟨m, _, rfl, DPut.k (k := Sum.inl f) hm (small1000 (by rw [kvT_length]; omega)), ?_⟩
        have hm11 : (upd H10 m (HO.dK (putK (kvT U) (Sum.inl f) (V.int 0)))) m = some (.dK (kvT (putT U f 0))) := upd_same.trans (congrArg (fun z => some (HO.dK z)) (putK_kvT U f 0))
        have he11 : (upd H10 m (HO.dK (putK (kvT U) (Sum.inl f) (V.int 0)))) e = some (.dK (kvT U)) := by rw [upd_ne hme.symm]; exact he10
        have hd11 : (upd H10 m (HO.dK (putK (kvT U) (Sum.inl f) (V.int 0)))) d = some (.dK (kvT t)) := by rw [upd_ne hmd.symm]; exact hd10
        have hp11 : (upd H10 m (HO.dK (putK (kvT U) (Sum.inl f) (V.int 0)))) p = some (.dK (kvT t)) := by rw [upd_ne hmp.symm]; exact hp10
        walk_at "rd"
        intro H12 s12
        have hm12 := s12 _ _ hm11
        have he12 := s12 _ _ he11
        have hd12 := s12 _ _ hd11
        have hp12 := s12 _ _ hp11
        have hndV := nd_putT f 0 hndU
        have hlV := putT_length U f 0
        generalize putT U f 0 = W at hm12 hndV hlV
        generalize nameOf (cellOf ns (Int.toNat 1)) ((cellOf ns (Int.toNat 0) % 9) + 9) = n
        refine ⟨m, _, rfl, DPut.k (k := Sum.inl n) hm12 (small1000 (by rw [kvT_length]; omega)), ?_⟩
        have hm13 : (upd H12 m (HO.dK (putK (kvT W) (Sum.inl n) (V.int 0)))) m = some (.dK (kvT (putT W n 0))) := upd_same.trans (congrArg (fun z => some (HO.dK z)) (putK_kvT W n 0))
        have he13 : (upd H12 m (HO.dK (putK (kvT W) (Sum.inl n) (V.int 0)))) e = some (.dK (kvT U)) := by rw [upd_ne hme.symm]; exact he12
        have hd13 : (upd H12 m (HO.dK (putK (kvT W) (Sum.inl n) (V.int 0)))) d = some (.dK (kvT t)) := by rw [upd_ne hmd.symm]; exact hd12
        have hp13 : (upd H12 m (HO.dK (putK (kvT W) (Sum.inl n) (V.int 0)))) p = some (.dK (kvT t)) := by rw [upd_ne hmp.symm]; exact hp12
        have hndX := nd_putT n 0 hndV
        walk_at "rd"
        refine ⟨m, _, rfl, .inl hm13, fun c nc => ?_⟩
        have s14 := fun o => same_upd (o := o) nc
        have hcm : m ≠ c := ne_of_none hm13 nc
        walk_at "rd"
        refine ⟨d, t, f, g, l, rfl, s14 _ _ _ hd13, w1, by omega, by omega, fun H15 m2 s15 nm2 hm2 => ?_⟩
        have he15 := s15 _ _ (s14 _ _ _ he13)
        walk_at "rd"
        refine ⟨m2, e, U, U, rfl, by rw [hU]; exact hm2, he15, (ne_of_none (s14 _ _ _ he13) nm2).symm, rfl, hndU, fun x hx => mem_look hndU hx, ?_⟩
        walk_at "rd"
        refine ⟨m, c, _, _, rfl, s15 _ _ (s14 _ _ _ hm13), s15 _ _ upd_same, hcm, rfl, hndX, fun x hx => mem_look hndX hx, ?_⟩
        walk_at "rd"
        refine ⟨d, p, t, t, rfl, s15 _ _ (s14 _ _ _ hd13), s15 _ _ (s14 _ _ _ hp13), hdp, rfl, hnd, fun x hx => mem_look hnd hx, ?_⟩
        exact k _
      | false =>
        walk_at "rd"
        refine ⟨e, _, rfl, DPut.k (k := Sum.inl f) he8 (small1000 (by rw [kvT_length]; omega)), ?_⟩
        have eU : putW t f g l = putT t f g := by unfold putW; rw [if_neg (by rw [eR]; exact Bool.false_ne_true)]
        have he9 : (upd (upd H7 e (HO.dK (kvT t))) e (HO.dK (putK (kvT t) (Sum.inl f) (V.int g)))) e = some (.dK (kvT (putW t f g l))) := by rw [eU]; exact upd_same.trans (congrArg (fun z => some (HO.dK z)) (putK_kvT t f g))
        have hd9 : (upd (upd H7 e (HO.dK (kvT t))) e (HO.dK (putK (kvT t) (Sum.inl f) (V.int g)))) d = some (.dK (kvT t)) := by rw [upd_ne hde]; exact hd8
        have hp9 : (upd (upd H7 e (HO.dK (kvT t))) e (HO.dK (putK (kvT t) (Sum.inl f) (V.int g)))) p = some (.dK (kvT t)) := by rw [upd_ne hpe]; exact hp8
        walk_at "rd"
        refine ⟨d, t, f, g, l, rfl, hd9, w1, by omega, by omega, fun H10 m s10 nm hm => ?_⟩
        walk_at "rd"
        have hme : m ≠ e := (ne_of_none he9 nm).symm
        have hmd : m ≠ d := (ne_of_none hd9 nm).symm
        have hmp : m ≠ p := (ne_of_none hp9 nm).symm
        have he10 := s10 _ _ he9
        have hd10 := s10 _ _ hd9
        have hp10 := s10 _ _ hp9
        clear eU
        obtain ⟨U, hU⟩ : ∃ U, U = putW t f g l := ⟨_, rfl⟩
        rw [← hU] at hm he10 hndU hlU
        refine ⟨m, e, U, U, rfl, hm, he10, hme, rfl, hndU, fun x hx => mem_look hndU hx, ?_⟩
        walk_at "rd"
        refine ⟨m, _, rfl, DPut.k (k := Sum.inl f) hm (small1000 (by rw [kvT_length]; omega)), ?_⟩
        have hm11 : (upd H10 m (HO.dK (putK (kvT U) (Sum.inl f) (V.int 0)))) m = some (.dK (kvT (putT U f 0))) := upd_same.trans (congrArg (fun z => some (HO.dK z)) (putK_kvT U f 0))
        have he11 : (upd H10 m (HO.dK (putK (kvT U) (Sum.inl f) (V.int 0)))) e = some (.dK (kvT U)) := by rw [upd_ne hme.symm]; exact he10
        have hd11 : (upd H10 m (HO.dK (putK (kvT U) (Sum.inl f) (V.int 0)))) d = some (.dK (kvT t)) := by rw [upd_ne hmd.symm]; exact hd10
        have hp11 : (upd H10 m (HO.dK (putK (kvT U) (Sum.inl f) (V.int 0)))) p = some (.dK (kvT t)) := by rw [upd_ne hmp.symm]; exact hp10
        walk_at "rd"
        intro H12 s12
        have hm12 := s12 _ _ hm11
        have he12 := s12 _ _ he11
        have hd12 := s12 _ _ hd11
        have hp12 := s12 _ _ hp11
        have hndV := nd_putT f 0 hndU
        have hlV := putT_length U f 0
        generalize putT U f 0 = W at hm12 hndV hlV
        generalize nameOf (cellOf ns (Int.toNat 1)) ((cellOf ns (Int.toNat 0) % 9) + 9) = n
        refine ⟨m, _, rfl, DPut.k (k := Sum.inl n) hm12 (small1000 (by rw [kvT_length]; omega)), ?_⟩
        have hm13 : (upd H12 m (HO.dK (putK (kvT W) (Sum.inl n) (V.int 0)))) m = some (.dK (kvT (putT W n 0))) := upd_same.trans (congrArg (fun z => some (HO.dK z)) (putK_kvT W n 0))
        have he13 : (upd H12 m (HO.dK (putK (kvT W) (Sum.inl n) (V.int 0)))) e = some (.dK (kvT U)) := by rw [upd_ne hme.symm]; exact he12
        have hd13 : (upd H12 m (HO.dK (putK (kvT W) (Sum.inl n) (V.int 0)))) d = some (.dK (kvT t)) := by rw [upd_ne hmd.symm]; exact hd12
        have hp13 : (upd H12 m (HO.dK (putK (kvT W) (Sum.inl n) (V.int 0)))) p = some (.dK (kvT t)) := by rw [upd_ne hmp.symm]; exact hp12
        have hndX := nd_putT n 0 hndV
        walk_at "rd"
        refine ⟨m, _, rfl, .inl hm13, fun c nc => ?_⟩
        have s14 := fun o => same_upd (o := o) nc
        have hcm : m ≠ c := ne_of_none hm13 nc
        walk_at "rd"
        refine ⟨d, t, f, g, l, rfl, s14 _ _ _ hd13, w1, by omega, by omega, fun H15 m2 s15 nm2 hm2 => ?_⟩
        have he15 := s15 _ _ (s14 _ _ _ he13)
        walk_at "rd"
        refine ⟨m2, e, U, U, rfl, by rw [hU]; exact hm2, he15, (ne_of_none (s14 _ _ _ he13) nm2).symm, rfl, hndU, fun x hx => mem_look hndU hx, ?_⟩
        walk_at "rd"
        refine ⟨m, c, _, _, rfl, s15 _ _ (s14 _ _ _ hm13), s15 _ _ upd_same, hcm, rfl, hndX, fun x hx => mem_look hndX hx, ?_⟩
        walk_at "rd"
        refine ⟨d, p, t, t, rfl, s15 _ _ (s14 _ _ _ hd13), s15 _ _ (s14 _ _ _ hp13), hdp, rfl, hnd, fun x hx => mem_look hnd hx, ?_⟩
        exact k _

end
theorem all_mk {l : PySem.W.OpenLaw} {w : World} {K : PySem.W.Frag} {h : Heap} {mg : Str → Option Value} {fa : Addr} (X : K.In h) (G : h.Ns mainGlobals mg) (hfa : mg "law" = some (.ref fa))
    {f0 : Addr} {od0 an0 : Option Addr} {sl0 : Array (Option Value)} {oc0 kV0 dc0 pm0 cd0 ct0 : Value} {f1 : Addr} {od1 an1 : Option Addr} {sl1 : Array (Option Value)} {oc1 kV1 dc1 pm1 cd1 ct1 : Value} {f2 : Addr} {od2 an2 : Option Addr} {sl2 : Array (Option Value)} {oc2 kV2 dc2 pm2 cd2 ct2 : Value} {f3 : Addr} {od3 an3 : Option Addr} {sl3 : Array (Option Value)} {oc3 kV3 dc3 pm3 cd3 ct3 : Value} {f4 : Addr} {od4 an4 : Option Addr} {sl4 : Array (Option Value)} {oc4 kV4 dc4 pm4 cd4 ct4 : Value} {f5 : Addr} {od5 an5 : Option Addr} {sl5 : Array (Option Value)} {oc5 kV5 dc5 pm5 cd5 ct5 : Value} {f6 : Addr} {od6 an6 : Option Addr} {sl6 : Array (Option Value)} {oc6 kV6 dc6 pm6 cd6 ct6 : Value} {f7 : Addr} {od7 an7 : Option Addr} {sl7 : Array (Option Value)} {oc7 kV7 dc7 pm7 cd7 ct7 : Value} {f8 : Addr} {od8 an8 : Option Addr} {sl8 : Array (Option Value)} {oc8 kV8 dc8 pm8 cd8 ct8 : Value} {f9 : Addr} {od9 an9 : Option Addr} {sl9 : Array (Option Value)} {oc9 kV9 dc9 pm9 cd9 ct9 : Value} {f10 : Addr} {od10 an10 : Option Addr} {sl10 : Array (Option Value)} {oc10 kV10 dc10 pm10 cd10 ct10 : Value}
    (a0 : PySem.W.nsIn K mainGlobals "way_up" = some (some (.ref f0))) (l0 : K.lookup f0 = some ⟨oc0, od0, .func (PySem.W.fnOf "way_up" "way_up" (defArgs s_way_up) (defBody s_way_up) (defScope s_way_up) .none kV0 dc0 pm0 an0 cd0 ct0), sl0⟩) (c0 : PySem.W.codeIn K cd0 "way_up" = true) (k0 : PySem.W.keepIn K (.ref f0) = true)
    (a1 : PySem.W.nsIn K mainGlobals "closes" = some (some (.ref f1))) (l1 : K.lookup f1 = some ⟨oc1, od1, .func (PySem.W.fnOf "closes" "closes" (defArgs s_closes) (defBody s_closes) (defScope s_closes) .none kV1 dc1 pm1 an1 cd1 ct1), sl1⟩) (c1 : PySem.W.codeIn K cd1 "closes" = true) (k1 : PySem.W.keepIn K (.ref f1) = true)
    (a2 : PySem.W.nsIn K mainGlobals "put" = some (some (.ref f2))) (l2 : K.lookup f2 = some ⟨oc2, od2, .func (PySem.W.fnOf "put" "put" (defArgs s_put) (defBody s_put) (defScope s_put) .none kV2 dc2 pm2 an2 cd2 ct2), sl2⟩) (c2 : PySem.W.codeIn K cd2 "put" = true) (k2 : PySem.W.keepIn K (.ref f2) = true)
    (a3 : PySem.W.nsIn K mainGlobals "_law_whole" = some (some (.ref f3))) (l3 : K.lookup f3 = some ⟨oc3, od3, .func (PySem.W.fnOf "_law_whole" "_law_whole" (defArgs s_law_whole) (defBody s_law_whole) (defScope s_law_whole) .none kV3 dc3 pm3 an3 cd3 ct3), sl3⟩) (c3 : PySem.W.codeIn K cd3 "_law_whole" = true) (k3 : PySem.W.keepIn K (.ref f3) = true)
    (a4 : PySem.W.nsIn K mainGlobals "_law_cell_at" = some (some (.ref f4))) (l4 : K.lookup f4 = some ⟨oc4, od4, .func (PySem.W.fnOf "_law_cell_at" "_law_cell_at" (defArgs s_law_cell_at) (defBody s_law_cell_at) (defScope s_law_cell_at) .none kV4 dc4 pm4 an4 cd4 ct4), sl4⟩) (c4 : PySem.W.codeIn K cd4 "_law_cell_at" = true) (k4 : PySem.W.keepIn K (.ref f4) = true)
    (a5 : PySem.W.nsIn K mainGlobals "_law_name" = some (some (.ref f5))) (l5 : K.lookup f5 = some ⟨oc5, od5, .func (PySem.W.fnOf "_law_name" "_law_name" (defArgs s_law_name) (defBody s_law_name) (defScope s_law_name) .none kV5 dc5 pm5 an5 cd5 ct5), sl5⟩) (c5 : PySem.W.codeIn K cd5 "_law_name" = true) (k5 : PySem.W.keepIn K (.ref f5) = true)
    (a6 : PySem.W.nsIn K mainGlobals "_law_tree" = some (some (.ref f6))) (l6 : K.lookup f6 = some ⟨oc6, od6, .func (PySem.W.fnOf "_law_tree" "_law_tree" (defArgs s_law_tree) (defBody s_law_tree) (defScope s_law_tree) .none kV6 dc6 pm6 an6 cd6 ct6), sl6⟩) (c6 : PySem.W.codeIn K cd6 "_law_tree" = true) (k6 : PySem.W.keepIn K (.ref f6) = true)
    (a7 : PySem.W.nsIn K mainGlobals "_law_pick" = some (some (.ref f7))) (l7 : K.lookup f7 = some ⟨oc7, od7, .func (PySem.W.fnOf "_law_pick" "_law_pick" (defArgs s_law_pick) (defBody s_law_pick) (defScope s_law_pick) .none kV7 dc7 pm7 an7 cd7 ct7), sl7⟩) (c7 : PySem.W.codeIn K cd7 "_law_pick" = true) (k7 : PySem.W.keepIn K (.ref f7) = true)
    (a8 : PySem.W.nsIn K mainGlobals "_law_way" = some (some (.ref f8))) (l8 : K.lookup f8 = some ⟨oc8, od8, .func (PySem.W.fnOf "_law_way" "_law_way" (defArgs s_law_way) (defBody s_law_way) (defScope s_law_way) .none kV8 dc8 pm8 an8 cd8 ct8), sl8⟩) (c8 : PySem.W.codeIn K cd8 "_law_way" = true) (k8 : PySem.W.keepIn K (.ref f8) = true)
    (a9 : PySem.W.nsIn K mainGlobals "_law_same_tree" = some (some (.ref f9))) (l9 : K.lookup f9 = some ⟨oc9, od9, .func (PySem.W.fnOf "_law_same_tree" "_law_same_tree" (defArgs s_law_same_tree) (defBody s_law_same_tree) (defScope s_law_same_tree) .none kV9 dc9 pm9 an9 cd9 ct9), sl9⟩) (c9 : PySem.W.codeIn K cd9 "_law_same_tree" = true) (k9 : PySem.W.keepIn K (.ref f9) = true)
    (a10 : PySem.W.nsIn K mainGlobals "law" = some (some (.ref f10))) (l10 : K.lookup f10 = some ⟨oc10, od10, .func (PySem.W.fnOf "law" "law" (defArgs s_law) (defBody s_law) (defScope s_law) .none kV10 dc10 pm10 an10 cd10 ct10), sl10⟩) (c10 : PySem.W.codeIn K cd10 "law" = true) (k10 : PySem.W.keepIn K (.ref f10) = true)
    (z0 : PySem.W.nsIn K mainGlobals "bool" = some none)
    (z1 : PySem.W.nsIn K mainGlobals "dict" = some none)
    (z2 : PySem.W.nsIn K mainGlobals "int" = some none)
    (z3 : PySem.W.nsIn K mainGlobals "isinstance" = some none)
    (z4 : PySem.W.nsIn K mainGlobals "len" = some none)
    (z5 : PySem.W.nsIn K mainGlobals "range" = some none)
    : ∃ fd : FuncData, (∀ (s : Shared) (v : Value), BindsTo s fd ⟨[v], []⟩ [("_law_script", v)]) ∧ ∀ base : Heap, K.In base → base.Ns mainGlobals mg → FnOk l.prog w K mg base CX0 4 fa fd ["_law_script"] (sp_law K) := by
  have e := hfa.symm.trans (PySem.W.mg_of X G a10)
  cases e
  have F0 := fun_mk (st := s_way_up) l0 c0 k0
  have b0 := F0.binds (ps := ["tree", "folder"]) fun _ _ _ _ _ _ us hl => match us, hl with | [_, _], _ => rfl
  have F1 := fun_mk (st := s_closes) l1 c1 k1
  have b1 := F1.binds (ps := ["tree", "folder", "under"]) fun _ _ _ _ _ _ us hl => match us, hl with | [_, _, _], _ => rfl
  have F2 := fun_mk (st := s_put) l2 c2 k2
  have b2 := F2.binds (ps := ["tree", "folder", "under"]) fun _ _ _ _ _ _ us hl => match us, hl with | [_, _, _], _ => rfl
  have F3 := fun_mk (st := s_law_whole) l3 c3 k3
  have b3 := F3.binds (ps := ["_law_found"]) fun _ _ _ _ _ _ us hl => match us, hl with | [_], _ => rfl
  have F4 := fun_mk (st := s_law_cell_at) l4 c4 k4
  have b4 := F4.binds (ps := ["_law_script", "_law_k"]) fun _ _ _ _ _ _ us hl => match us, hl with | [_, _], _ => rfl
  have F5 := fun_mk (st := s_law_name) l5 c5 k5
  have b5 := F5.binds (ps := ["_law_k", "_law_cell"]) fun _ _ _ _ _ _ us hl => match us, hl with | [_, _], _ => rfl
  have F6 := fun_mk (st := s_law_tree) l6 c6 k6
  have b6 := F6.binds (ps := ["_law_script", "_law_size", "_law_wide", "_law_cell"]) fun _ _ _ _ _ _ us hl => match us, hl with | [_, _, _, _], _ => rfl
  have F7 := fun_mk (st := s_law_pick) l7 c7 k7
  have b7 := F7.binds (ps := ["_law_pick_here", "_law_size", "_law_cell"]) fun _ _ _ _ _ _ us hl => match us, hl with | [_, _, _], _ => rfl
  have F8 := fun_mk (st := s_law_way) l8 c8 k8
  have b8 := F8.binds (ps := ["_law_tree_here", "_law_folder"]) fun _ _ _ _ _ _ us hl => match us, hl with | [_, _], _ => rfl
  have F9 := fun_mk (st := s_law_same_tree) l9 c9 k9
  have b9 := F9.binds (ps := ["_law_found", "_law_due"]) fun _ _ _ _ _ _ us hl => match us, hl with | [_, _], _ => rfl
  have F10 := fun_mk (st := s_law) l10 c10 k10
  have b10 := F10.binds (ps := ["_law_script"]) fun _ _ _ _ _ _ us hl => match us, hl with | [_], _ => rfl
  refine ⟨PySem.W.fnOf "law" "law" (defArgs s_law) (defBody s_law) (defScope s_law) .none kV10 dc10 pm10 an10 cd10 ct10, fun s v => .of_eq rfl, fun base _ _ => ?_⟩
  exact ok_law ⟨f0, _, F0, b0, PySem.W.mg_of X G a0, f1, _, F1, b1, PySem.W.mg_of X G a1, f2, _, F2, b2, PySem.W.mg_of X G a2, f3, _, F3, b3, PySem.W.mg_of X G a3, f4, _, F4, b4, PySem.W.mg_of X G a4, f5, _, F5, b5, PySem.W.mg_of X G a5, f6, _, F6, b6, PySem.W.mg_of X G a6, f7, _, F7, b7, PySem.W.mg_of X G a7, f8, _, F8, b8, PySem.W.mg_of X G a8, f9, _, F9, b9, PySem.W.mg_of X G a9, fa, _, F10, b10, PySem.W.mg_of X G a10, PySem.W.mg_none_of X G z0, PySem.W.mg_none_of X G z1, PySem.W.mg_none_of X G z2, PySem.W.mg_none_of X G z3, PySem.W.mg_none_of X G z4, PySem.W.mg_none_of X G z5⟩
end Tm
open PySem PySem.W PyProof.Rows
set_option maxHeartbeats 0 in
theorem PySem.Challenge.cw_treemove_k03_put_holds : PySem.Challenge.rw_treemove_k03_put.Holds := by
  w_on; o_law; k_head; (case hw => w_witness2)
  k_fill
  refine L2.walk_of (l := PySem.Challenge.rw_treemove_k03_put) (n := 63) (k := 4) (x := "_law_script") (CX := fun _ => L2.CX0) (sp := fun w => Tm.sp_law _) rfl (by decide) rfl ⟨rfl, by decide, by decide⟩ (fun w h Y => PySem.W.kIn_of Y) ?F (fun _ _ a ns hl _ hS => ⟨a, ns, rfl, hS, hl, fun _ => rfl⟩) (fun _ _ _ _ _ h => h)
  case F =>
    intro w mg fa h KX G hmg
    refine' Tm.all_mk KX G hmg ?a0 ?l0 ?c0 ?k0 ?a1 ?l1 ?c1 ?k1 ?a2 ?l2 ?c2 ?k2 ?a3 ?l3 ?c3 ?k3 ?a4 ?l4 ?c4 ?k4 ?a5 ?l5 ?c5 ?k5 ?a6 ?l6 ?c6 ?k6 ?a7 ?l7 ?c7 ?k7 ?a8 ?l8 ?c8 ?k8 ?a9 ?l9 ?c9 ?k9 ?a10 ?l10 ?c10 ?k10 ?z0 ?z1 ?z2 ?z3 ?z4 ?z5
    (case a0 => k_is); (case l0 => k_is); (case c0 => k_is); (case k0 => k_is); (case a1 => k_is); (case l1 => k_is)
    (case c1 => k_is); (case k1 => k_is); (case a2 => k_is); (case l2 => k_is); (case c2 => k_is); (case k2 => k_is)
    (case a3 => k_is); (case l3 => k_is); (case c3 => k_is); (case k3 => k_is); (case a4 => k_is); (case l4 => k_is)
    (case c4 => k_is); (case k4 => k_is); (case a5 => k_is); (case l5 => k_is); (case c5 => k_is); (case k5 => k_is)
    (case a6 => k_is); (case l6 => k_is); (case c6 => k_is); (case k6 => k_is); (case a7 => k_is); (case l7 => k_is)
    (case c7 => k_is); (case k7 => k_is); (case a8 => k_is); (case l8 => k_is); (case c8 => k_is); (case k8 => k_is)
    (case a9 => k_is); (case l9 => k_is); (case c9 => k_is); (case k9 => k_is); (case a10 => k_is); (case l10 => k_is)
    (case c10 => k_is); (case k10 => k_is); (case z0 => k_is); (case z1 => k_is); (case z2 => k_is); (case z3 => k_is)
    (case z4 => k_is); (case z5 => k_is)
