import PyProof.Rows.All
import Wide.All
import OpenK.AllK
import Wide.FinOn
import HandS.ForMost
import HandS.IsInst
import HandS.More
import HandS.StrMore
import PySem.Challenge.RW_treemove_k06_written
set_option Elab.async false
set_option linter.all false
set_option maxRecDepth 100000
set_option pp.maxSteps 900
namespace Tm
open PySem PySem.Spec PyProof.Rows L2
def topS (i : Nat) : Stmt := PySem.Challenge.pw_treemove_k06_written.main.body.getD i (.Pass ⟨0, 0, 0, 0⟩)
abbrev s_is_number : Stmt := topS 5
theorem sc_is_number : FnScope ["thing", "least"] ["thing", "least"] (defScope s_is_number) := ⟨rfl, rfl, rfl, by decide +kernel, rfl, by decide +kernel, by decide +kernel⟩
abbrev s_is_move : Stmt := topS 6
theorem sc_is_move : FnScope ["thing", "time", "hand", "folder", "under"] ["thing"] (defScope s_is_move) := ⟨rfl, rfl, rfl, by decide +kernel, rfl, by decide +kernel, by decide +kernel⟩
abbrev s_written : Stmt := topS 7
theorem sc_written : FnScope ["move", "number"] ["move"] (defScope s_written) := ⟨rfl, rfl, rfl, by decide +kernel, rfl, by decide +kernel, by decide +kernel⟩
abbrev s_read : Stmt := topS 8
theorem sc_read : FnScope ["line", "words", "move", "word"] ["line"] (defScope s_read) := ⟨rfl, rfl, rfl, by decide +kernel, rfl, by decide +kernel, by decide +kernel⟩
abbrev s_is_figures : Stmt := topS 9
theorem sc_is_figures : FnScope ["word"] ["word"] (defScope s_is_figures) := ⟨rfl, rfl, rfl, by decide +kernel, rfl, by decide +kernel, by decide +kernel⟩
abbrev s_law_whole : Stmt := topS 11
theorem sc_law_whole : FnScope ["_law_found"] ["_law_found"] (defScope s_law_whole) := ⟨rfl, rfl, rfl, by decide +kernel, rfl, by decide +kernel, by decide +kernel⟩
abbrev s_law_cell_at : Stmt := topS 12
theorem sc_law_cell_at : FnScope ["_law_script", "_law_k"] ["_law_script", "_law_k"] (defScope s_law_cell_at) := ⟨rfl, rfl, rfl, by decide +kernel, rfl, by decide +kernel, by decide +kernel⟩
abbrev s_law_same_move : Stmt := topS 13
theorem sc_law_same_move : FnScope ["_law_found", "_law_due", "_law_k"] ["_law_found", "_law_due"] (defScope s_law_same_move) := ⟨rfl, rfl, rfl, by decide +kernel, rfl, by decide +kernel, by decide +kernel⟩
abbrev s_law_part : Stmt := topS 14
theorem sc_law_part : FnScope ["_law_cell", "_law_least"] ["_law_cell", "_law_least"] (defScope s_law_part) := ⟨rfl, rfl, rfl, by decide +kernel, rfl, by decide +kernel, by decide +kernel⟩
abbrev s_law : Stmt := topS 15
theorem sc_law : FnScope ["_law_script", "_law_move", "_law_found", "_law_due", "_law_k"] ["_law_script"] (defScope s_law) := ⟨rfl, rfl, rfl, by decide +kernel, rfl, by decide +kernel, by decide +kernel⟩
theorem st_is_number (v0 v1 : V) : L2.start ["thing", "least"] [v0, v1] = [some v0, some v1] := rfl
theorem st_is_move (v0 : V) : L2.start ["thing", "time", "hand", "folder", "under"] [v0] = [some v0, none, none, none, none] := rfl
theorem st_written (v0 : V) : L2.start ["move", "number"] [v0] = [some v0, none] := rfl
theorem st_read (v0 : V) : L2.start ["line", "words", "move", "word"] [v0] = [some v0, none, none, none] := rfl
theorem st_is_figures (v0 : V) : L2.start ["word"] [v0] = [some v0] := rfl
theorem st_law_whole (v0 : V) : L2.start ["_law_found"] [v0] = [some v0] := rfl
theorem st_law_cell_at (v0 v1 : V) : L2.start ["_law_script", "_law_k"] [v0, v1] = [some v0, some v1] := rfl
theorem st_law_same_move (v0 v1 : V) : L2.start ["_law_found", "_law_due", "_law_k"] [v0, v1] = [some v0, some v1, none] := rfl
theorem st_law_part (v0 v1 : V) : L2.start ["_law_cell", "_law_least"] [v0, v1] = [some v0, some v1] := rfl
theorem st_law (v0 : V) : L2.start ["_law_script", "_law_move", "_law_found", "_law_due", "_law_k"] [v0] = [some v0, none, none, none, none] := rfl
/-- what the top leaves -/
structure Tx (K : PySem.W.Frag) (mg : Str → Option Value) where
  a_is_number : Addr
  d_is_number : FuncData
  F_is_number : Fun K "is_number" "is_number" s_is_number a_is_number d_is_number
  b_is_number : Binds K d_is_number ["thing", "least"] []
  g_is_number : mg "is_number" = some (.ref a_is_number)
  a_is_move : Addr
  d_is_move : FuncData
  F_is_move : Fun K "is_move" "is_move" s_is_move a_is_move d_is_move
  b_is_move : Binds K d_is_move ["thing"] []
  g_is_move : mg "is_move" = some (.ref a_is_move)
  a_written : Addr
  d_written : FuncData
  F_written : Fun K "written" "written" s_written a_written d_written
  b_written : Binds K d_written ["move"] []
  g_written : mg "written" = some (.ref a_written)
  a_read : Addr
  d_read : FuncData
  F_read : Fun K "read" "read" s_read a_read d_read
  b_read : Binds K d_read ["line"] []
  g_read : mg "read" = some (.ref a_read)
  a_is_figures : Addr
  d_is_figures : FuncData
  F_is_figures : Fun K "_is_figures" "_is_figures" s_is_figures a_is_figures d_is_figures
  b_is_figures : Binds K d_is_figures ["word"] []
  g_is_figures : mg "_is_figures" = some (.ref a_is_figures)
  a_law_whole : Addr
  d_law_whole : FuncData
  F_law_whole : Fun K "_law_whole" "_law_whole" s_law_whole a_law_whole d_law_whole
  b_law_whole : Binds K d_law_whole ["_law_found"] []
  g_law_whole : mg "_law_whole" = some (.ref a_law_whole)
  a_law_cell_at : Addr
  d_law_cell_at : FuncData
  F_law_cell_at : Fun K "_law_cell_at" "_law_cell_at" s_law_cell_at a_law_cell_at d_law_cell_at
  b_law_cell_at : Binds K d_law_cell_at ["_law_script", "_law_k"] []
  g_law_cell_at : mg "_law_cell_at" = some (.ref a_law_cell_at)
  a_law_same_move : Addr
  d_law_same_move : FuncData
  F_law_same_move : Fun K "_law_same_move" "_law_same_move" s_law_same_move a_law_same_move d_law_same_move
  b_law_same_move : Binds K d_law_same_move ["_law_found", "_law_due"] []
  g_law_same_move : mg "_law_same_move" = some (.ref a_law_same_move)
  a_law_part : Addr
  d_law_part : FuncData
  F_law_part : Fun K "_law_part" "_law_part" s_law_part a_law_part d_law_part
  b_law_part : Binds K d_law_part ["_law_cell", "_law_least"] []
  g_law_part : mg "_law_part" = some (.ref a_law_part)
  a_law : Addr
  d_law : FuncData
  F_law : Fun K "law" "law" s_law a_law d_law
  b_law : Binds K d_law ["_law_script"] []
  g_law : mg "law" = some (.ref a_law)
  m_all : mg "all" = none
  m_bool : mg "bool" = none
  m_int : mg "int" = none
  m_isinstance : mg "isinstance" = none
  m_len : mg "len" = none
  m_range : mg "range" = none
  m_str : mg "str" = none
  m_tuple : mg "tuple" = none
  t_GREATEST : Tok
  c_GREATEST : mg "GREATEST" = some (.int 1000000000000000000000000000000000000000000000000000000000000 t_GREATEST)
/-! ### short readings -/
theorem isi {K : PySem.W.Frag} {H : Hp} {x : V} {t n : String} {b : Bool} {Q : VK} (ty : TyX K H x (.type t)) (e : kitB t n = some b) (q : Q (.bl b) H) : rIsi K [x, .ty n] H Q := ⟨x, .ty n, .type t, .type n, b, rfl, .ty n, ty, kit_ty e, q⟩
theorem kbb : kitB "bool" "bool" = some true := by decide +kernel
theorem kbi : kitB "bool" "int" = some true := by decide +kernel
theorem kii : kitB "int" "int" = some true := by decide +kernel
theorem kib : kitB "int" "bool" = some false := by decide +kernel
theorem kll : kitB "list" "list" = some true := by decide +kernel
theorem ktt : kitB "tuple" "tuple" = some true := by decide +kernel
theorem kdd : kitB "dict" "dict" = some true := by decide +kernel
theorem kss : kitB "str" "str" = some true := by decide +kernel
theorem same_upd {H : Hp} {p : Addr} {o : HO} (h : H p = none) : Same H (upd H p o) := fun b x e => by
  rw [upd_ne (ne_of_none e h)]
  exact e
/-- a change at an object that is new since H -/
theorem same_set {H H' : Hp} {p : Addr} {o : HO} (s : Same H H') (h : H p = none) : Same H (upd H' p o) := fun b x e => by
  rw [upd_ne (ne_of_none e h)]
  exact s b x e
theorem same_seqT {K : PySem.W.Frag} {H H' : Hp} {a : Addr} {xs : List V} (e : Same H H') (h : SqT K H a xs) : SqT K H' a xs := by
  rcases h with (h | ⟨o, h⟩) | h
  · exact .inl (.inl (e _ _ h))
  · exact .inl (.inr ⟨o, e _ _ h⟩)
  · exact .inr h
theorem p60 : (10 : Int) ^ (Int.toNat 60) = 1000000000000000000000000000000000000000000000000000000000000 := by decide +kernel
theorem ite_ne {x y : V} {A B : Prop} (e : x = y) (h : B) : if (!decide (x = y)) = true then A else B := by
  rw [decide_eq_true e]
  exact iteF h
theorem ite_eq {x y : V} {A B : Prop} (e : x = y) (h : A) : if decide (x = y) = true then A else B := by
  rw [decide_eq_true e]
  exact iteT h
local macro_rules | `(tactic| walk_at "cond") => `(tactic| first
  | assumption
  | exact Nat.le_of_ble_eq_true rfl
  | decide
  | omega
  | (dsimp only; first | decide | omega)
  | exact ⟨by decide, by decide, by decide⟩
  | exact ⟨by first | decide | omega, by first | decide | omega⟩
  | exact .inr ⟨by first | decide | omega, by first | decide | omega⟩
  | exact .inl ⟨by first | decide | omega, by first | decide | omega⟩)
local macro_rules | `(tactic| walk_at "rd1") => `(tactic| first
  | refine ⟨_, rfl, ?_⟩
  | refine ⟨_, _, rfl, rfl, ?_⟩
  | refine ⟨rfl, ?_⟩
  | refine ⟨_, _, rfl, ?_⟩
  | refine ⟨⟨_, rfl⟩, ?_⟩
  | refine ⟨(by walk_at "cond" : (_ : Prop)), ?_⟩
  | refine ⟨_, _, _, rfl, by assumption, by first | decide | omega, ?_⟩
  | refine ⟨_, _, rfl, by assumption, ?_⟩
  | refine ⟨_, _, _, _, _, rfl, .ty _, .base (.int _), kit_ty kii, ?_⟩
  | refine ⟨_, _, _, _, _, rfl, .ty _, .base (.int _), kit_ty kib, ?_⟩
  | refine ⟨_, _, _, _, _, rfl, .ty _, .base (.bl _), kit_ty kbb, ?_⟩
  | refine ⟨_, _, _, _, _, rfl, .ty _, .base (.bl _), kit_ty kbi, ?_⟩
  | refine ⟨_, _, _, _, _, rfl, .ty _, .base (.str _), kit_ty kss, ?_⟩
  | refine ⟨_, _, _, _, _, rfl, .ty _, .base (.lst (by assumption)), kit_ty kll, ?_⟩
  | refine ⟨_, _, _, _, _, rfl, .ty _, .base (.tup (by assumption)), kit_ty ktt, ?_⟩
  | refine ⟨_, _, _, _, _, rfl, .ty _, .base (.dK (by assumption)), kit_ty kdd, ?_⟩
  | refine ⟨_, _, _, _, rfl, rfl, by assumption, by first | exact atI_nat (j := 0) rfl | exact atI_nat (j := 1) rfl | exact atI_nat (j := 2) rfl | exact atI_nat (j := 3) rfl, ?_⟩
  | refine ⟨_, _, _, rfl, ?_⟩
  | refine iteF ?_
  | refine iteT ?_
  | refine ite_ne rfl ?_
  | refine ite_eq rfl ?_)
local macro_rules | `(tactic| walk_at "nm") => `(tactic| try dsimp only [List.set_cons_zero, List.set_cons_succ])
local macro_rules | `(tactic| walk_at "rd") => `(tactic| ((repeat (walk_at "rd1")); walk_at "nm"))

section
variable {P : Program} {w : World} {K : PySem.W.Frag} {mg : Str → Option Value} {base : Heap}
/-! ### _law_cell_at -/
def cellOf (ns : List Int) (k : Nat) : Int := ns.getD k 0
def sp_law_cell_at (K : PySem.W.Frag) : Sp := fun vs H Q _ => ∃ (a : Addr) (ns : List Int) (k : Int), vs = [.ref a, .int k] ∧ SqL K H a (ns.map V.int) ∧ 0 ≤ k ∧ Q (.int (cellOf ns k.toNat)) H
theorem ok_law_cell_at (T : Tx K mg) : FnOk P w K mg base CX0 1 T.a_law_cell_at T.d_law_cell_at ["_law_script", "_law_k"] (sp_law_cell_at K) := by
  refine T.F_law_cell_at.ok sc_law_cell_at (fun vs H Q E h => ?_) (fun cdv A outer s H vs Q E hr h => ?_)
  · obtain ⟨a, ns, k, rfl, _⟩ := h
    rfl
  · obtain ⟨a, ns, k, rfl, hS, hk, q⟩ := h
    obtain ⟨k, rfl⟩ := Int.eq_ofNat_of_zero_le hk
    refine ⟨_, pss_cons (ps_if (pt_cmpR op_lt (pv 1) (pe_callB call_len_seq (by rfl) T.m_len PySem.boot_len (pa_cons (pv 0) pa_nil)) (nomark _)) (pss_one (ps_ret (pe_ix ix_list (pv 0) (pv 1) (fun _ _ => rfl)))) pss_nil)
      (pss_one (ps_ret pe_int)), ?_⟩
    refine ⟨_, rfl, .ref a, rfl, a, _, rfl, .inl hS, _, _, rfl, rfl, _, rfl, ite2 (fun e => ?_) (fun e => ?_)⟩
    · have e1 := of_decide_eq_true e
      rw [List.length_map] at e1
      have h1 : k < ns.length := by omega
      refine ⟨_, rfl, _, rfl, a, _, _, _, rfl, rfl, hS, atI_nat (j := k) (v := .int ns[k]) (by rw [List.getElem?_map, List.getElem?_eq_getElem h1]; rfl), ?_⟩
      have e2 : cellOf ns k = ns[k] := by
        unfold cellOf
        rw [List.getD_eq_getElem?_getD, List.getElem?_eq_getElem h1]
        rfl
      have q' : Q (.int (cellOf ns k)) H := q
      rw [e2] at q'
      exact q'
    · have e1 : ¬ ((k : Int) < ((ns.map V.int).length : Nat)) := fun z => e (decide_eq_true z)
      rw [List.length_map] at e1
      have h1 : ns.length ≤ k := by omega
      have e2 : cellOf ns k = 0 := by
        unfold cellOf
        rw [List.getD_eq_getElem?_getD, List.getElem?_eq_none h1]
        rfl
      have q' : Q (.int (cellOf ns k)) H := q
      rw [e2] at q'
      exact q'

/-! ### values of a kind that is known -/
inductive Kd (H : Hp) : V → Prop where
  | int (i : Int) : Kd H (.int i)
  | bl (b : Bool) : Kd H (.bl b)
  | str (z : Str) : Kd H (.str z)
  | non : Kd H .non
  | lst {a : Addr} {xs : List V} (e : H a = some (.lst xs)) : Kd H (.ref a)
  | tup {a : Addr} {xs : List V} (e : H a = some (.tup xs)) : Kd H (.ref a)
  | dK {a : Addr} {kvs : List (Key × V)} (e : H a = some (.dK kvs)) : Kd H (.ref a)
theorem Kd.same {H H' : Hp} {v : V} (s : Same H H') (k : Kd H v) : Kd H' v := by
  cases k with
  | int i => exact .int i
  | bl b => exact .bl b
  | str z => exact .str z
  | non => exact .non
  | lst e => exact .lst (s _ _ e)
  | tup e => exact .tup (s _ _ e)
  | dK e => exact .dK (s _ _ e)
theorem Kd.set {H : Hp} {v : V} {p : Addr} {xs ys : List V} (h : H p = some (.lst xs)) (k : Kd H v) : Kd (upd H p (.lst ys)) v := by
  cases k with
  | int i => exact .int i
  | bl b => exact .bl b
  | str z => exact .str z
  | non => exact .non
  | @lst a zs e =>
    by_cases c : a = p
    · subst c
      exact .lst upd_same
    · exact .lst (by rw [upd_ne c]; exact e)
  | @tup a zs e => exact .tup (by rw [upd_ne (ne_of e h (fun z => nomatch z))]; exact e)
  | @dK a kvs e => exact .dK (by rw [upd_ne (ne_of e h (fun z => nomatch z))]; exact e)
theorem klb : kitB "list" "bool" = some false := by decide +kernel
theorem kli : kitB "list" "int" = some false := by decide +kernel
theorem klt : kitB "list" "tuple" = some false := by decide +kernel
theorem ktb : kitB "tuple" "bool" = some false := by decide +kernel
theorem kti : kitB "tuple" "int" = some false := by decide +kernel
theorem kdb : kitB "dict" "bool" = some false := by decide +kernel
theorem kdi : kitB "dict" "int" = some false := by decide +kernel
theorem kdt : kitB "dict" "tuple" = some false := by decide +kernel
theorem ksb : kitB "str" "bool" = some false := by decide +kernel
theorem ksi : kitB "str" "int" = some false := by decide +kernel
theorem kst : kitB "str" "tuple" = some false := by decide +kernel
theorem knb : kitB "NoneType" "bool" = some false := by decide +kernel
theorem kni : kitB "NoneType" "int" = some false := by decide +kernel
theorem knt : kitB "NoneType" "tuple" = some false := by decide +kernel
theorem kit' : kitB "int" "tuple" = some false := by decide +kernel
theorem kbt : kitB "bool" "tuple" = some false := by decide +kernel
/-- its answer to isinstance(v, bool), isinstance(v, int) -/
def isB : V → Bool
  | .bl _ => true
  | _ => false
def isI : V → Bool
  | .bl _ => true
  | .int _ => true
  | _ => false
theorem Kd.ty {K : PySem.W.Frag} {H : Hp} {v : V} (k : Kd H v) : ∃ t, TyX K H v (.type t) ∧ kitB t "bool" = some (isB v) ∧ kitB t "int" = some (isI v) := by
  cases k with
  | int i => exact ⟨_, .base (.int _), kib, kii⟩
  | bl b => exact ⟨_, .base (.bl _), kbb, kbi⟩
  | str z => exact ⟨_, .base (.str _), ksb, ksi⟩
  | non => exact ⟨_, .base .non, knb, kni⟩
  | lst e => exact ⟨_, .base (.lst e), klb, kli⟩
  | tup e => exact ⟨_, .base (.tup e), ktb, kti⟩
  | dK e => exact ⟨_, .base (.dK e), kdb, kdi⟩
/-- a tuple, or none -/
def noTup (H : Hp) (v : V) : Prop := (∃ i, v = .int i) ∨ (∃ b, v = .bl b) ∨ (∃ z, v = .str z) ∨ v = .non ∨ (∃ a xs, v = .ref a ∧ H a = some (.lst xs)) ∨ (∃ a kvs, v = .ref a ∧ H a = some (.dK kvs))
theorem noTup.ty {K : PySem.W.Frag} {H : Hp} {v : V} (k : noTup H v) : ∃ t, TyX K H v (.type t) ∧ kitB t "tuple" = some false := by
  rcases k with ⟨i, rfl⟩ | ⟨b, rfl⟩ | ⟨z, rfl⟩ | rfl | ⟨a, xs, rfl, e⟩ | ⟨a, kvs, rfl, e⟩
  · exact ⟨_, .base (.int _), kit'⟩
  · exact ⟨_, .base (.bl _), kbt⟩
  · exact ⟨_, .base (.str _), kst⟩
  · exact ⟨_, .base .non, knt⟩
  · exact ⟨_, .base (.lst e), klt⟩
  · exact ⟨_, .base (.dK e), kdt⟩
abbrev G60 : Int := 1000000000000000000000000000000000000000000000000000000000000
/-- a whole number from the least to the greatest -/
def numB (l : Int) : V → Bool
  | .int i => decide (l ≤ i) && decide (i ≤ G60)
  | _ => false
theorem numB_lo {l x : Int} (h : x < l) : numB l (.int x) = false := by
  show (decide (l ≤ x) && decide (x ≤ G60)) = false
  rw [decide_eq_false (show ¬ l ≤ x by omega), Bool.false_and]
theorem numB_hi {l x : Int} (h : G60 < x) : numB l (.int x) = false := by
  show (decide (l ≤ x) && decide (x ≤ G60)) = false
  rw [decide_eq_false (show ¬ x ≤ G60 from fun z => absurd h (Int.not_lt.mpr z)), Bool.and_false]
theorem numB_in {l x : Int} (h : ¬ x < l) (h' : ¬ G60 < x) : numB l (.int x) = true := by
  show (decide (l ≤ x) && decide (x ≤ G60)) = true
  rw [decide_eq_true (Int.not_lt.mp h), decide_eq_true (Int.not_lt.mp h')]
  rfl
/-! ### is_number -/
def sp_is_number (K : PySem.W.Frag) : Sp := fun vs H Q _ => ∃ (v : V) (l : Int), vs = [v, .int l] ∧ Kd H v ∧ Q (.bl (numB l v)) H
theorem ok_is_number (T : Tx K mg) : FnOk P w K mg base CX0 1 T.a_is_number T.d_is_number ["thing", "least"] (sp_is_number K) := by
  refine T.F_is_number.ok sc_is_number (fun vs H Q E h => ?_) (fun cdv A outer s H vs Q E hr h => ?_)
  · obtain ⟨v, l, rfl, _⟩ := h
    rfl
  · obtain ⟨v, l, rfl, kd, q⟩ := h
    refine ⟨_, pss_cons (ps_if (PW.pt (pw_or (pt_val (pe_callB call_isi (by rfl) T.m_isinstance (by decide +kernel) (pa_cons (pv 0) (pa_cons (pe_bltn (v := .ty "bool") (by rfl) T.m_bool (by decide +kernel) rfl) pa_nil)))) (pw_or1 (pt_not (pt_val (pe_callB call_isi (by rfl) T.m_isinstance (by decide +kernel) (pa_cons (pv 0) (pa_cons (pe_bltn (v := .ty "int") (by rfl) T.m_int (by decide +kernel) rfl) pa_nil)))))))) (pss_one (ps_ret pe_bl)) pss_nil)
      (pss_one (ps_ret (pe_chain op_le op_le (pv 1) (pv 0) (pe_glob (v := .int 1000000000000000000000000000000000000000000000000000000000000) rfl T.c_GREATEST ⟨_, rfl⟩)))), ?_⟩
    refine ⟨_, rfl, ?_⟩
    obtain ⟨t, ty, hb, hi⟩ := kd.ty (K := K)
    refine ⟨_, _, _, _, _, rfl, .ty _, ty, kit_ty hb, ?_⟩
    refine ⟨_, rfl, ?_⟩
    refine ite2 (fun e => ?_) (fun e => ?_)
    · cases kd <;> first | exact q | cases e
    · refine ⟨_, rfl, ?_⟩
      refine ⟨_, _, _, _, _, rfl, .ty _, ty, kit_ty hi, ?_⟩
      refine ⟨_, rfl, ?_⟩
      cases kd with
      | int i =>
        refine iteF ?_
        walk_at "rd"
        refine ite2 (fun e1 => ?_) (fun e1 => ?_)
        · walk_at "rd"
          have h1 : l ≤ i := of_decide_eq_true e1
          have q' : Q (.bl (decide (l ≤ i) && decide (i ≤ G60))) H := q
          rw [decide_eq_true h1, Bool.true_and] at q'
          exact q'
        · have h1 : ¬ l ≤ i := fun z => e1 (decide_eq_true z)
          have q' : Q (.bl (decide (l ≤ i) && decide (i ≤ G60))) H := q
          rw [decide_eq_false h1, Bool.false_and] at q'
          exact q'
      | bl b => exact absurd rfl e
      | _ => exact iteT q
/-! ### is_move -/
def moveB (a b c d : V) : Bool := (numB 1 a && numB 0 b) && (numB 1 c && numB 0 d)
def sp_is_move (K : PySem.W.Frag) : Sp := fun vs H Q _ => ∃ v : V, vs = [v] ∧
  ((∃ p a b c d, v = .ref p ∧ H p = some (.tup [a, b, c, d]) ∧ Kd H a ∧ Kd H b ∧ Kd H c ∧ Kd H d ∧ Q (.bl (moveB a b c d)) H) ∨
   (((∃ p xs, v = .ref p ∧ H p = some (.tup xs) ∧ xs.length ≠ 4) ∨ noTup H v) ∧ Q (.bl false) H))
theorem ok_is_move (T : Tx K mg) : FnOk P w K mg base CX0 2 T.a_is_move T.d_is_move ["thing"] (sp_is_move K) := by
  refine T.F_is_move.ok sc_is_move (fun vs H Q E h => ?_) (fun cdv A outer s H vs Q E hr h => ?_)
  · obtain ⟨v, rfl, _⟩ := h
    rfl
  · obtain ⟨v, rfl, h⟩ := h
    refine ⟨_, pss_cons (ps_if (PW.pt (pw_or (pt_not (pt_val (pe_callB call_isi (by rfl) T.m_isinstance (by decide +kernel) (pa_cons (pv 0) (pa_cons (pe_bltn (v := .ty "tuple") (by rfl) T.m_tuple (by decide +kernel) rfl) pa_nil))))) (pw_or1 (pt_cmpR op_ne (pe_callB call_len_seq (by rfl) T.m_len PySem.boot_len (pa_cons (pv 0) pa_nil)) pe_int (nomark _))))) (pss_one (ps_ret pe_bl)) pss_nil)
      (pss_cons (ps_asg (pv 0) (pg_tup (by rfl) (pgs_cons (pg_name (i := 1) sc_is_move.nd rfl (Or.inl rfl)) (pgs_cons (pg_name (i := 2) sc_is_move.nd rfl (Or.inl rfl)) (pgs_cons (pg_name (i := 3) sc_is_move.nd rfl (Or.inl rfl)) (pgs_cons (pg_name (i := 4) sc_is_move.nd rfl (Or.inl rfl)) pgs_nil))))))
      (pss_cons (ps_if (PW.pt (pw_or (pt_not (pt_val (pe_call (ok_is_number T) (hr.mono (by decide)) (by rfl) T.g_is_number T.F_is_number.kp T.b_is_number .nil pass0 (pa_cons (pv 1) (pa_cons pe_int pa_nil))))) (pw_or1 (pt_not (pt_val (pe_call (ok_is_number T) (hr.mono (by decide)) (by rfl) T.g_is_number T.F_is_number.kp T.b_is_number .nil pass0 (pa_cons (pv 2) (pa_cons pe_int pa_nil)))))))) (pss_one (ps_ret pe_bl)) pss_nil)
      (pss_one (ps_ret (pe_and (pe_call (ok_is_number T) (hr.mono (by decide)) (by rfl) T.g_is_number T.F_is_number.kp T.b_is_number .nil pass0 (pa_cons (pv 3) (pa_cons pe_int pa_nil))) (pe_one (pe_call (ok_is_number T) (hr.mono (by decide)) (by rfl) T.g_is_number T.F_is_number.kp T.b_is_number .nil pass0 (pa_cons (pv 4) (pa_cons pe_int pa_nil))))))))), ?_⟩
    refine ⟨_, rfl, ?_⟩
    rcases h with ⟨p, a, b, c, d, rfl, ht, ka, kb, kc, kd, q⟩ | ⟨⟨p, xs, rfl, ht, hl⟩ | hn, q⟩
    · refine ⟨_, _, _, _, _, rfl, .ty _, .base (.tup ht), kit_ty ktt, ?_⟩
      refine ⟨_, rfl, iteF ?_⟩
      refine ⟨_, rfl, p, _, rfl, .inr (SqT.of ht), rfl, _, rfl, iteF ?_⟩
      refine ⟨_, rfl, p, _, rfl, SqT.of ht, rfl, ?_⟩
      walk_at "rd"
      have q1 : Q (.bl ((numB 1 a && numB 0 b) && (numB 1 c && numB 0 d))) H := q
      cases e1 : numB 1 a with
      | false =>
        rw [e1] at q1
        exact iteT q1
      | true =>
        refine iteF ?_
        walk_at "rd"
        cases e2 : numB 0 b with
        | false =>
          rw [e1, e2] at q1
          exact iteT q1
        | true =>
          refine iteF ?_
          rw [e1, e2] at q1
          walk_at "rd"
          cases e3 : numB 1 c with
          | false =>
            rw [e3] at q1
            exact iteF q1
          | true =>
            rw [e3] at q1
            refine iteT ?_
            walk_at "rd"
            exact q1
    · refine ⟨_, _, _, _, _, rfl, .ty _, .base (.tup ht), kit_ty ktt, ?_⟩
      refine ⟨_, rfl, iteF ?_⟩
      refine ⟨_, rfl, p, _, rfl, .inr (SqT.of ht), rfl, _, rfl, ?_⟩
      refine ite2 (fun _ => q) (fun e => absurd ?_ e)
      show (!decide (V.int xs.length = V.int 4)) = true
      rw [decide_eq_false (fun z => hl (by have := V.int.inj z; omega))]
      rfl
    · obtain ⟨t, ty, ht⟩ := hn.ty (K := K)
      refine ⟨_, _, _, _, _, rfl, .ty _, ty, kit_ty ht, ?_⟩
      exact ⟨_, rfl, iteT q⟩

/-! ### texts -/
abbrev sp1 : Str := " "
abbrev st0 : Str := "0"
def strI (i : Int) : Str := toString i
def writ (xs : List Int) : Str := Txt.join sp1 (xs.map strI)
theorem log_ok {i : Int} (h0 : 0 ≤ i) (h1 : i ≤ G60) : i.natAbs.log2 < 1920 := by
  by_cases e : i.natAbs = 0
  · rw [e]
    decide
  · rw [Nat.log2_lt e]
    have h2 : i.natAbs ≤ 1000000000000000000000000000000000000000000000000000000000000 := by
      have : i ≤ (1000000000000000000000000000000000000000000000000000000000000 : Int) := h1
      omega
    exact Nat.lt_of_le_of_lt h2 (by decide +kernel)
theorem strI_len {i : Int} (h0 : 0 ≤ i) (h1 : i ≤ G60) : (strI i).length ≤ 61 := by
  obtain ⟨n, rfl⟩ := Int.eq_ofNat_of_zero_le h0
  have h2 : n < 10 ^ 61 := by
    have : (n : Int) ≤ (1000000000000000000000000000000000000000000000000000000000000 : Int) := h1
    omega
  have h := TL.numL_len (by decide) h2
  show (Str.ofString (toString ((n : Nat) : Int))).length ≤ 61
  rw [TL.len_tl, TL.tl_num]
  exact h
theorem sum_le : ∀ {l : List Str}, (∀ z ∈ l, z.length ≤ 61) → (l.map (·.length)).sum ≤ 61 * l.length
  | [], _ => Nat.le_refl _
  | z :: l, h => by
    have h1 := h z (List.mem_cons_self ..)
    have h2 := sum_le (l := l) fun y hy => h y (List.mem_cons_of_mem _ hy)
    rw [List.map_cons, List.sum_cons, List.length_cons]
    omega
theorem split_writ {xs : List Int} (hne : xs ≠ []) (h0 : ∀ x ∈ xs, 0 ≤ x) : Txt.split (writ xs) sp1 = xs.map strI := by
  refine TL.split_join (s := 32) (S := []) rfl (by decide +kernel) (fun e => hne (List.map_eq_nil_iff.mp e)) fun z hz => ?_
  obtain ⟨x, hx, rfl⟩ := List.mem_map.mp hz
  obtain ⟨n, rfl⟩ := Int.eq_ofNat_of_zero_le (h0 x hx)
  show 32 ∉ TL.tl (Str.ofString (toString ((n : Nat) : Int)))
  rw [TL.tl_num]
  exact TL.numL_free (.inl (by decide))
theorem int_strI {i : Int} (h0 : 0 ≤ i) (h1 : i ≤ G60) : PySem.intText? (strI i) = some i := by
  have hl := strI_len h0 h1
  obtain ⟨n, rfl⟩ := Int.eq_ofNat_of_zero_le h0
  refine TL.int_num ?_
  have e : (strI ((n : Nat) : Int)).length = (TL.numL n).length := by
    show (Str.ofString (toString ((n : Nat) : Int))).length = _
    rw [TL.len_tl, TL.tl_num]
  omega
theorem g61 : (strI G60).length = 61 := by decide +kernel
/-- what _is_figures answers -/
def figB (z : Str) : Bool := (Txt.isascii z && Txt.isdigit z) && (!(Txt.startswith z st0 && !decide (V.str z = V.str st0)) && decide ((z.length : Int) ≤ 61))
/-! ### written -/
def sp_written (K : PySem.W.Frag) : Sp := fun vs H Q _ => ∃ (p : Addr) (xs : List Int), vs = [.ref p] ∧ SqT K H p (xs.map V.int) ∧ xs.length ≤ 10 ∧ (∀ x ∈ xs, 0 ≤ x ∧ x ≤ G60) ∧ ∀ H', Same H H' → Q (.str (writ xs)) H'
theorem ok_written (T : Tx K mg) : FnOk P w K mg base CX0 1 T.a_written T.d_written ["move"] (sp_written K) := by
  refine T.F_written.ok sc_written (fun vs H Q E h => ?_) (fun cdv A outer s H vs Q E hr h => ?_)
  · obtain ⟨p, xs, rfl, _⟩ := h
    rfl
  · obtain ⟨p, xs, rfl, hS, hl, hx, q⟩ := h
    refine ⟨_, pss_one (ps_ret (pe_join pe_str (pe_lc (own := [("number", 1)]) (g := gName 1) (tt := tYes) rfl sc_written.nd (pi_tup (pv 0)) (blkOk_by (own := [("number", 1)]) (N := ["move", "number"]) (sc := defScope s_written) (by decide +kernel)) (fun _ _ _ _ _ => pg_name (i := 1) sc_written.nd rfl (Or.inl rfl)) (fun _ _ _ _ _ => pts_nil) (fun _ _ _ _ _ => pe_callTy call_str_int (by rfl) T.m_str (by decide +kernel) (pa_cons (pv 1) pa_nil))))), ?_⟩
    rw [st_written]
    refine ⟨⟨_, rfl⟩, ?_⟩
    refine ⟨.ref p, rfl, p, rfl, ⟨_, hS⟩, fun D nD => ?_⟩
    have sD := fun o => same_upd (o := o) nD
    refine lc_tup (K := K) (a := p) (xs := xs.map V.int) (fun i H2 => Same H H2 ∧ H2 D = some (.lst (((xs.take i).map strI).map V.str)))
      ⟨sD _, upd_same⟩ (fun i H2 _ h => same_seqT h.1 hS) ?_ ?_
    · rintro i x H2 hi ⟨s2, hD⟩
      obtain ⟨j, hj, rfl⟩ : ∃ j, xs[i]? = some j ∧ x = .int j := by
        rw [List.getElem?_map] at hi
        cases e : xs[i]? with
        | none =>
          rw [e] at hi
          cases hi
        | some z =>
          rw [e] at hi
          exact ⟨z, rfl, (Option.some.inj hi).symm⟩
      have hxj := hx j (List.mem_of_getElem? hj)
      refine ⟨rfl, ?_⟩
      refine ⟨_, rfl, j, rfl, log_ok hxj.1 hxj.2, ?_⟩
      refine ⟨_, hD, small1000 (by rw [List.length_map, List.length_map, List.length_take]; omega), same_set s2 nD, ?_⟩
      rw [upd_same, List.take_add_one, hj, List.map_append, List.map_append]
      rfl
    · rintro H2 ⟨s2, hD⟩
      rw [List.length_map, List.take_length] at hD
      refine ⟨sp1, D, xs.map strI, rfl, rfl, .inl (SqL.of hD), ?_, ?_⟩
      · have h1 := sum_le (l := xs.map strI) fun z hz => by
          obtain ⟨x, hx', rfl⟩ := List.mem_map.mp hz
          exact strI_len (hx x hx').1 (hx x hx').2
        have h2 : sp1.length = 1 := rfl
        rw [List.length_map] at h1 ⊢
        rw [h2]
        omega
      · exact q H2 s2
def sp_is_figures (K : PySem.W.Frag) : Sp := fun vs H Q _ => ∃ z, vs = [.str z] ∧ z.length ≤ sizeLine ∧ Q (.bl (figB z)) H
theorem ok_is_figures (T : Tx K mg) : FnOk P w K mg base CX0 1 T.a_is_figures T.d_is_figures ["word"] (sp_is_figures K) := by
  refine T.F_is_figures.ok sc_is_figures (fun vs H Q E h => ?_) (fun cdv A outer s H vs Q E hr h => ?_)
  · obtain ⟨z, rfl, _⟩ := h
    rfl
  · obtain ⟨z, rfl, hz, q⟩ := h
    refine ⟨_, pss_cons (ps_if (PW.pt (pw_or (pt_not (pt_val (pe_m0 PySem.F.slot_str_isascii PySem.F.type_str_isascii mt_isascii (pv 0)))) (pw_or1 (pt_not (pt_val (pe_m0 PySem.F.slot_str_isdigit PySem.F.type_str_isdigit mt_isdigit (pv 0))))))) (pss_one (ps_ret pe_bl)) pss_nil)
      (pss_cons (ps_if (PW.pt (pw_and (pt_val (pe_m1 PySem.F.slot_str_startswith PySem.F.type_str_startswith mt_startswith (pv 0) pe_str)) (pw_and1 (pt_cmpR op_ne (pv 0) pe_str (nomark _))))) (pss_one (ps_ret pe_bl)) pss_nil)
      (pss_one (ps_ret (pe_cmpR op_le (pe_callB call_len (by rfl) T.m_len PySem.boot_len (pa_cons (pv 0) pa_nil)) (pe_callB call_len (by rfl) T.m_len PySem.boot_len (pa_cons (pe_callTy call_str_int (by rfl) T.m_str (by decide +kernel) (pa_cons (pe_glob (v := .int 1000000000000000000000000000000000000000000000000000000000000) rfl T.c_GREATEST ⟨_, rfl⟩) pa_nil)) pa_nil)) (nomark _))))), ?_⟩
    rw [st_is_figures]
    unfold figB at q
    walk_at "rd"
    cases e1 : Txt.isascii z with
    | false =>
      rw [e1] at q
      walk_at "rd"
      exact q
    | true =>
    rw [e1] at q
    walk_at "rd"
    cases e2 : Txt.isdigit z with
    | false =>
      rw [e2] at q
      walk_at "rd"
      exact q
    | true =>
    rw [e2] at q
    walk_at "rd"
    have last : ∀ b, Txt.startswith z st0 = b → (b && !decide (V.str z = V.str st0)) = false → Q (.bl (decide ((z.length : Int) ≤ 61))) H := fun b e3 e => by
      rw [e3, e] at q
      exact q
    cases e3 : Txt.startswith z st0 with
    | true =>
      walk_at "rd"
      cases e4 : decide (V.str z = V.str st0) with
      | false =>
        walk_at "rd"
        rw [e3, e4] at q
        exact q
      | true =>
        walk_at "rd"
        refine ⟨_, _, rfl, ⟨hz, rfl⟩, ?_⟩
        refine ⟨_, rfl, log_ok (by decide) (by decide), _, _, rfl, ⟨by rw [show (Str.ofString (toString G60)).length = 61 from g61]; decide, rfl⟩, ?_⟩
        walk_at "rd"
        rw [show (Str.ofString (toString G60)).length = 61 from g61]
        exact last true e3 (by rw [e4]; rfl)
    | false =>
      walk_at "rd"
      refine ⟨_, _, rfl, ⟨hz, rfl⟩, ?_⟩
      refine ⟨_, rfl, log_ok (by decide) (by decide), _, _, rfl, ⟨by rw [show (Str.ofString (toString G60)).length = 61 from g61]; decide, rfl⟩, ?_⟩
      walk_at "rd"
      rw [show (Str.ofString (toString G60)).length = 61 from g61]
      exact last false e3 rfl

theorem dig_yes : ∀ c, c < 128 → (Unicode.isDigit c = decide (48 ≤ c ∧ c ≤ 57)) := by decide +kernel
theorem sw0 (z : Str) : Txt.startswith z st0 = true ↔ ∃ r, TL.tl z = 48 :: r := by
  have h := TL.at_iff (x := z) (y := st0) (by decide) 0
  have h0 : Txt.startswith z st0 = true ↔ PySem.StrLaws.At z st0 z.length 0 := by
    unfold Txt.startswith PySem.StrLaws.At
    rw [Bool.and_eq_true, decide_eq_true_iff]
  rw [h0, h]
  show ((TL.tl z).take 1 == [48]) = true ↔ _
  cases e : TL.tl z with
  | nil =>
    constructor
    · intro h
      cases h
    · rintro ⟨r, h⟩
      cases h
  | cons c r =>
    constructor
    · intro h
      have h2 : [c] = [48] := eq_of_beq h
      cases h2
      exact ⟨r, rfl⟩
    · rintro ⟨r', h⟩
      cases h
      rfl
theorem tl_st0 : TL.tl st0 = [48] := rfl
theorem figB_iff (z : Str) : figB z = true ↔ TL.tl z ≠ [] ∧ NumText.AllDigits (TL.tl z) ∧ (∀ r, TL.tl z = 48 :: r → r = []) ∧ z.length ≤ 61 := by
  unfold figB Txt.isascii Txt.isdigit
  have hl := TL.len_tl z
  rw [← Array.all_toList, ← Array.all_toList]
  rw [Bool.and_eq_true, Bool.and_eq_true, Bool.and_eq_true, Bool.and_eq_true, List.all_eq_true, List.all_eq_true, decide_eq_true_iff]
  constructor
  · rintro ⟨⟨h1, h2, h3⟩, h4, h5⟩
    refine ⟨fun e => ?_, fun c hc => ?_, fun r e => ?_, ?_⟩
    · rw [e] at hl
      have : 0 < z.length := h2
      rw [hl] at this
      exact absurd this (by decide)
    · have a := of_decide_eq_true (h1 c hc)
      have b := h3 c hc
      rw [dig_yes c a] at b
      exact of_decide_eq_true b
    · rw [(sw0 z).mpr ⟨r, e⟩, Bool.true_and, Bool.not_not] at h4
      have e2 : z = st0 := V.str.inj (of_decide_eq_true h4)
      rw [e2, tl_st0] at e
      cases e
      rfl
    · have := of_decide_eq_true h5
      omega
  · rintro ⟨h1, h2, h3, h4⟩
    refine ⟨⟨fun c hc => ?_, ?_, fun c hc => ?_⟩, ?_, ?_⟩
    · have := h2 c hc
      exact decide_eq_true (by omega)
    · show 0 < z.length
      rw [hl]
      exact List.length_pos_iff.mpr h1
    · have := h2 c hc
      rw [dig_yes c (by omega)]
      exact decide_eq_true this
    · cases e : Txt.startswith z st0 with
      | false => rfl
      | true =>
        obtain ⟨r, er⟩ := (sw0 z).mp e
        have := h3 r er
        subst this
        have e2 : z = st0 := TL.ext_tl (er.trans tl_st0.symm)
        rw [e2, decide_eq_true rfl]
        rfl
    · exact decide_eq_true (by omega)
theorem numL_head : ∀ (m n : Nat), n ≤ m → ∀ r, TL.numL n = 48 :: r → n = 0
  | m, n, hm, r, e => by
    by_cases h : n < 10
    · rw [TL.numL_lt h] at e
      have := List.cons.inj e
      omega
    · cases m with
      | zero => omega
      | succ m =>
        rw [TL.numL_step (by omega)] at e
        cases e2 : TL.numL (n / 10) with
        | nil => exact absurd e2 (TL.numL_ne _)
        | cons c q =>
          rw [e2, List.cons_append] at e
          have e3 := (List.cons.inj e).1
          subst e3
          have := numL_head m (n / 10) (by omega) q e2
          omega
theorem figB_strI {i : Int} (h0 : 0 ≤ i) (h1 : i ≤ G60) : figB (strI i) = true := by
  have hl := strI_len h0 h1
  obtain ⟨n, rfl⟩ := Int.eq_ofNat_of_zero_le h0
  have e : TL.tl (strI ((n : Nat) : Int)) = TL.numL n := TL.tl_num n
  rw [figB_iff, e]
  refine ⟨TL.numL_ne n, TL.numL_digits n, fun r er => ?_, hl⟩
  have := numL_head n n (Nat.le_refl n) r er
  subst this
  rw [TL.numL_lt (by decide)] at er
  exact (List.cons.inj er).2.symm

/-! ### read, of a text that is a move written -/
def sp_read (K : PySem.W.Frag) : Sp := fun vs H Q _ => ∃ a b c d : Int, vs = [.str (writ [a, b, c, d])] ∧ (∀ x ∈ [a, b, c, d], 0 ≤ x ∧ x ≤ G60) ∧ moveB (.int a) (.int b) (.int c) (.int d) = true ∧ ∀ H' p, Same H H' → H p = none → H' p = some (.tup [.int a, .int b, .int c, .int d]) → Q (.ref p) H'
theorem writ_len {xs : List Int} (hl : xs.length ≤ 4) (h : ∀ x ∈ xs, 0 ≤ x ∧ x ≤ G60) : (writ xs).length ≤ 500 := by
  unfold writ
  rw [TL.join_eq]
  have key : ∀ l : List Str, (∀ z ∈ l, z.length ≤ 61) → (Str.join sp1 l).length ≤ 62 * l.length := by
    intro l
    induction l with
    | nil => intro _; exact Nat.zero_le _
    | cons x l ih =>
      intro hz
      cases l with
      | nil =>
        show x.length ≤ _
        have := hz x (List.mem_cons_self ..)
        simp only [List.length_cons, List.length_nil]
        omega
      | cons y l =>
        have h1 := hz x (List.mem_cons_self ..)
        have h2 := ih fun z hz' => hz z (List.mem_cons_of_mem _ hz')
        show (x ++ sp1 ++ Str.join sp1 (y :: l)).length ≤ _
        rw [TL.len_tl, TL.tl_append, TL.tl_append, List.length_append, List.length_append, ← TL.len_tl, ← TL.len_tl, ← TL.len_tl, List.length_cons]
        have h3 : sp1.length = 1 := rfl
        omega
  have h1 := key (xs.map strI) fun z hz => by
    obtain ⟨x, hx, rfl⟩ := List.mem_map.mp hz
    exact strI_len (h x hx).1 (h x hx).2
  rw [List.length_map] at h1
  omega
set_option maxHeartbeats 2000000 in
theorem ok_read (T : Tx K mg) : FnOk P w K mg base CX0 3 T.a_read T.d_read ["line"] (sp_read K) := by
  refine T.F_read.ok sc_read (fun vs H Q E h => ?_) (fun cdv A outer s H vs Q E hr h => ?_)
  · obtain ⟨a, b, c, d, rfl, _⟩ := h
    rfl
  · obtain ⟨a, b, c, d, rfl, hx, hm, q⟩ := h
    refine ⟨_, pss_cons (ps_set (i := 1) sc_read.nd rfl (.inl rfl) (pe_split (pv 0) pe_str))
      (pss_cons (ps_if (pt_not (pt_val (pe_callB (cr_all rfl) (by rfl) T.m_all (by decide +kernel) (pa_cons (pe_lc (own := [("word", 3)]) (g := gName 3) (tt := tYes) rfl sc_read.nd (pi_list (pv 1)) (blkOk_by (own := [("word", 3)]) (N := ["line", "words", "move", "word"]) (sc := defScope s_read) (by decide +kernel)) (fun _ _ _ _ _ => pg_name (i := 3) sc_read.nd rfl (Or.inl rfl)) (fun _ _ _ _ _ => pts_nil) (fun _ _ _ _ _ => pe_call (ok_is_figures T) (hr.mono (by decide)) (by rfl) T.g_is_figures T.F_is_figures.kp T.b_is_figures .nil pass0 (pa_cons (pv 3) pa_nil))) pa_nil)))) (pss_one ps_never) pss_nil)
      (pss_cons (ps_set (i := 2) sc_read.nd rfl (.inl rfl) (pe_callTy call_tuple_of (by rfl) T.m_tuple (by decide +kernel) (pa_cons (pe_lc (own := [("word", 3)]) (g := gName 3) (tt := tYes) rfl sc_read.nd (pi_list (pv 1)) (blkOk_by (own := [("word", 3)]) (N := ["line", "words", "move", "word"]) (sc := defScope s_read) (by decide +kernel)) (fun _ _ _ _ _ => pg_name (i := 3) sc_read.nd rfl (Or.inl rfl)) (fun _ _ _ _ _ => pts_nil) (fun _ _ _ _ _ => pe_callTy call_int_str (by rfl) T.m_int (by decide +kernel) (pa_cons (pv 3) pa_nil))) pa_nil)))
      (pss_cons (ps_if (pt_not (pt_val (pe_call (ok_is_move T) (hr.mono (by decide)) (by rfl) T.g_is_move T.F_is_move.kp T.b_is_move .nil pass0 (pa_cons (pv 2) pa_nil)))) (pss_one ps_never) pss_nil)
      (pss_one (ps_ret (pv 2)))))), ?_⟩
    rw [st_read]
    have hlen := writ_len (xs := [a, b, c, d]) (Nat.le_refl 4) hx
    walk_at "rd"
    refine ⟨Nat.le_trans (Nat.add_le_add_right hlen 2) (by decide), fun p np => ?_⟩
    rw [show Txt.split (writ [a, b, c, d]) (Str.ofString " ") = [a, b, c, d].map strI from split_writ (fun e => nomatch e) fun x h => (hx x h).1]
    have sp := same_upd (o := HO.lst (([a, b, c, d].map strI).map V.str)) np
    have hW : ∀ (H' : Hp), Same (upd H p (HO.lst (([a, b, c, d].map strI).map V.str))) H' → SqL K H' p ([strI a, strI b, strI c, strI d].map V.str) := fun H' s' => SqL.of (s' _ _ upd_same)
    -- all([_is_figures(word) ..])
    refine ⟨_, rfl, p, rfl, ⟨_, hW _ (Same.refl _)⟩, fun D nD => ?_⟩
    have sD := fun o => same_upd (o := o) nD
    refine lc_list (K := K) (a := p) (xs := [strI a, strI b, strI c, strI d].map V.str) (fun i H2 => Same (upd H p (HO.lst (([a, b, c, d].map strI).map V.str))) H2 ∧ H2 D = some (.lst ((List.replicate i true).map V.bl)))
      ⟨sD _, upd_same⟩ (fun i H2 _ h => hW H2 h.1) ?_ ?_
    · rintro i x H2 hi ⟨s2, hD⟩
      obtain ⟨j, hj, rfl⟩ : ∃ j, j ∈ [a, b, c, d] ∧ x = .str (strI j) := by
        have hm := List.mem_of_getElem? hi
        rcases List.mem_map.mp hm with ⟨z, hz, rfl⟩
        rcases List.mem_map.mp (show z ∈ [a, b, c, d].map strI from hz) with ⟨j, hj, rfl⟩
        exact ⟨j, hj, rfl⟩
      have hil : i < 4 := (List.getElem?_eq_some_iff.mp hi).1
      refine ⟨rfl, ?_⟩
      refine ⟨_, rfl, strI j, rfl, Nat.le_trans (strI_len (hx j hj).1 (hx j hj).2) (by decide), ?_⟩
      rw [figB_strI (hx j hj).1 (hx j hj).2]
      refine ⟨_, hD, small1000 (by rw [List.length_map, List.length_replicate]; omega), same_set s2 nD, ?_⟩
      rw [upd_same, List.replicate_succ', List.map_append]
      rfl
    · rintro H2 ⟨s2, hD⟩
      refine ⟨D, [true, true, true, true], rfl, SqL.of hD, ?_⟩
      walk_at "rd"
      refine ⟨⟨_, hW _ s2⟩, fun F nF => ?_⟩
      have sF := fun o => same_upd (o := o) nF
      refine lc_list (K := K) (a := p) (xs := [strI a, strI b, strI c, strI d].map V.str) (fun i H3 => Same (upd H p (HO.lst (([a, b, c, d].map strI).map V.str))) H3 ∧ H3 F = some (.lst (([a, b, c, d].take i).map V.int)))
        ⟨s2.trans (sF _), upd_same⟩ (fun i H3 _ h => hW H3 h.1) ?_ ?_
      · rintro i x H3 hi ⟨s3, hF⟩
        obtain ⟨j, hij, rfl⟩ : ∃ j, [a, b, c, d][i]? = some j ∧ x = .str (strI j) := by
          have hi : (([a, b, c, d].map strI).map V.str)[i]? = some x := hi
          rw [List.getElem?_map, List.getElem?_map] at hi
          cases e : [a, b, c, d][i]? with
          | none =>
            rw [e] at hi
            cases hi
          | some z =>
            rw [e] at hi
            exact ⟨z, rfl, (Option.some.inj hi).symm⟩
        have hj := hx j (List.mem_of_getElem? hij)
        have hil : i < 4 := (List.getElem?_eq_some_iff.mp hij).1
        refine ⟨rfl, ?_⟩
        refine ⟨_, rfl, strI j, j, rfl, int_strI hj.1 hj.2, Nat.le_trans (strI_len hj.1 hj.2) (by decide), ?_⟩
        refine ⟨_, hF, small1000 (by rw [List.length_map, List.length_take]; omega), same_set s3 (s2.free nF), ?_⟩
        rw [upd_same, List.take_add_one, hij, List.map_append]
        rfl
      · rintro H3 ⟨s3, hF⟩
        refine ⟨F, _, rfl, .inl ⟨SqL.of hF, fun l nl => ?_⟩⟩
        have hl : (upd H3 l (HO.tup ((List.take 4 [a, b, c, d]).map V.int))) l = some (.tup [.int a, .int b, .int c, .int d]) := upd_same
        walk_at "rd"
        refine .inl ⟨l, _, _, _, _, rfl, hl, .int _, .int _, .int _, .int _, ?_⟩
        rw [hm]
        walk_at "rd"
        exact q _ _ ((sp.trans s3).trans (same_upd nl)) ((sp.trans s3).free nl) hl

/-! ### the law's own -/
def leastOf (k : Nat) : Int := 1 - (k : Int) % 2
def sp_law_part (K : PySem.W.Frag) : Sp := fun vs H Q _ => ∃ (c l : Int), vs = [.int c, .int l] ∧ 0 ≤ l ∧ l ≤ 1 ∧ ∀ r, l ≤ r → r ≤ G60 → Q (.int r) H
theorem ok_law_part (T : Tx K mg) : FnOk P w K mg base CX0 1 T.a_law_part T.d_law_part ["_law_cell", "_law_least"] (sp_law_part K) := by
  refine T.F_law_part.ok sc_law_part (fun vs H Q E h => ?_) (fun cdv A outer s H vs Q E hr h => ?_)
  · obtain ⟨c, l, rfl, _⟩ := h
    rfl
  · obtain ⟨c, l, rfl, hl0, hl, q⟩ := h
    refine ⟨_, pss_cons (ps_if (pt_cmpR op_eq (pe_op op_mod (pv 0) pe_int) pe_int (nomark _)) (pss_one (ps_ret (pe_op op_add (pv 1) (pe_op op_mod (pe_op op_fdiv (pv 0) pe_int) pe_int)))) pss_nil)
      (pss_cons (ps_if (pt_cmpR op_eq (pe_op op_mod (pv 0) pe_int) pe_int (nomark _)) (pss_one (ps_ret (pe_op op_add (pv 1) (pe_op op_mod (pe_op op_fdiv (pv 0) pe_int) (pe_op op_sub (pe_op op_add (pe_op op_pow pe_int pe_int) pe_int) (pv 1)))))) pss_nil)
      (pss_one (ps_ret (pe_op op_pow pe_int pe_int)))), ?_⟩
    rw [st_law_part]
    have hp := p60
    have hG : G60 = 1000000000000000000000000000000000000000000000000000000000000 := rfl
    walk_at "rd"
    refine ite2 (fun _ => ?_) (fun _ => ?_)
    · walk_at "rd"
      exact q _ (by omega) (by omega)
    walk_at "rd"
    refine ite2 (fun _ => ?_) (fun _ => ?_)
    · walk_at "rd"
      have h1 := Int.emod_nonneg (c / 3) (show (10 : Int) ^ Int.toNat 60 + 1 - l ≠ 0 by omega)
      have h2 := Int.emod_lt_of_pos (c / 3) (show 0 < (10 : Int) ^ Int.toNat 60 + 1 - l by omega)
      exact q _ (by omega) (by omega)
    walk_at "rd"
    exact q _ (by omega) (by omega)
def sp_law_whole (K : PySem.W.Frag) : Sp := fun vs H Q _ => ∃ i : Int, vs = [.int i] ∧ Q (.bl true) H
theorem ok_law_whole (T : Tx K mg) : FnOk P w K mg base CX0 1 T.a_law_whole T.d_law_whole ["_law_found"] (sp_law_whole K) := by
  refine T.F_law_whole.ok sc_law_whole (fun vs H Q E h => ?_) (fun cdv A outer s H vs Q E hr h => ?_)
  · obtain ⟨i, rfl, _⟩ := h
    rfl
  · obtain ⟨i, rfl, q⟩ := h
    refine ⟨_, pss_one (ps_ret (pe_and (pe_callB call_isi (by rfl) T.m_isinstance (by decide +kernel) (pa_cons (pv 0) (pa_cons (pe_bltn (v := .ty "int") (by rfl) T.m_int (by decide +kernel) rfl) pa_nil))) (pe_one (pe_not (pe_callB call_isi (by rfl) T.m_isinstance (by decide +kernel) (pa_cons (pv 0) (pa_cons (pe_bltn (v := .ty "bool") (by rfl) T.m_bool (by decide +kernel) rfl) pa_nil))))))), ?_⟩
    walk_at "rd"
    exact q
def sp_law_same_move (K : PySem.W.Frag) : Sp := fun vs H Q _ => ∃ (p q : Addr) (xs : List Int), vs = [.ref p, .ref q] ∧ H p = some (.tup (xs.map V.int)) ∧ H q = some (.tup (xs.map V.int)) ∧ xs.length = 4 ∧ Q (.bl true) H
set_option maxHeartbeats 1000000 in
theorem ok_law_same_move (T : Tx K mg) : FnOk P w K mg base CX0 2 T.a_law_same_move T.d_law_same_move ["_law_found", "_law_due"] (sp_law_same_move K) := by
  refine T.F_law_same_move.ok sc_law_same_move (fun vs H Q E h => ?_) (fun cdv A outer s H vs Q E hr h => ?_)
  · obtain ⟨p, q, xs, rfl, _⟩ := h
    rfl
  · obtain ⟨a, b, l, rfl, ha, hb, hl, q⟩ := h
    refine ⟨_, pss_cons (ps_if (PW.pt (pw_or (pt_not (pt_val (pe_callB call_isi (by rfl) T.m_isinstance (by decide +kernel) (pa_cons (pv 0) (pa_cons (pe_bltn (v := .ty "tuple") (by rfl) T.m_tuple (by decide +kernel) rfl) pa_nil))))) (pw_or1 (pt_cmpR op_ne (pe_callB call_len_seq (by rfl) T.m_len PySem.boot_len (pa_cons (pv 0) pa_nil)) pe_int (nomark _))))) (pss_one (ps_ret pe_bl)) pss_nil)
      (pss_cons (ps_for PassesOwn.never rfl (pi_range1 (by rfl) T.m_range (pa_cons pe_int pa_nil)) (pg_name (i := 2) sc_law_same_move.nd rfl (Or.inl rfl)) (pss_one (ps_if (PW.pt (pw_or (pt_not (pt_val (pe_call (ok_law_whole T) (hr.mono (by decide)) (by rfl) T.g_law_whole T.F_law_whole.kp T.b_law_whole .nil pass0 (pa_cons (pe_ix ix_tup (pv 0) (pv 2) (fun _ _ => rfl)) pa_nil)))) (pw_or1 (pt_cmpR op_ne (pe_ix ix_tup (pv 0) (pv 2) (fun _ _ => rfl)) (pe_ix ix_tup (pv 1) (pv 2) (fun _ _ => rfl)) (nomark _))))) (pss_one (ps_ret pe_bl)) pss_nil)))
      (pss_one (ps_ret pe_bl))), ?_⟩
    rw [st_law_same_move]
    walk_at "rd"
    refine ⟨a, _, rfl, .inr (SqT.of ha), rfl, _, rfl, ?_⟩
    rw [List.length_map, hl]
    refine ite_ne rfl ?_
    refine ⟨4, rfl, by decide, by decide, for_range (n := 4) (fun i σ H2 => ∃ v2, σ = [some (.ref a), some (.ref b), v2] ∧ H2 = H) ⟨none, rfl, rfl⟩ ?_ ?_⟩
    · rintro i σ H2 hi ⟨v2, rfl, rfl⟩
      rw [Int.zero_add]
      have g : (l.map V.int)[i]? = some (.int l[i]) := by
        rw [List.getElem?_map, List.getElem?_eq_getElem (by omega)]
        rfl
      have at1 := atI_nat g
      walk_at "rd"
      refine ⟨a, _, _, _, rfl, rfl, SqT.of ha, at1, ?_⟩
      walk_at "rd"
      refine ⟨a, _, _, _, rfl, rfl, SqT.of ha, at1, ?_⟩
      walk_at "rd"
      refine ⟨b, _, _, _, rfl, rfl, SqT.of hb, at1, ?_⟩
      walk_at "rd"
    · rintro σ H2 ⟨v2, rfl, rfl⟩
      exact q
theorem cat_len (x y : Str) : (x ++ y).length = x.length + y.length := by
  rw [TL.len_tl, TL.len_tl, TL.len_tl, TL.tl_append, List.length_append]
theorem due_eq (a b c d : Int) : strI a ++ sp1 ++ strI b ++ sp1 ++ strI c ++ sp1 ++ strI d = writ [a, b, c, d] := by
  unfold writ
  rw [TL.join_eq]
  show strI a ++ sp1 ++ strI b ++ sp1 ++ strI c ++ sp1 ++ strI d = strI a ++ sp1 ++ (strI b ++ sp1 ++ (strI c ++ sp1 ++ strI d))
  refine TL.ext_tl ?_
  simp only [TL.tl_append, List.append_assoc]
def sp_law (K : PySem.W.Frag) : Sp := fun vs H Q _ => ∃ (a : Addr) (ns : List Int), vs = [.ref a] ∧ SqL K H a (ns.map V.int) ∧ ns.length ≤ 63 ∧ ∀ H', Q (.bl true) H'
set_option maxHeartbeats 1000000 in
theorem ok_law (T : Tx K mg) : FnOk P w K mg base CX0 4 T.a_law T.d_law ["_law_script"] (sp_law K) := by
  refine T.F_law.ok sc_law (fun vs H Q E h => ?_) (fun cdv A outer s H vs Q E hr h => ?_)
  · obtain ⟨a, ns, rfl, _⟩ := h
    rfl
  · obtain ⟨a, ns, rfl, hS, hlen, k⟩ := h
    refine ⟨_, pss_cons (ps_set (i := 1) sc_law.nd rfl (.inl rfl) (pe_callTy call_tuple_of (by rfl) T.m_tuple (by decide +kernel) (pa_cons (pe_lc (own := [("_law_k", 4)]) (g := gName 4) (tt := tYes) rfl sc_law.nd (pi_range1 (by rfl) T.m_range (pa_cons pe_int pa_nil)) (blkOk_by (own := [("_law_k", 4)]) (N := ["_law_script", "_law_move", "_law_found", "_law_due", "_law_k"]) (sc := defScope s_law) (by decide +kernel)) (fun _ _ _ _ _ => pg_name (i := 4) sc_law.nd rfl (Or.inl rfl)) (fun _ _ _ _ _ => pts_nil) (fun _ _ _ _ _ => pe_call (ok_law_part T) (hr.mono (by decide)) (by rfl) T.g_law_part T.F_law_part.kp T.b_law_part .nil pass0 (pa_cons (pe_call (ok_law_cell_at T) (hr.mono (by decide)) (by rfl) T.g_law_cell_at T.F_law_cell_at.kp T.b_law_cell_at .nil pass0 (pa_cons (pv 0) (pa_cons (pv 4) pa_nil))) (pa_cons (pe_op op_sub pe_int (pe_op op_mod (pv 4) pe_int)) pa_nil)))) pa_nil)))
      (pss_cons (ps_set (i := 2) sc_law.nd rfl (.inl rfl) (pe_call (ok_written T) (hr.mono (by decide)) (by rfl) T.g_written T.F_written.kp T.b_written .nil pass0 (pa_cons (pv 1) pa_nil)))
      (pss_cons (ps_set (i := 3) sc_law.nd rfl (.inl rfl) (pe_op op_add_str (pe_op op_add_str (pe_op op_add_str (pe_op op_add_str (pe_op op_add_str (pe_op op_add_str (pe_callTy call_str_int (by rfl) T.m_str (by decide +kernel) (pa_cons (pe_ix ix_tup (pv 1) pe_int (fun _ _ => rfl)) pa_nil)) pe_str) (pe_callTy call_str_int (by rfl) T.m_str (by decide +kernel) (pa_cons (pe_ix ix_tup (pv 1) pe_int (fun _ _ => rfl)) pa_nil))) pe_str) (pe_callTy call_str_int (by rfl) T.m_str (by decide +kernel) (pa_cons (pe_ix ix_tup (pv 1) pe_int (fun _ _ => rfl)) pa_nil))) pe_str) (pe_callTy call_str_int (by rfl) T.m_str (by decide +kernel) (pa_cons (pe_ix ix_tup (pv 1) pe_int (fun _ _ => rfl)) pa_nil))))
      (pss_cons (ps_if (PW.pt (pw_or (pt_not (pt_val (pe_callB call_isi (by rfl) T.m_isinstance (by decide +kernel) (pa_cons (pv 2) (pa_cons (pe_bltn (v := .ty "str") (by rfl) T.m_str (by decide +kernel) rfl) pa_nil))))) (pw_or1 (pt_cmpR op_ne (pv 2) (pv 3) (nomark _))))) (pss_one (ps_ret pe_bl)) pss_nil)
      (pss_one (ps_ret (pe_call (ok_law_same_move T) (hr.mono (by decide)) (by rfl) T.g_law_same_move T.F_law_same_move.kp T.b_law_same_move .nil pass0 (pa_cons (pe_call (ok_read T) (hr.mono (by decide)) (by rfl) T.g_read T.F_read.kp T.b_read .nil pass0 (pa_cons (pv 3) pa_nil)) (pa_cons (pv 1) pa_nil)))))))), ?_⟩
    rw [st_law]
    refine ⟨4, rfl, by decide, by decide, fun D nD => ?_⟩
    have sD := fun o => same_upd (o := o) nD
    refine lc_range (lo := 0) (n := 4) (fun i H2 => ∃ xs : List Int, xs.length = i ∧ (∀ (j : Nat) (x : Int), xs[j]? = some x → leastOf j ≤ x ∧ x ≤ G60) ∧ Same H H2 ∧ H2 D = some (.lst (xs.map V.int)))
      ⟨[], rfl, fun j x h => (by simp at h), sD _, upd_same⟩ ?_ ?_
    · rintro i H2 hi ⟨xs, hxl, hxs, s2, hD⟩
      have hS2 := s2.seq hS
      rw [Int.zero_add]
      refine ⟨rfl, ?_⟩
      walk_at "rd"
      intro r hr0 hr1
      refine ⟨_, hD, small1000 (by rw [List.length_map, hxl]; omega), xs ++ [r], by rw [List.length_append, hxl]; rfl, fun j x hj => ?_, same_set s2 nD, ?_⟩
      · by_cases hlt : j < xs.length
        · rw [List.getElem?_append_left hlt] at hj
          exact hxs j x hj
        · rw [List.getElem?_append_right (by omega)] at hj
          have hj0 : j - xs.length = 0 := by
            have := (List.getElem?_eq_some_iff.mp hj).1
            simp only [List.length_cons, List.length_nil] at this
            omega
          rw [hj0] at hj
          have e : r = x := Option.some.inj hj
          subst e
          have ej : j = i := by omega
          subst ej
          exact ⟨hr0, hr1⟩
      · rw [upd_same, List.map_append]
        rfl
    · rintro H2 ⟨xs, hxl, hxs, s2, hD⟩
      obtain ⟨a', b, c, d, rfl⟩ : ∃ w0 w1 w2 w3, xs = [w0, w1, w2, w3] := by
        match xs, hxl with
        | [w0, w1, w2, w3], _ => exact ⟨w0, w1, w2, w3, rfl⟩
      have ra := hxs 0 a' rfl
      have rb := hxs 1 b rfl
      have rc := hxs 2 c rfl
      have rd' := hxs 3 d rfl
      have l0 : leastOf 0 = 1 := rfl
      have l1 : leastOf 1 = 0 := rfl
      have l2 : leastOf 2 = 1 := rfl
      have l3 : leastOf 3 = 0 := rfl
      rw [l0] at ra
      rw [l1] at rb
      rw [l2] at rc
      rw [l3] at rd'
      have hx : ∀ x ∈ [a', b, c, d], 0 ≤ x ∧ x ≤ G60 := fun x hx => by
        simp only [List.mem_cons, List.mem_nil_iff, or_false] at hx
        rcases hx with rfl | rfl | rfl | rfl
        · exact ⟨by omega, ra.2⟩
        · exact rb
        · exact ⟨by omega, rc.2⟩
        · exact rd'
      have hm : moveB (.int a') (.int b) (.int c) (.int d) = true := by
        have n1 : ∀ {l x : Int}, l ≤ x → x ≤ G60 → numB l (.int x) = true := fun h1 h2 => numB_in (Int.not_lt.mpr h1) (Int.not_lt.mpr h2)
        unfold moveB
        rw [n1 ra.1 ra.2, n1 rb.1 rb.2, n1 rc.1 rc.2, n1 rd'.1 rd'.2]
        rfl
      refine ⟨D, _, rfl, .inl ⟨SqL.of hD, fun m nm => ?_⟩⟩
      have sm := fun o => same_upd (o := o) nm
      have hM : (upd H2 m (HO.tup ([a', b, c, d].map V.int))) m = some (.tup ([a', b, c, d].map V.int)) := upd_same
      walk_at "rd"
      refine ⟨m, [a', b, c, d], rfl, SqT.of hM, Nat.le_of_ble_eq_true rfl, hx, fun H3 s3 => ?_⟩
      have hM3 := s3 _ _ hM
      have T3 : SqT K H3 m [.int a', .int b, .int c, .int d] := SqT.of hM3
      have g0 := log_ok (hx a' (by simp)).1 (hx a' (by simp)).2
      have g1 := log_ok (hx b (by simp)).1 (hx b (by simp)).2
      have g2 := log_ok (hx c (by simp)).1 (hx c (by simp)).2
      have g3 := log_ok (hx d (by simp)).1 (hx d (by simp)).2
      have q0 : (Str.ofString (toString a')).length ≤ 61 := strI_len (hx a' (by simp)).1 (hx a' (by simp)).2
      have q1 : (Str.ofString (toString b)).length ≤ 61 := strI_len (hx b (by simp)).1 (hx b (by simp)).2
      have q2 : (Str.ofString (toString c)).length ≤ 61 := strI_len (hx c (by simp)).1 (hx c (by simp)).2
      have q3 : (Str.ofString (toString d)).length ≤ 61 := strI_len (hx d (by simp)).1 (hx d (by simp)).2
      have hsp : (Str.ofString " ").length = 1 := rfl
      have big : 1000 ≤ sizeLine := by decide
      have z1 : (Str.ofString (toString a')).length + (Str.ofString " ").length ≤ sizeLine := by
        refine Nat.le_trans ?_ big
        omega
      have z2 : (Str.ofString (toString a') ++ Str.ofString " ").length + (Str.ofString (toString b)).length ≤ sizeLine := by
        refine Nat.le_trans ?_ big
        rw [cat_len]
        omega
      have z3 : (Str.ofString (toString a') ++ Str.ofString " " ++ Str.ofString (toString b)).length + (Str.ofString " ").length ≤ sizeLine := by
        refine Nat.le_trans ?_ big
        rw [cat_len, cat_len]
        omega
      have z4 : (Str.ofString (toString a') ++ Str.ofString " " ++ Str.ofString (toString b) ++ Str.ofString " ").length + (Str.ofString (toString c)).length ≤ sizeLine := by
        refine Nat.le_trans ?_ big
        rw [cat_len, cat_len, cat_len]
        omega
      have z5 : (Str.ofString (toString a') ++ Str.ofString " " ++ Str.ofString (toString b) ++ Str.ofString " " ++ Str.ofString (toString c)).length + (Str.ofString " ").length ≤ sizeLine := by
        refine Nat.le_trans ?_ big
        rw [cat_len, cat_len, cat_len, cat_len]
        omega
      walk_at "rd"
      refine ⟨?_, ?_⟩
      · refine Nat.le_trans ?_ big
        rw [cat_len, cat_len, cat_len, cat_len, cat_len]
        omega
      have ed : Str.ofString (toString a') ++ Str.ofString " " ++ Str.ofString (toString b) ++ Str.ofString " " ++ Str.ofString (toString c) ++ Str.ofString " " ++ Str.ofString (toString d) = writ [a', b, c, d] := due_eq a' b c d
      rw [ed]
      generalize hz : writ [a', b, c, d] = zz
      walk_at "rd"
      refine ⟨a', b, c, d, by rw [hz]; rfl, hx, hm, fun H4 p s4 np hp => ?_⟩
      walk_at "rd"
      exact ⟨p, m, [a', b, c, d], rfl, hp, s4 _ _ hM3, rfl, k _⟩

end
theorem all_mk {l : PySem.W.OpenLaw} {w : World} {K : PySem.W.Frag} {h : Heap} {mg : Str → Option Value} {fa : Addr} (X : K.In h) (G : h.Ns mainGlobals mg) (hfa : mg "law" = some (.ref fa))
    {f0 : Addr} {od0 an0 : Option Addr} {sl0 : Array (Option Value)} {oc0 kV0 dc0 pm0 cd0 ct0 : Value} {f1 : Addr} {od1 an1 : Option Addr} {sl1 : Array (Option Value)} {oc1 kV1 dc1 pm1 cd1 ct1 : Value} {f2 : Addr} {od2 an2 : Option Addr} {sl2 : Array (Option Value)} {oc2 kV2 dc2 pm2 cd2 ct2 : Value} {f3 : Addr} {od3 an3 : Option Addr} {sl3 : Array (Option Value)} {oc3 kV3 dc3 pm3 cd3 ct3 : Value} {f4 : Addr} {od4 an4 : Option Addr} {sl4 : Array (Option Value)} {oc4 kV4 dc4 pm4 cd4 ct4 : Value} {f5 : Addr} {od5 an5 : Option Addr} {sl5 : Array (Option Value)} {oc5 kV5 dc5 pm5 cd5 ct5 : Value} {f6 : Addr} {od6 an6 : Option Addr} {sl6 : Array (Option Value)} {oc6 kV6 dc6 pm6 cd6 ct6 : Value} {f7 : Addr} {od7 an7 : Option Addr} {sl7 : Array (Option Value)} {oc7 kV7 dc7 pm7 cd7 ct7 : Value} {f8 : Addr} {od8 an8 : Option Addr} {sl8 : Array (Option Value)} {oc8 kV8 dc8 pm8 cd8 ct8 : Value} {f9 : Addr} {od9 an9 : Option Addr} {sl9 : Array (Option Value)} {oc9 kV9 dc9 pm9 cd9 ct9 : Value}
    (a0 : PySem.W.nsIn K mainGlobals "is_number" = some (some (.ref f0))) (l0 : K.lookup f0 = some ⟨oc0, od0, .func (PySem.W.fnOf "is_number" "is_number" (defArgs s_is_number) (defBody s_is_number) (defScope s_is_number) .none kV0 dc0 pm0 an0 cd0 ct0), sl0⟩) (c0 : PySem.W.codeIn K cd0 "is_number" = true) (k0 : PySem.W.keepIn K (.ref f0) = true)
    (a1 : PySem.W.nsIn K mainGlobals "is_move" = some (some (.ref f1))) (l1 : K.lookup f1 = some ⟨oc1, od1, .func (PySem.W.fnOf "is_move" "is_move" (defArgs s_is_move) (defBody s_is_move) (defScope s_is_move) .none kV1 dc1 pm1 an1 cd1 ct1), sl1⟩) (c1 : PySem.W.codeIn K cd1 "is_move" = true) (k1 : PySem.W.keepIn K (.ref f1) = true)
    (a2 : PySem.W.nsIn K mainGlobals "written" = some (some (.ref f2))) (l2 : K.lookup f2 = some ⟨oc2, od2, .func (PySem.W.fnOf "written" "written" (defArgs s_written) (defBody s_written) (defScope s_written) .none kV2 dc2 pm2 an2 cd2 ct2), sl2⟩) (c2 : PySem.W.codeIn K cd2 "written" = true) (k2 : PySem.W.keepIn K (.ref f2) = true)
    (a3 : PySem.W.nsIn K mainGlobals "read" = some (some (.ref f3))) (l3 : K.lookup f3 = some ⟨oc3, od3, .func (PySem.W.fnOf "read" "read" (defArgs s_read) (defBody s_read) (defScope s_read) .none kV3 dc3 pm3 an3 cd3 ct3), sl3⟩) (c3 : PySem.W.codeIn K cd3 "read" = true) (k3 : PySem.W.keepIn K (.ref f3) = true)
    (a4 : PySem.W.nsIn K mainGlobals "_is_figures" = some (some (.ref f4))) (l4 : K.lookup f4 = some ⟨oc4, od4, .func (PySem.W.fnOf "_is_figures" "_is_figures" (defArgs s_is_figures) (defBody s_is_figures) (defScope s_is_figures) .none kV4 dc4 pm4 an4 cd4 ct4), sl4⟩) (c4 : PySem.W.codeIn K cd4 "_is_figures" = true) (k4 : PySem.W.keepIn K (.ref f4) = true)
    (a5 : PySem.W.nsIn K mainGlobals "_law_whole" = some (some (.ref f5))) (l5 : K.lookup f5 = some ⟨oc5, od5, .func (PySem.W.fnOf "_law_whole" "_law_whole" (defArgs s_law_whole) (defBody s_law_whole) (defScope s_law_whole) .none kV5 dc5 pm5 an5 cd5 ct5), sl5⟩) (c5 : PySem.W.codeIn K cd5 "_law_whole" = true) (k5 : PySem.W.keepIn K (.ref f5) = true)
    (a6 : PySem.W.nsIn K mainGlobals "_law_cell_at" = some (some (.ref f6))) (l6 : K.lookup f6 = some ⟨oc6, od6, .func (PySem.W.fnOf "_law_cell_at" "_law_cell_at" (defArgs s_law_cell_at) (defBody s_law_cell_at) (defScope s_law_cell_at) .none kV6 dc6 pm6 an6 cd6 ct6), sl6⟩) (c6 : PySem.W.codeIn K cd6 "_law_cell_at" = true) (k6 : PySem.W.keepIn K (.ref f6) = true)
    (a7 : PySem.W.nsIn K mainGlobals "_law_same_move" = some (some (.ref f7))) (l7 : K.lookup f7 = some ⟨oc7, od7, .func (PySem.W.fnOf "_law_same_move" "_law_same_move" (defArgs s_law_same_move) (defBody s_law_same_move) (defScope s_law_same_move) .none kV7 dc7 pm7 an7 cd7 ct7), sl7⟩) (c7 : PySem.W.codeIn K cd7 "_law_same_move" = true) (k7 : PySem.W.keepIn K (.ref f7) = true)
    (a8 : PySem.W.nsIn K mainGlobals "_law_part" = some (some (.ref f8))) (l8 : K.lookup f8 = some ⟨oc8, od8, .func (PySem.W.fnOf "_law_part" "_law_part" (defArgs s_law_part) (defBody s_law_part) (defScope s_law_part) .none kV8 dc8 pm8 an8 cd8 ct8), sl8⟩) (c8 : PySem.W.codeIn K cd8 "_law_part" = true) (k8 : PySem.W.keepIn K (.ref f8) = true)
    (a9 : PySem.W.nsIn K mainGlobals "law" = some (some (.ref f9))) (l9 : K.lookup f9 = some ⟨oc9, od9, .func (PySem.W.fnOf "law" "law" (defArgs s_law) (defBody s_law) (defScope s_law) .none kV9 dc9 pm9 an9 cd9 ct9), sl9⟩) (c9 : PySem.W.codeIn K cd9 "law" = true) (k9 : PySem.W.keepIn K (.ref f9) = true)
    (z0 : PySem.W.nsIn K mainGlobals "all" = some none)
    (z1 : PySem.W.nsIn K mainGlobals "bool" = some none)
    (z2 : PySem.W.nsIn K mainGlobals "int" = some none)
    (z3 : PySem.W.nsIn K mainGlobals "isinstance" = some none)
    (z4 : PySem.W.nsIn K mainGlobals "len" = some none)
    (z5 : PySem.W.nsIn K mainGlobals "range" = some none)
    (z6 : PySem.W.nsIn K mainGlobals "str" = some none)
    (z7 : PySem.W.nsIn K mainGlobals "tuple" = some none)
    {t0 : Tok} (v0 : PySem.W.nsIn K mainGlobals "GREATEST" = some (some (.int 1000000000000000000000000000000000000000000000000000000000000 t0)))
    : ∃ fd : FuncData, (∀ (s : Shared) (v : Value), BindsTo s fd ⟨[v], []⟩ [("_law_script", v)]) ∧ ∀ base : Heap, K.In base → base.Ns mainGlobals mg → FnOk l.prog w K mg base CX0 4 fa fd ["_law_script"] (sp_law K) := by
  have e := hfa.symm.trans (PySem.W.mg_of X G a9)
  cases e
  have F0 := fun_mk (st := s_is_number) l0 c0 k0
  have b0 := F0.binds (ps := ["thing", "least"]) fun _ _ _ _ _ _ us hl => match us, hl with | [_, _], _ => rfl
  have F1 := fun_mk (st := s_is_move) l1 c1 k1
  have b1 := F1.binds (ps := ["thing"]) fun _ _ _ _ _ _ us hl => match us, hl with | [_], _ => rfl
  have F2 := fun_mk (st := s_written) l2 c2 k2
  have b2 := F2.binds (ps := ["move"]) fun _ _ _ _ _ _ us hl => match us, hl with | [_], _ => rfl
  have F3 := fun_mk (st := s_read) l3 c3 k3
  have b3 := F3.binds (ps := ["line"]) fun _ _ _ _ _ _ us hl => match us, hl with | [_], _ => rfl
  have F4 := fun_mk (st := s_is_figures) l4 c4 k4
  have b4 := F4.binds (ps := ["word"]) fun _ _ _ _ _ _ us hl => match us, hl with | [_], _ => rfl
  have F5 := fun_mk (st := s_law_whole) l5 c5 k5
  have b5 := F5.binds (ps := ["_law_found"]) fun _ _ _ _ _ _ us hl => match us, hl with | [_], _ => rfl
  have F6 := fun_mk (st := s_law_cell_at) l6 c6 k6
  have b6 := F6.binds (ps := ["_law_script", "_law_k"]) fun _ _ _ _ _ _ us hl => match us, hl with | [_, _], _ => rfl
  have F7 := fun_mk (st := s_law_same_move) l7 c7 k7
  have b7 := F7.binds (ps := ["_law_found", "_law_due"]) fun _ _ _ _ _ _ us hl => match us, hl with | [_, _], _ => rfl
  have F8 := fun_mk (st := s_law_part) l8 c8 k8
  have b8 := F8.binds (ps := ["_law_cell", "_law_least"]) fun _ _ _ _ _ _ us hl => match us, hl with | [_, _], _ => rfl
  have F9 := fun_mk (st := s_law) l9 c9 k9
  have b9 := F9.binds (ps := ["_law_script"]) fun _ _ _ _ _ _ us hl => match us, hl with | [_], _ => rfl
  refine ⟨PySem.W.fnOf "law" "law" (defArgs s_law) (defBody s_law) (defScope s_law) .none kV9 dc9 pm9 an9 cd9 ct9, fun s v => .of_eq rfl, fun base _ _ => ?_⟩
  exact ok_law ⟨f0, _, F0, b0, PySem.W.mg_of X G a0, f1, _, F1, b1, PySem.W.mg_of X G a1, f2, _, F2, b2, PySem.W.mg_of X G a2, f3, _, F3, b3, PySem.W.mg_of X G a3, f4, _, F4, b4, PySem.W.mg_of X G a4, f5, _, F5, b5, PySem.W.mg_of X G a5, f6, _, F6, b6, PySem.W.mg_of X G a6, f7, _, F7, b7, PySem.W.mg_of X G a7, f8, _, F8, b8, PySem.W.mg_of X G a8, fa, _, F9, b9, PySem.W.mg_of X G a9, PySem.W.mg_none_of X G z0, PySem.W.mg_none_of X G z1, PySem.W.mg_none_of X G z2, PySem.W.mg_none_of X G z3, PySem.W.mg_none_of X G z4, PySem.W.mg_none_of X G z5, PySem.W.mg_none_of X G z6, PySem.W.mg_none_of X G z7, t0, PySem.W.mg_of X G v0⟩
end Tm
open PySem PySem.W PyProof.Rows
set_option maxHeartbeats 0 in
theorem PySem.Challenge.cw_treemove_k06_written_holds : PySem.Challenge.rw_treemove_k06_written.Holds := by
  w_on; o_law; k_head; (case hw => w_witness2)
  k_fill
  refine L2.walk_of (l := PySem.Challenge.rw_treemove_k06_written) (n := 63) (k := 4) (x := "_law_script") (CX := fun _ => L2.CX0) (sp := fun w => Tm.sp_law _) rfl (by decide) rfl ⟨rfl, by decide, by decide⟩ (fun w h Y => PySem.W.kIn_of Y) ?F (fun _ _ a ns hl _ hS => ⟨a, ns, rfl, hS, hl, fun _ => rfl⟩) (fun _ _ _ _ _ h => h)
  case F =>
    intro w mg fa h KX G hmg
    refine' Tm.all_mk KX G hmg ?a0 ?l0 ?c0 ?k0 ?a1 ?l1 ?c1 ?k1 ?a2 ?l2 ?c2 ?k2 ?a3 ?l3 ?c3 ?k3 ?a4 ?l4 ?c4 ?k4 ?a5 ?l5 ?c5 ?k5 ?a6 ?l6 ?c6 ?k6 ?a7 ?l7 ?c7 ?k7 ?a8 ?l8 ?c8 ?k8 ?a9 ?l9 ?c9 ?k9 ?z0 ?z1 ?z2 ?z3 ?z4 ?z5 ?z6 ?z7 ?v0
    (case a0 => k_is); (case l0 => k_is); (case c0 => k_is); (case k0 => k_is); (case a1 => k_is); (case l1 => k_is)
    (case c1 => k_is); (case k1 => k_is); (case a2 => k_is); (case l2 => k_is); (case c2 => k_is); (case k2 => k_is)
    (case a3 => k_is); (case l3 => k_is); (case c3 => k_is); (case k3 => k_is); (case a4 => k_is); (case l4 => k_is)
    (case c4 => k_is); (case k4 => k_is); (case a5 => k_is); (case l5 => k_is); (case c5 => k_is); (case k5 => k_is)
    (case a6 => k_is); (case l6 => k_is); (case c6 => k_is); (case k6 => k_is); (case a7 => k_is); (case l7 => k_is)
    (case c7 => k_is); (case k7 => k_is); (case a8 => k_is); (case l8 => k_is); (case c8 => k_is); (case k8 => k_is)
    (case a9 => k_is); (case l9 => k_is); (case c9 => k_is); (case k9 => k_is); (case z0 => k_is); (case z1 => k_is)
    (case z2 => k_is); (case z3 => k_is); (case z4 => k_is); (case z5 => k_is); (case z6 => k_is); (case z7 => k_is)
    (case v0 => k_is)
