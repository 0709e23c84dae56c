import PyProof.Rows.All
import Wide.All
import OpenK.AllK
import Wide.FinOn
import HandS.ForMost
import HandS.ForExc
import HandS.IsInst
import HandS.More
import HandS.StrMore
import HandS.ExcIs
import PySem.Challenge.RW_treemove_k07_read
set_option Elab.async false
set_option linter.all false
set_option maxRecDepth 100000
set_option pp.maxSteps 900
namespace Tm
open PySem PySem.Spec PyProof.Rows L2
def topS (i : Nat) : Stmt := PySem.Challenge.pw_treemove_k07_read.main.body.getD i (.Pass ⟨0, 0, 0, 0⟩)
abbrev s_is_number : Stmt := topS 5
theorem sc_is_number : FnScope ["thing", "least"] ["thing", "least"] (defScope s_is_number) := ⟨rfl, rfl, rfl, by decide +kernel, rfl, by decide +kernel, by decide +kernel⟩
abbrev s_is_move : Stmt := topS 6
theorem sc_is_move : FnScope ["thing", "time", "hand", "folder", "under"] ["thing"] (defScope s_is_move) := ⟨rfl, rfl, rfl, by decide +kernel, rfl, by decide +kernel, by decide +kernel⟩
abbrev s_read : Stmt := topS 7
theorem sc_read : FnScope ["line", "words", "move", "word"] ["line"] (defScope s_read) := ⟨rfl, rfl, rfl, by decide +kernel, rfl, by decide +kernel, by decide +kernel⟩
abbrev s_is_figures : Stmt := topS 8
theorem sc_is_figures : FnScope ["word"] ["word"] (defScope s_is_figures) := ⟨rfl, rfl, rfl, by decide +kernel, rfl, by decide +kernel, by decide +kernel⟩
abbrev s_law_whole : Stmt := topS 10
theorem sc_law_whole : FnScope ["_law_found"] ["_law_found"] (defScope s_law_whole) := ⟨rfl, rfl, rfl, by decide +kernel, rfl, by decide +kernel, by decide +kernel⟩
abbrev s_law_cell_at : Stmt := topS 11
theorem sc_law_cell_at : FnScope ["_law_script", "_law_k"] ["_law_script", "_law_k"] (defScope s_law_cell_at) := ⟨rfl, rfl, rfl, by decide +kernel, rfl, by decide +kernel, by decide +kernel⟩
abbrev s_law_same_move : Stmt := topS 12
theorem sc_law_same_move : FnScope ["_law_found", "_law_due", "_law_k"] ["_law_found", "_law_due"] (defScope s_law_same_move) := ⟨rfl, rfl, rfl, by decide +kernel, rfl, by decide +kernel, by decide +kernel⟩
abbrev s_law_sign_by : Stmt := topS 13
theorem sc_law_sign_by : FnScope ["_law_cell", "_law_some"] ["_law_cell"] (defScope s_law_sign_by) := ⟨rfl, rfl, rfl, by decide +kernel, rfl, by decide +kernel, by decide +kernel⟩
abbrev s_law_number : Stmt := topS 14
theorem sc_law_number : FnScope ["_law_cell"] ["_law_cell"] (defScope s_law_number) := ⟨rfl, rfl, rfl, by decide +kernel, rfl, by decide +kernel, by decide +kernel⟩
abbrev s_law_odd_line : Stmt := topS 15
theorem sc_law_odd_line : FnScope ["_law_cell", "_law_some"] ["_law_cell"] (defScope s_law_odd_line) := ⟨rfl, rfl, rfl, by decide +kernel, rfl, by decide +kernel, by decide +kernel⟩
abbrev s_law_due_of : Stmt := topS 16
theorem sc_law_due_of : FnScope ["_law_line", "_law_words", "_law_move", "_law_k", "_law_sign"] ["_law_line"] (defScope s_law_due_of) := ⟨rfl, rfl, rfl, by decide +kernel, rfl, by decide +kernel, by decide +kernel⟩
abbrev s_law_refused_by_any : Stmt := topS 17
theorem sc_law_refused_by_any : FnScope ["_law_line", "e"] ["_law_line"] (defScope s_law_refused_by_any) := ⟨rfl, rfl, rfl, by decide +kernel, rfl, by decide +kernel, by decide +kernel⟩
abbrev s_law : Stmt := topS 18
theorem sc_law : FnScope ["_law_script", "_law_words", "_law_way", "_law_at", "_law_line", "_law_due", "_law_found", "_law_refused", "_law_k"] ["_law_script"] (defScope s_law) := ⟨rfl, rfl, rfl, by decide +kernel, rfl, by decide +kernel, by decide +kernel⟩
theorem st_is_number (v0 v1 : V) : L2.start ["thing", "least"] [v0, v1] = [some v0, some v1] := rfl
theorem st_is_move (v0 : V) : L2.start ["thing", "time", "hand", "folder", "under"] [v0] = [some v0, none, none, none, none] := rfl
theorem st_read (v0 : V) : L2.start ["line", "words", "move", "word"] [v0] = [some v0, none, none, none] := rfl
theorem st_is_figures (v0 : V) : L2.start ["word"] [v0] = [some v0] := rfl
theorem st_law_whole (v0 : V) : L2.start ["_law_found"] [v0] = [some v0] := rfl
theorem st_law_cell_at (v0 v1 : V) : L2.start ["_law_script", "_law_k"] [v0, v1] = [some v0, some v1] := rfl
theorem st_law_same_move (v0 v1 : V) : L2.start ["_law_found", "_law_due", "_law_k"] [v0, v1] = [some v0, some v1, none] := rfl
theorem st_law_sign_by (v0 : V) : L2.start ["_law_cell", "_law_some"] [v0] = [some v0, none] := rfl
theorem st_law_number (v0 : V) : L2.start ["_law_cell"] [v0] = [some v0] := rfl
theorem st_law_odd_line (v0 : V) : L2.start ["_law_cell", "_law_some"] [v0] = [some v0, none] := rfl
theorem st_law_due_of (v0 : V) : L2.start ["_law_line", "_law_words", "_law_move", "_law_k", "_law_sign"] [v0] = [some v0, none, none, none, none] := rfl
theorem st_law_refused_by_any (v0 : V) : L2.start ["_law_line", "e"] [v0] = [some v0, none] := rfl
theorem st_law (v0 : V) : L2.start ["_law_script", "_law_words", "_law_way", "_law_at", "_law_line", "_law_due", "_law_found", "_law_refused", "_law_k"] [v0] = [some v0, none, none, none, none, none, none, none, none] := rfl
/-- what the top leaves -/
structure Tx (K : PySem.W.Frag) (mg : Str → Option Value) where
  a_is_number : Addr
  d_is_number : FuncData
  F_is_number : Fun K "is_number" "is_number" s_is_number a_is_number d_is_number
  b_is_number : Binds K d_is_number ["thing", "least"] []
  g_is_number : mg "is_number" = some (.ref a_is_number)
  a_is_move : Addr
  d_is_move : FuncData
  F_is_move : Fun K "is_move" "is_move" s_is_move a_is_move d_is_move
  b_is_move : Binds K d_is_move ["thing"] []
  g_is_move : mg "is_move" = some (.ref a_is_move)
  a_read : Addr
  d_read : FuncData
  F_read : Fun K "read" "read" s_read a_read d_read
  b_read : Binds K d_read ["line"] []
  g_read : mg "read" = some (.ref a_read)
  a_is_figures : Addr
  d_is_figures : FuncData
  F_is_figures : Fun K "_is_figures" "_is_figures" s_is_figures a_is_figures d_is_figures
  b_is_figures : Binds K d_is_figures ["word"] []
  g_is_figures : mg "_is_figures" = some (.ref a_is_figures)
  a_law_whole : Addr
  d_law_whole : FuncData
  F_law_whole : Fun K "_law_whole" "_law_whole" s_law_whole a_law_whole d_law_whole
  b_law_whole : Binds K d_law_whole ["_law_found"] []
  g_law_whole : mg "_law_whole" = some (.ref a_law_whole)
  a_law_cell_at : Addr
  d_law_cell_at : FuncData
  F_law_cell_at : Fun K "_law_cell_at" "_law_cell_at" s_law_cell_at a_law_cell_at d_law_cell_at
  b_law_cell_at : Binds K d_law_cell_at ["_law_script", "_law_k"] []
  g_law_cell_at : mg "_law_cell_at" = some (.ref a_law_cell_at)
  a_law_same_move : Addr
  d_law_same_move : FuncData
  F_law_same_move : Fun K "_law_same_move" "_law_same_move" s_law_same_move a_law_same_move d_law_same_move
  b_law_same_move : Binds K d_law_same_move ["_law_found", "_law_due"] []
  g_law_same_move : mg "_law_same_move" = some (.ref a_law_same_move)
  a_law_sign_by : Addr
  d_law_sign_by : FuncData
  F_law_sign_by : Fun K "_law_sign_by" "_law_sign_by" s_law_sign_by a_law_sign_by d_law_sign_by
  b_law_sign_by : Binds K d_law_sign_by ["_law_cell"] []
  g_law_sign_by : mg "_law_sign_by" = some (.ref a_law_sign_by)
  a_law_number : Addr
  d_law_number : FuncData
  F_law_number : Fun K "_law_number" "_law_number" s_law_number a_law_number d_law_number
  b_law_number : Binds K d_law_number ["_law_cell"] []
  g_law_number : mg "_law_number" = some (.ref a_law_number)
  a_law_odd_line : Addr
  d_law_odd_line : FuncData
  F_law_odd_line : Fun K "_law_odd_line" "_law_odd_line" s_law_odd_line a_law_odd_line d_law_odd_line
  b_law_odd_line : Binds K d_law_odd_line ["_law_cell"] []
  g_law_odd_line : mg "_law_odd_line" = some (.ref a_law_odd_line)
  a_law_due_of : Addr
  d_law_due_of : FuncData
  F_law_due_of : Fun K "_law_due_of" "_law_due_of" s_law_due_of a_law_due_of d_law_due_of
  b_law_due_of : Binds K d_law_due_of ["_law_line"] []
  g_law_due_of : mg "_law_due_of" = some (.ref a_law_due_of)
  a_law_refused_by_any : Addr
  d_law_refused_by_any : FuncData
  F_law_refused_by_any : Fun K "_law_refused_by_any" "_law_refused_by_any" s_law_refused_by_any a_law_refused_by_any d_law_refused_by_any
  b_law_refused_by_any : Binds K d_law_refused_by_any ["_law_line"] []
  g_law_refused_by_any : mg "_law_refused_by_any" = some (.ref a_law_refused_by_any)
  a_law : Addr
  d_law : FuncData
  F_law : Fun K "law" "law" s_law a_law d_law
  b_law : Binds K d_law ["_law_script"] []
  g_law : mg "law" = some (.ref a_law)
  m_ValueError : mg "ValueError" = none
  m_all : mg "all" = none
  m_bool : mg "bool" = none
  m_int : mg "int" = none
  m_isinstance : mg "isinstance" = none
  m_len : mg "len" = none
  m_range : mg "range" = none
  m_str : mg "str" = none
  m_tuple : mg "tuple" = none
  a_TreeError : Addr
  gc_TreeError : mg "TreeError" = some (.ref a_TreeError)
  x_TreeError : PySem.W.excIn K a_TreeError [.type "ValueError", .type "Exception", .type "BaseException", .type "object"] "ValueError.__new__" = true
  kc_TreeError : PySem.W.keepIn K (.ref a_TreeError) = true
  bc_TreeError : PySem.W.subIn K (.ref a_TreeError) (.type "BaseException") = some true
  tc_TreeError : PySem.W.typeIn K (.ref a_TreeError) = some (.type "type")
  ec_TreeError : ExcC K a_TreeError
  kv_TreeError : PySem.W.kitOne K (.ref a_TreeError) (.type "ValueError") = some true
  a_NoMove : Addr
  gc_NoMove : mg "NoMove" = some (.ref a_NoMove)
  x_NoMove : PySem.W.excIn K a_NoMove [.type "ValueError", .type "Exception", .type "BaseException", .type "object"] "ValueError.__new__" = true
  kc_NoMove : PySem.W.keepIn K (.ref a_NoMove) = true
  bc_NoMove : PySem.W.subIn K (.ref a_NoMove) (.type "BaseException") = some true
  tc_NoMove : PySem.W.typeIn K (.ref a_NoMove) = some (.type "type")
  ec_NoMove : ExcC K a_NoMove
  kv_NoMove : PySem.W.kitOne K (.ref a_NoMove) (.type "ValueError") = some true
  em_TreeError_TreeError : PySem.W.exmOne K (.ref a_TreeError) (.ref a_TreeError) = some true
  em_TreeError_NoMove : PySem.W.exmOne K (.ref a_TreeError) (.ref a_NoMove) = some false
  em_NoMove_TreeError : PySem.W.exmOne K (.ref a_NoMove) (.ref a_TreeError) = some true
  em_NoMove_NoMove : PySem.W.exmOne K (.ref a_NoMove) (.ref a_NoMove) = some true
  t_GREATEST : Tok
  c_GREATEST : mg "GREATEST" = some (.int 1000000000000000000000000000000000000000000000000000000000000 t_GREATEST)
/-! ### short readings -/
theorem isi {K : PySem.W.Frag} {H : Hp} {x : V} {t n : String} {b : Bool} {Q : VK} (ty : TyX K H x (.type t)) (e : kitB t n = some b) (q : Q (.bl b) H) : rIsi K [x, .ty n] H Q := ⟨x, .ty n, .type t, .type n, b, rfl, .ty n, ty, kit_ty e, q⟩
theorem kbb : kitB "bool" "bool" = some true := by decide +kernel
theorem kbi : kitB "bool" "int" = some true := by decide +kernel
theorem kii : kitB "int" "int" = some true := by decide +kernel
theorem kib : kitB "int" "bool" = some false := by decide +kernel
theorem kll : kitB "list" "list" = some true := by decide +kernel
theorem ktt : kitB "tuple" "tuple" = some true := by decide +kernel
theorem kdd : kitB "dict" "dict" = some true := by decide +kernel
theorem kss : kitB "str" "str" = some true := by decide +kernel
theorem same_upd {H : Hp} {p : Addr} {o : HO} (h : H p = none) : Same H (upd H p o) := fun b x e => by
  rw [upd_ne (ne_of_none e h)]
  exact e
/-- a change at an object that is new since H -/
theorem same_set {H H' : Hp} {p : Addr} {o : HO} (s : Same H H') (h : H p = none) : Same H (upd H' p o) := fun b x e => by
  rw [upd_ne (ne_of_none e h)]
  exact s b x e
theorem same_seqT {K : PySem.W.Frag} {H H' : Hp} {a : Addr} {xs : List V} (e : Same H H') (h : SqT K H a xs) : SqT K H' a xs := by
  rcases h with (h | ⟨o, h⟩) | h
  · exact .inl (.inl (e _ _ h))
  · exact .inl (.inr ⟨o, e _ _ h⟩)
  · exact .inr h
theorem p60 : (10 : Int) ^ (Int.toNat 60) = 1000000000000000000000000000000000000000000000000000000000000 := by decide +kernel
theorem ite_ne {x y : V} {A B : Prop} (e : x = y) (h : B) : if (!decide (x = y)) = true then A else B := by
  rw [decide_eq_true e]
  exact iteF h
theorem ite_eq {x y : V} {A B : Prop} (e : x = y) (h : A) : if decide (x = y) = true then A else B := by
  rw [decide_eq_true e]
  exact iteT h
local macro_rules | `(tactic| walk_at "cond") => `(tactic| first
  | assumption
  | exact Nat.le_of_ble_eq_true rfl
  | decide
  | omega
  | (dsimp only; first | decide | omega)
  | exact ⟨by decide, by decide, by decide⟩
  | exact ⟨by first | decide | omega, by first | decide | omega⟩
  | exact .inr ⟨by first | decide | omega, by first | decide | omega⟩
  | exact .inl ⟨by first | decide | omega, by first | decide | omega⟩)
local macro_rules | `(tactic| walk_at "rd1") => `(tactic| first
  | refine ⟨_, rfl, ?_⟩
  | refine ⟨_, _, rfl, rfl, ?_⟩
  | refine ⟨rfl, ?_⟩
  | refine ⟨_, _, rfl, ?_⟩
  | refine ⟨⟨_, rfl⟩, ?_⟩
  | refine ⟨(by walk_at "cond" : (_ : Prop)), ?_⟩
  | refine ⟨_, _, _, rfl, by assumption, by first | decide | omega, ?_⟩
  | refine ⟨_, _, rfl, by assumption, ?_⟩
  | refine ⟨_, _, _, _, _, rfl, .ty _, .base (.int _), kit_ty kii, ?_⟩
  | refine ⟨_, _, _, _, _, rfl, .ty _, .base (.int _), kit_ty kib, ?_⟩
  | refine ⟨_, _, _, _, _, rfl, .ty _, .base (.bl _), kit_ty kbb, ?_⟩
  | refine ⟨_, _, _, _, _, rfl, .ty _, .base (.bl _), kit_ty kbi, ?_⟩
  | refine ⟨_, _, _, _, _, rfl, .ty _, .base (.str _), kit_ty kss, ?_⟩
  | refine ⟨_, _, _, _, _, rfl, .ty _, .base (.lst (by assumption)), kit_ty kll, ?_⟩
  | refine ⟨_, _, _, _, _, rfl, .ty _, .base (.tup (by assumption)), kit_ty ktt, ?_⟩
  | refine ⟨_, _, _, _, _, rfl, .ty _, .base (.dK (by assumption)), kit_ty kdd, ?_⟩
  | refine ⟨_, _, _, _, rfl, rfl, by assumption, by first | exact atI_nat (j := 0) rfl | exact atI_nat (j := 1) rfl | exact atI_nat (j := 2) rfl | exact atI_nat (j := 3) rfl, ?_⟩
  | refine ⟨_, _, _, _, rfl, rfl, by assumption, by assumption, ?_⟩
  | refine ⟨_, _, _, rfl, ?_⟩
  | refine iteF ?_
  | refine iteT ?_
  | refine ite_ne rfl ?_
  | refine ite_eq rfl ?_)
local macro_rules | `(tactic| walk_at "nm") => `(tactic| try dsimp only [List.set_cons_zero, List.set_cons_succ])
local macro_rules | `(tactic| walk_at "rd") => `(tactic| ((repeat (walk_at "rd1")); walk_at "nm"))
local macro_rules | `(tactic| walk_at "rq") => `(tactic| repeat (walk_at "rd1"))

section
variable {P : Program} {w : World} {K : PySem.W.Frag} {mg : Str → Option Value} {base : Heap}
/-! ### _law_cell_at -/
def cellOf (ns : List Int) (k : Nat) : Int := ns.getD k 0
def sp_law_cell_at (K : PySem.W.Frag) : Sp := fun vs H Q _ => ∃ (a : Addr) (ns : List Int) (k : Int), vs = [.ref a, .int k] ∧ SqL K H a (ns.map V.int) ∧ 0 ≤ k ∧ Q (.int (cellOf ns k.toNat)) H
theorem ok_law_cell_at (T : Tx K mg) : FnOk P w K mg base CX0 1 T.a_law_cell_at T.d_law_cell_at ["_law_script", "_law_k"] (sp_law_cell_at K) := by
  refine T.F_law_cell_at.ok sc_law_cell_at (fun vs H Q E h => ?_) (fun cdv A outer s H vs Q E hr h => ?_)
  · obtain ⟨a, ns, k, rfl, _⟩ := h
    rfl
  · obtain ⟨a, ns, k, rfl, hS, hk, q⟩ := h
    obtain ⟨k, rfl⟩ := Int.eq_ofNat_of_zero_le hk
    refine ⟨_, pss_cons (ps_if (pt_cmpR op_lt (pv 1) (pe_callB call_len_seq (by rfl) T.m_len PySem.boot_len (pa_cons (pv 0) pa_nil)) (nomark _)) (pss_one (ps_ret (pe_ix ix_list (pv 0) (pv 1) (fun _ _ => rfl)))) pss_nil)
      (pss_one (ps_ret pe_int)), ?_⟩
    refine ⟨_, rfl, .ref a, rfl, a, _, rfl, .inl hS, _, _, rfl, rfl, _, rfl, ite2 (fun e => ?_) (fun e => ?_)⟩
    · have e1 := of_decide_eq_true e
      rw [List.length_map] at e1
      have h1 : k < ns.length := by omega
      refine ⟨_, rfl, _, rfl, a, _, _, _, rfl, rfl, hS, atI_nat (j := k) (v := .int ns[k]) (by rw [List.getElem?_map, List.getElem?_eq_getElem h1]; rfl), ?_⟩
      have e2 : cellOf ns k = ns[k] := by
        unfold cellOf
        rw [List.getD_eq_getElem?_getD, List.getElem?_eq_getElem h1]
        rfl
      have q' : Q (.int (cellOf ns k)) H := q
      rw [e2] at q'
      exact q'
    · have e1 : ¬ ((k : Int) < ((ns.map V.int).length : Nat)) := fun z => e (decide_eq_true z)
      rw [List.length_map] at e1
      have h1 : ns.length ≤ k := by omega
      have e2 : cellOf ns k = 0 := by
        unfold cellOf
        rw [List.getD_eq_getElem?_getD, List.getElem?_eq_none h1]
        rfl
      have q' : Q (.int (cellOf ns k)) H := q
      rw [e2] at q'
      exact q'

/-! ### values of a kind that is known -/
inductive Kd (H : Hp) : V → Prop where
  | int (i : Int) : Kd H (.int i)
  | bl (b : Bool) : Kd H (.bl b)
  | str (z : Str) : Kd H (.str z)
  | non : Kd H .non
  | lst {a : Addr} {xs : List V} (e : H a = some (.lst xs)) : Kd H (.ref a)
  | tup {a : Addr} {xs : List V} (e : H a = some (.tup xs)) : Kd H (.ref a)
  | dK {a : Addr} {kvs : List (Key × V)} (e : H a = some (.dK kvs)) : Kd H (.ref a)
theorem Kd.same {H H' : Hp} {v : V} (s : Same H H') (k : Kd H v) : Kd H' v := by
  cases k with
  | int i => exact .int i
  | bl b => exact .bl b
  | str z => exact .str z
  | non => exact .non
  | lst e => exact .lst (s _ _ e)
  | tup e => exact .tup (s _ _ e)
  | dK e => exact .dK (s _ _ e)
theorem Kd.set {H : Hp} {v : V} {p : Addr} {xs ys : List V} (h : H p = some (.lst xs)) (k : Kd H v) : Kd (upd H p (.lst ys)) v := by
  cases k with
  | int i => exact .int i
  | bl b => exact .bl b
  | str z => exact .str z
  | non => exact .non
  | @lst a zs e =>
    by_cases c : a = p
    · subst c
      exact .lst upd_same
    · exact .lst (by rw [upd_ne c]; exact e)
  | @tup a zs e => exact .tup (by rw [upd_ne (ne_of e h (fun z => nomatch z))]; exact e)
  | @dK a kvs e => exact .dK (by rw [upd_ne (ne_of e h (fun z => nomatch z))]; exact e)
theorem klb : kitB "list" "bool" = some false := by decide +kernel
theorem kli : kitB "list" "int" = some false := by decide +kernel
theorem klt : kitB "list" "tuple" = some false := by decide +kernel
theorem ktb : kitB "tuple" "bool" = some false := by decide +kernel
theorem kti : kitB "tuple" "int" = some false := by decide +kernel
theorem kdb : kitB "dict" "bool" = some false := by decide +kernel
theorem kdi : kitB "dict" "int" = some false := by decide +kernel
theorem kdt : kitB "dict" "tuple" = some false := by decide +kernel
theorem ksb : kitB "str" "bool" = some false := by decide +kernel
theorem ksi : kitB "str" "int" = some false := by decide +kernel
theorem kst : kitB "str" "tuple" = some false := by decide +kernel
theorem knb : kitB "NoneType" "bool" = some false := by decide +kernel
theorem kni : kitB "NoneType" "int" = some false := by decide +kernel
theorem knt : kitB "NoneType" "tuple" = some false := by decide +kernel
theorem kit' : kitB "int" "tuple" = some false := by decide +kernel
theorem kbt : kitB "bool" "tuple" = some false := by decide +kernel
/-- its answer to isinstance(v, bool), isinstance(v, int) -/
def isB : V → Bool
  | .bl _ => true
  | _ => false
def isI : V → Bool
  | .bl _ => true
  | .int _ => true
  | _ => false
theorem Kd.ty {K : PySem.W.Frag} {H : Hp} {v : V} (k : Kd H v) : ∃ t, TyX K H v (.type t) ∧ kitB t "bool" = some (isB v) ∧ kitB t "int" = some (isI v) := by
  cases k with
  | int i => exact ⟨_, .base (.int _), kib, kii⟩
  | bl b => exact ⟨_, .base (.bl _), kbb, kbi⟩
  | str z => exact ⟨_, .base (.str _), ksb, ksi⟩
  | non => exact ⟨_, .base .non, knb, kni⟩
  | lst e => exact ⟨_, .base (.lst e), klb, kli⟩
  | tup e => exact ⟨_, .base (.tup e), ktb, kti⟩
  | dK e => exact ⟨_, .base (.dK e), kdb, kdi⟩
/-- a tuple, or none -/
def noTup (H : Hp) (v : V) : Prop := (∃ i, v = .int i) ∨ (∃ b, v = .bl b) ∨ (∃ z, v = .str z) ∨ v = .non ∨ (∃ a xs, v = .ref a ∧ H a = some (.lst xs)) ∨ (∃ a kvs, v = .ref a ∧ H a = some (.dK kvs))
theorem noTup.ty {K : PySem.W.Frag} {H : Hp} {v : V} (k : noTup H v) : ∃ t, TyX K H v (.type t) ∧ kitB t "tuple" = some false := by
  rcases k with ⟨i, rfl⟩ | ⟨b, rfl⟩ | ⟨z, rfl⟩ | rfl | ⟨a, xs, rfl, e⟩ | ⟨a, kvs, rfl, e⟩
  · exact ⟨_, .base (.int _), kit'⟩
  · exact ⟨_, .base (.bl _), kbt⟩
  · exact ⟨_, .base (.str _), kst⟩
  · exact ⟨_, .base .non, knt⟩
  · exact ⟨_, .base (.lst e), klt⟩
  · exact ⟨_, .base (.dK e), kdt⟩
abbrev G60 : Int := 1000000000000000000000000000000000000000000000000000000000000
/-- a whole number from the least to the greatest -/
def numB (l : Int) : V → Bool
  | .int i => decide (l ≤ i) && decide (i ≤ G60)
  | _ => false
theorem numB_lo {l x : Int} (h : x < l) : numB l (.int x) = false := by
  show (decide (l ≤ x) && decide (x ≤ G60)) = false
  rw [decide_eq_false (show ¬ l ≤ x by omega), Bool.false_and]
theorem numB_hi {l x : Int} (h : G60 < x) : numB l (.int x) = false := by
  show (decide (l ≤ x) && decide (x ≤ G60)) = false
  rw [decide_eq_false (show ¬ x ≤ G60 from fun z => absurd h (Int.not_lt.mpr z)), Bool.and_false]
theorem numB_in {l x : Int} (h : ¬ x < l) (h' : ¬ G60 < x) : numB l (.int x) = true := by
  show (decide (l ≤ x) && decide (x ≤ G60)) = true
  rw [decide_eq_true (Int.not_lt.mp h), decide_eq_true (Int.not_lt.mp h')]
  rfl
/-! ### is_number -/
def sp_is_number (K : PySem.W.Frag) : Sp := fun vs H Q _ => ∃ (v : V) (l : Int), vs = [v, .int l] ∧ Kd H v ∧ Q (.bl (numB l v)) H
theorem ok_is_number (T : Tx K mg) : FnOk P w K mg base CX0 1 T.a_is_number T.d_is_number ["thing", "least"] (sp_is_number K) := by
  refine T.F_is_number.ok sc_is_number (fun vs H Q E h => ?_) (fun cdv A outer s H vs Q E hr h => ?_)
  · obtain ⟨v, l, rfl, _⟩ := h
    rfl
  · obtain ⟨v, l, rfl, kd, q⟩ := h
    refine ⟨_, pss_cons (ps_if (PW.pt (pw_or (pt_val (pe_callB call_isi (by rfl) T.m_isinstance (by decide +kernel) (pa_cons (pv 0) (pa_cons (pe_bltn (v := .ty "bool") (by rfl) T.m_bool (by decide +kernel) rfl) pa_nil)))) (pw_or1 (pt_not (pt_val (pe_callB call_isi (by rfl) T.m_isinstance (by decide +kernel) (pa_cons (pv 0) (pa_cons (pe_bltn (v := .ty "int") (by rfl) T.m_int (by decide +kernel) rfl) pa_nil)))))))) (pss_one (ps_ret pe_bl)) pss_nil)
      (pss_one (ps_ret (pe_chain op_le op_le (pv 1) (pv 0) (pe_glob (v := .int 1000000000000000000000000000000000000000000000000000000000000) rfl T.c_GREATEST ⟨_, rfl⟩)))), ?_⟩
    refine ⟨_, rfl, ?_⟩
    obtain ⟨t, ty, hb, hi⟩ := kd.ty (K := K)
    refine ⟨_, _, _, _, _, rfl, .ty _, ty, kit_ty hb, ?_⟩
    refine ⟨_, rfl, ?_⟩
    refine ite2 (fun e => ?_) (fun e => ?_)
    · cases kd <;> first | exact q | cases e
    · refine ⟨_, rfl, ?_⟩
      refine ⟨_, _, _, _, _, rfl, .ty _, ty, kit_ty hi, ?_⟩
      refine ⟨_, rfl, ?_⟩
      cases kd with
      | int i =>
        refine iteF ?_
        walk_at "rd"
        refine ite2 (fun e1 => ?_) (fun e1 => ?_)
        · walk_at "rd"
          have h1 : l ≤ i := of_decide_eq_true e1
          have q' : Q (.bl (decide (l ≤ i) && decide (i ≤ G60))) H := q
          rw [decide_eq_true h1, Bool.true_and] at q'
          exact q'
        · have h1 : ¬ l ≤ i := fun z => e1 (decide_eq_true z)
          have q' : Q (.bl (decide (l ≤ i) && decide (i ≤ G60))) H := q
          rw [decide_eq_false h1, Bool.false_and] at q'
          exact q'
      | bl b => exact absurd rfl e
      | _ => exact iteT q
/-! ### is_move -/
def moveB (a b c d : V) : Bool := (numB 1 a && numB 0 b) && (numB 1 c && numB 0 d)
def sp_is_move (K : PySem.W.Frag) : Sp := fun vs H Q _ => ∃ v : V, vs = [v] ∧
  ((∃ p a b c d, v = .ref p ∧ H p = some (.tup [a, b, c, d]) ∧ Kd H a ∧ Kd H b ∧ Kd H c ∧ Kd H d ∧ Q (.bl (moveB a b c d)) H) ∨
   (((∃ p xs, v = .ref p ∧ H p = some (.tup xs) ∧ xs.length ≠ 4) ∨ noTup H v) ∧ Q (.bl false) H))
theorem ok_is_move (T : Tx K mg) : FnOk P w K mg base CX0 2 T.a_is_move T.d_is_move ["thing"] (sp_is_move K) := by
  refine T.F_is_move.ok sc_is_move (fun vs H Q E h => ?_) (fun cdv A outer s H vs Q E hr h => ?_)
  · obtain ⟨v, rfl, _⟩ := h
    rfl
  · obtain ⟨v, rfl, h⟩ := h
    refine ⟨_, pss_cons (ps_if (PW.pt (pw_or (pt_not (pt_val (pe_callB call_isi (by rfl) T.m_isinstance (by decide +kernel) (pa_cons (pv 0) (pa_cons (pe_bltn (v := .ty "tuple") (by rfl) T.m_tuple (by decide +kernel) rfl) pa_nil))))) (pw_or1 (pt_cmpR op_ne (pe_callB call_len_seq (by rfl) T.m_len PySem.boot_len (pa_cons (pv 0) pa_nil)) pe_int (nomark _))))) (pss_one (ps_ret pe_bl)) pss_nil)
      (pss_cons (ps_asg (pv 0) (pg_tup (by rfl) (pgs_cons (pg_name (i := 1) sc_is_move.nd rfl (Or.inl rfl)) (pgs_cons (pg_name (i := 2) sc_is_move.nd rfl (Or.inl rfl)) (pgs_cons (pg_name (i := 3) sc_is_move.nd rfl (Or.inl rfl)) (pgs_cons (pg_name (i := 4) sc_is_move.nd rfl (Or.inl rfl)) pgs_nil))))))
      (pss_cons (ps_if (PW.pt (pw_or (pt_not (pt_val (pe_call (ok_is_number T) (hr.mono (by decide)) (by rfl) T.g_is_number T.F_is_number.kp T.b_is_number .nil pass0 (pa_cons (pv 1) (pa_cons pe_int pa_nil))))) (pw_or1 (pt_not (pt_val (pe_call (ok_is_number T) (hr.mono (by decide)) (by rfl) T.g_is_number T.F_is_number.kp T.b_is_number .nil pass0 (pa_cons (pv 2) (pa_cons pe_int pa_nil)))))))) (pss_one (ps_ret pe_bl)) pss_nil)
      (pss_one (ps_ret (pe_and (pe_call (ok_is_number T) (hr.mono (by decide)) (by rfl) T.g_is_number T.F_is_number.kp T.b_is_number .nil pass0 (pa_cons (pv 3) (pa_cons pe_int pa_nil))) (pe_one (pe_call (ok_is_number T) (hr.mono (by decide)) (by rfl) T.g_is_number T.F_is_number.kp T.b_is_number .nil pass0 (pa_cons (pv 4) (pa_cons pe_int pa_nil))))))))), ?_⟩
    refine ⟨_, rfl, ?_⟩
    rcases h with ⟨p, a, b, c, d, rfl, ht, ka, kb, kc, kd, q⟩ | ⟨⟨p, xs, rfl, ht, hl⟩ | hn, q⟩
    · refine ⟨_, _, _, _, _, rfl, .ty _, .base (.tup ht), kit_ty ktt, ?_⟩
      refine ⟨_, rfl, iteF ?_⟩
      refine ⟨_, rfl, p, _, rfl, .inr (SqT.of ht), rfl, _, rfl, iteF ?_⟩
      refine ⟨_, rfl, p, _, rfl, SqT.of ht, rfl, ?_⟩
      walk_at "rd"
      have q1 : Q (.bl ((numB 1 a && numB 0 b) && (numB 1 c && numB 0 d))) H := q
      cases e1 : numB 1 a with
      | false =>
        rw [e1] at q1
        exact iteT q1
      | true =>
        refine iteF ?_
        walk_at "rd"
        cases e2 : numB 0 b with
        | false =>
          rw [e1, e2] at q1
          exact iteT q1
        | true =>
          refine iteF ?_
          rw [e1, e2] at q1
          walk_at "rd"
          cases e3 : numB 1 c with
          | false =>
            rw [e3] at q1
            exact iteF q1
          | true =>
            rw [e3] at q1
            refine iteT ?_
            walk_at "rd"
            exact q1
    · refine ⟨_, _, _, _, _, rfl, .ty _, .base (.tup ht), kit_ty ktt, ?_⟩
      refine ⟨_, rfl, iteF ?_⟩
      refine ⟨_, rfl, p, _, rfl, .inr (SqT.of ht), rfl, _, rfl, ?_⟩
      refine ite2 (fun _ => q) (fun e => absurd ?_ e)
      show (!decide (V.int xs.length = V.int 4)) = true
      rw [decide_eq_false (fun z => hl (by have := V.int.inj z; omega))]
      rfl
    · obtain ⟨t, ty, ht⟩ := hn.ty (K := K)
      refine ⟨_, _, _, _, _, rfl, .ty _, ty, kit_ty ht, ?_⟩
      exact ⟨_, rfl, iteT q⟩

/-! ### texts -/
abbrev sp1 : Str := " "
abbrev st0 : Str := "0"
def strI (i : Int) : Str := toString i
def writ (xs : List Int) : Str := Txt.join sp1 (xs.map strI)
theorem log_ok {i : Int} (h0 : 0 ≤ i) (h1 : i ≤ G60) : i.natAbs.log2 < 1920 := by
  by_cases e : i.natAbs = 0
  · rw [e]
    decide
  · rw [Nat.log2_lt e]
    have h2 : i.natAbs ≤ 1000000000000000000000000000000000000000000000000000000000000 := by
      have : i ≤ (1000000000000000000000000000000000000000000000000000000000000 : Int) := h1
      omega
    exact Nat.lt_of_le_of_lt h2 (by decide +kernel)
theorem strI_len {i : Int} (h0 : 0 ≤ i) (h1 : i ≤ G60) : (strI i).length ≤ 61 := by
  obtain ⟨n, rfl⟩ := Int.eq_ofNat_of_zero_le h0
  have h2 : n < 10 ^ 61 := by
    have : (n : Int) ≤ (1000000000000000000000000000000000000000000000000000000000000 : Int) := h1
    omega
  have h := TL.numL_len (by decide) h2
  show (Str.ofString (toString ((n : Nat) : Int))).length ≤ 61
  rw [TL.len_tl, TL.tl_num]
  exact h
theorem sum_le : ∀ {l : List Str}, (∀ z ∈ l, z.length ≤ 61) → (l.map (·.length)).sum ≤ 61 * l.length
  | [], _ => Nat.le_refl _
  | z :: l, h => by
    have h1 := h z (List.mem_cons_self ..)
    have h2 := sum_le (l := l) fun y hy => h y (List.mem_cons_of_mem _ hy)
    rw [List.map_cons, List.sum_cons, List.length_cons]
    omega
theorem split_writ {xs : List Int} (hne : xs ≠ []) (h0 : ∀ x ∈ xs, 0 ≤ x) : Txt.split (writ xs) sp1 = xs.map strI := by
  refine TL.split_join (s := 32) (S := []) rfl (by decide +kernel) (fun e => hne (List.map_eq_nil_iff.mp e)) fun z hz => ?_
  obtain ⟨x, hx, rfl⟩ := List.mem_map.mp hz
  obtain ⟨n, rfl⟩ := Int.eq_ofNat_of_zero_le (h0 x hx)
  show 32 ∉ TL.tl (Str.ofString (toString ((n : Nat) : Int)))
  rw [TL.tl_num]
  exact TL.numL_free (.inl (by decide))
theorem int_strI {i : Int} (h0 : 0 ≤ i) (h1 : i ≤ G60) : PySem.intText? (strI i) = some i := by
  have hl := strI_len h0 h1
  obtain ⟨n, rfl⟩ := Int.eq_ofNat_of_zero_le h0
  refine TL.int_num ?_
  have e : (strI ((n : Nat) : Int)).length = (TL.numL n).length := by
    show (Str.ofString (toString ((n : Nat) : Int))).length = _
    rw [TL.len_tl, TL.tl_num]
  omega
theorem g61 : (strI G60).length = 61 := by decide +kernel
/-- what _is_figures answers -/
def figB (z : Str) : Bool := (Txt.isascii z && Txt.isdigit z) && (!(Txt.startswith z st0 && !decide (V.str z = V.str st0)) && decide ((z.length : Int) ≤ 61))

def sp_is_figures (K : PySem.W.Frag) : Sp := fun vs H Q _ => ∃ z, vs = [.str z] ∧ z.length ≤ sizeLine ∧ Q (.bl (figB z)) H
theorem ok_is_figures (T : Tx K mg) : FnOk P w K mg base CX0 1 T.a_is_figures T.d_is_figures ["word"] (sp_is_figures K) := by
  refine T.F_is_figures.ok sc_is_figures (fun vs H Q E h => ?_) (fun cdv A outer s H vs Q E hr h => ?_)
  · obtain ⟨z, rfl, _⟩ := h
    rfl
  · obtain ⟨z, rfl, hz, q⟩ := h
    refine ⟨_, pss_cons (ps_if (PW.pt (pw_or (pt_not (pt_val (pe_m0 PySem.F.slot_str_isascii PySem.F.type_str_isascii mt_isascii (pv 0)))) (pw_or1 (pt_not (pt_val (pe_m0 PySem.F.slot_str_isdigit PySem.F.type_str_isdigit mt_isdigit (pv 0))))))) (pss_one (ps_ret pe_bl)) pss_nil)
      (pss_cons (ps_if (PW.pt (pw_and (pt_val (pe_m1 PySem.F.slot_str_startswith PySem.F.type_str_startswith mt_startswith (pv 0) pe_str)) (pw_and1 (pt_cmpR op_ne (pv 0) pe_str (nomark _))))) (pss_one (ps_ret pe_bl)) pss_nil)
      (pss_one (ps_ret (pe_cmpR op_le (pe_callB call_len (by rfl) T.m_len PySem.boot_len (pa_cons (pv 0) pa_nil)) (pe_callB call_len (by rfl) T.m_len PySem.boot_len (pa_cons (pe_callTy call_str_int (by rfl) T.m_str (by decide +kernel) (pa_cons (pe_glob (v := .int 1000000000000000000000000000000000000000000000000000000000000) rfl T.c_GREATEST ⟨_, rfl⟩) pa_nil)) pa_nil)) (nomark _))))), ?_⟩
    rw [st_is_figures]
    unfold figB at q
    walk_at "rd"
    cases e1 : Txt.isascii z with
    | false =>
      rw [e1] at q
      walk_at "rd"
      exact q
    | true =>
    rw [e1] at q
    walk_at "rd"
    cases e2 : Txt.isdigit z with
    | false =>
      rw [e2] at q
      walk_at "rd"
      exact q
    | true =>
    rw [e2] at q
    walk_at "rd"
    have last : ∀ b, Txt.startswith z st0 = b → (b && !decide (V.str z = V.str st0)) = false → Q (.bl (decide ((z.length : Int) ≤ 61))) H := fun b e3 e => by
      rw [e3, e] at q
      exact q
    cases e3 : Txt.startswith z st0 with
    | true =>
      walk_at "rd"
      cases e4 : decide (V.str z = V.str st0) with
      | false =>
        walk_at "rd"
        rw [e3, e4] at q
        exact q
      | true =>
        walk_at "rd"
        refine ⟨_, _, rfl, ⟨hz, rfl⟩, ?_⟩
        refine ⟨_, rfl, log_ok (by decide) (by decide), _, _, rfl, ⟨by rw [show (Str.ofString (toString G60)).length = 61 from g61]; decide, rfl⟩, ?_⟩
        walk_at "rd"
        rw [show (Str.ofString (toString G60)).length = 61 from g61]
        exact last true e3 (by rw [e4]; rfl)
    | false =>
      walk_at "rd"
      refine ⟨_, _, rfl, ⟨hz, rfl⟩, ?_⟩
      refine ⟨_, rfl, log_ok (by decide) (by decide), _, _, rfl, ⟨by rw [show (Str.ofString (toString G60)).length = 61 from g61]; decide, rfl⟩, ?_⟩
      walk_at "rd"
      rw [show (Str.ofString (toString G60)).length = 61 from g61]
      exact last false e3 rfl
theorem dig_yes : ∀ c, c < 128 → (Unicode.isDigit c = decide (48 ≤ c ∧ c ≤ 57)) := by decide +kernel
theorem sw0 (z : Str) : Txt.startswith z st0 = true ↔ ∃ r, TL.tl z = 48 :: r := by
  have h := TL.at_iff (x := z) (y := st0) (by decide) 0
  have h0 : Txt.startswith z st0 = true ↔ PySem.StrLaws.At z st0 z.length 0 := by
    unfold Txt.startswith PySem.StrLaws.At
    rw [Bool.and_eq_true, decide_eq_true_iff]
  rw [h0, h]
  show ((TL.tl z).take 1 == [48]) = true ↔ _
  cases e : TL.tl z with
  | nil =>
    constructor
    · intro h
      cases h
    · rintro ⟨r, h⟩
      cases h
  | cons c r =>
    constructor
    · intro h
      have h2 : [c] = [48] := eq_of_beq h
      cases h2
      exact ⟨r, rfl⟩
    · rintro ⟨r', h⟩
      cases h
      rfl
theorem tl_st0 : TL.tl st0 = [48] := rfl
theorem figB_iff (z : Str) : figB z = true ↔ TL.tl z ≠ [] ∧ NumText.AllDigits (TL.tl z) ∧ (∀ r, TL.tl z = 48 :: r → r = []) ∧ z.length ≤ 61 := by
  unfold figB Txt.isascii Txt.isdigit
  have hl := TL.len_tl z
  rw [← Array.all_toList, ← Array.all_toList]
  rw [Bool.and_eq_true, Bool.and_eq_true, Bool.and_eq_true, Bool.and_eq_true, List.all_eq_true, List.all_eq_true, decide_eq_true_iff]
  constructor
  · rintro ⟨⟨h1, h2, h3⟩, h4, h5⟩
    refine ⟨fun e => ?_, fun c hc => ?_, fun r e => ?_, ?_⟩
    · rw [e] at hl
      have : 0 < z.length := h2
      rw [hl] at this
      exact absurd this (by decide)
    · have a := of_decide_eq_true (h1 c hc)
      have b := h3 c hc
      rw [dig_yes c a] at b
      exact of_decide_eq_true b
    · rw [(sw0 z).mpr ⟨r, e⟩, Bool.true_and, Bool.not_not] at h4
      have e2 : z = st0 := V.str.inj (of_decide_eq_true h4)
      rw [e2, tl_st0] at e
      cases e
      rfl
    · have := of_decide_eq_true h5
      omega
  · rintro ⟨h1, h2, h3, h4⟩
    refine ⟨⟨fun c hc => ?_, ?_, fun c hc => ?_⟩, ?_, ?_⟩
    · have := h2 c hc
      exact decide_eq_true (by omega)
    · show 0 < z.length
      rw [hl]
      exact List.length_pos_iff.mpr h1
    · have := h2 c hc
      rw [dig_yes c (by omega)]
      exact decide_eq_true this
    · cases e : Txt.startswith z st0 with
      | false => rfl
      | true =>
        obtain ⟨r, er⟩ := (sw0 z).mp e
        have := h3 r er
        subst this
        have e2 : z = st0 := TL.ext_tl (er.trans tl_st0.symm)
        rw [e2, decide_eq_true rfl]
        rfl
    · exact decide_eq_true (by omega)
theorem numL_head : ∀ (m n : Nat), n ≤ m → ∀ r, TL.numL n = 48 :: r → n = 0
  | m, n, hm, r, e => by
    by_cases h : n < 10
    · rw [TL.numL_lt h] at e
      have := List.cons.inj e
      omega
    · cases m with
      | zero => omega
      | succ m =>
        rw [TL.numL_step (by omega)] at e
        cases e2 : TL.numL (n / 10) with
        | nil => exact absurd e2 (TL.numL_ne _)
        | cons c q =>
          rw [e2, List.cons_append] at e
          have e3 := (List.cons.inj e).1
          subst e3
          have := numL_head m (n / 10) (by omega) q e2
          omega
theorem figB_strI {i : Int} (h0 : 0 ≤ i) (h1 : i ≤ G60) : figB (strI i) = true := by
  have hl := strI_len h0 h1
  obtain ⟨n, rfl⟩ := Int.eq_ofNat_of_zero_le h0
  have e : TL.tl (strI ((n : Nat) : Int)) = TL.numL n := TL.tl_num n
  rw [figB_iff, e]
  refine ⟨TL.numL_ne n, TL.numL_digits n, fun r er => ?_, hl⟩
  have := numL_head n n (Nat.le_refl n) r er
  subst this
  rw [TL.numL_lt (by decide)] at er
  exact (List.cons.inj er).2.symm


/-! ### read, of any text -/
def wordsOf (z : Str) : List Str := Txt.split z sp1
def numOf (w : Str) : Int := (NumText.digitsVal (TL.tl w) : Nat)
def readOf (z : Str) : Option (List Int) :=
  if (wordsOf z).all figB = true then
    match (wordsOf z).map numOf with
    | [a, b, c, d] => if moveB (.int a) (.int b) (.int c) (.int d) = true then some [a, b, c, d] else none
    | _ => none
  else none
theorem get_map {α : Type} {f : α → V} {xs : List α} {i : Nat} {x : V} (h : (xs.map f)[i]? = some x) : ∃ j, xs[i]? = some j ∧ x = f j := by
  rw [List.getElem?_map] at h
  cases e : xs[i]? with
  | none =>
    rw [e] at h
    cases h
  | some z =>
    rw [e] at h
    exact ⟨z, rfl, (Option.some.inj h).symm⟩
theorem kit_sub {K : PySem.W.Frag} {C : Addr} {T : String} {b : Bool} (hm : PySem.W.kitMeta T = true) (h : PySem.W.subIn K (.ref C) (.type T) = some b) : PySem.W.kitOne K (.ref C) (.type T) = some b := by
  show (if (Value.ref C == Value.type T) = true then some true else (if PySem.W.kitMeta T = true then PySem.W.subIn K (.ref C) (.type T) else none)) = some b
  rw [if_neg (by intro z; cases z), if_pos hm]
  exact h
theorem spl_len (s : Nat) : ∀ (l : List Nat) (k : Nat) (acc : List Nat), (TL.spl [s] k acc l).length ≤ l.length + 1 ∧ ∀ p ∈ TL.spl [s] k acc l, p.length ≤ acc.length + l.length
  | [], k, acc => by
    have e : TL.spl [s] k acc [] = [acc] := by cases k <;> rfl
    rw [e]
    exact ⟨Nat.le_refl _, fun p hp => by rw [List.mem_singleton.mp hp]; exact Nat.le_add_right _ _⟩
  | c :: r, 0, acc => by
    show (if TL.pre [s] (c :: r) = true then acc :: TL.spl [s] 0 [] r else TL.spl [s] 0 (acc ++ [c]) r).length ≤ _ ∧ ∀ p ∈ (if TL.pre [s] (c :: r) = true then acc :: TL.spl [s] 0 [] r else TL.spl [s] 0 (acc ++ [c]) r), p.length ≤ _
    by_cases h : TL.pre [s] (c :: r) = true
    · rw [if_pos h]
      have q := spl_len s r 0 []
      refine ⟨by rw [List.length_cons, List.length_cons]; omega, fun p hp => ?_⟩
      rcases List.mem_cons.mp hp with rfl | hp
      · exact Nat.le_add_right _ _
      · have := q.2 p hp
        rw [List.length_cons]
        simp only [List.length_nil] at this
        omega
    · rw [if_neg h]
      have q := spl_len s r 0 (acc ++ [c])
      refine ⟨by rw [List.length_cons]; omega, fun p hp => ?_⟩
      have := q.2 p hp
      rw [List.length_append] at this
      rw [List.length_cons]
      simp only [List.length_cons, List.length_nil] at this
      omega
  | c :: r, k + 1, acc => by
    have q := spl_len s r k acc
    refine ⟨by show (TL.spl [s] k acc r).length ≤ _; rw [List.length_cons]; omega, fun p hp => ?_⟩
    have := q.2 p hp
    rw [List.length_cons]
    omega
theorem words_len {z : Str} (h : z.length ≤ 10000) : (wordsOf z).length ≤ 10001 ∧ ∀ w ∈ wordsOf z, w.length ≤ 10000 := by
  have e : (wordsOf z).map TL.tl = TL.spl [32] 0 [] (TL.tl z) := TL.split_spl z sp1 (by decide) (TL.kind_ok (by decide +kernel))
  have q := spl_len 32 (TL.tl z) 0 []
  rw [← e] at q
  have hz : (TL.tl z).length = z.length := (TL.len_tl z).symm
  refine ⟨?_, fun w hw => ?_⟩
  · have := q.1
    rw [List.length_map] at this
    omega
  · have := q.2 (TL.tl w) (List.mem_map.mpr ⟨w, hw, rfl⟩)
    rw [TL.len_tl]
    simp only [List.length_nil] at this
    omega
theorem int_fig {w : Str} (h : figB w = true) : PySem.intText? w = some (numOf w) := by
  obtain ⟨h1, h2, h3, h4⟩ := (figB_iff w).mp h
  exact PySem.intText_digits h2 h1 (by omega)
def sp_read (T : Tx K mg) : Sp := fun vs H Q E => ∃ z, vs = [.str z] ∧ z.length ≤ 10000 ∧
  (∀ ns H' p, readOf z = some ns → Same H H' → H p = none → H' p = some (.tup (ns.map V.int)) → Q (.ref p) H') ∧ (∀ H', readOf z = none → Same H H' → E (.ref T.a_NoMove) none H')
set_option maxHeartbeats 2000000 in
theorem ok_read (T : Tx K mg) : FnOk P w K mg base (L2.CX P w) 3 T.a_read T.d_read ["line"] (sp_read T) := by
  refine T.F_read.okX sc_read (fun vs H Q E h => ?_) (fun cdv A outer s H vs Q E hr h => ?_)
  · obtain ⟨z, rfl, _⟩ := h
    rfl
  · obtain ⟨z, rfl, hz, qy, qn⟩ := h
    refine ⟨_, pss_cons (ps_set (i := 1) sc_read.nd rfl (.inl rfl) (pe_split (pv 0) pe_str))
      (pss_cons (ps_if (pt_not (pt_val (pe_callB (cr_all rfl) (by rfl) T.m_all (by decide +kernel) (pa_cons (pe_lc (own := [("word", 3)]) (g := gName 3) (tt := tYes) rfl sc_read.nd (pi_list (pv 1)) (blkOk_by (own := [("word", 3)]) (N := ["line", "words", "move", "word"]) (sc := defScope s_read) (by decide +kernel)) (fun _ _ _ _ _ => pg_name (i := 3) sc_read.nd rfl (Or.inl rfl)) (fun _ _ _ _ _ => pts_nil) (fun _ _ _ _ _ => pe_call (ok_is_figures T) (hr.mono (by decide)) (by rfl) T.g_is_figures T.F_is_figures.kp T.b_is_figures .nil pass0 (pa_cons (pv 3) pa_nil))) pa_nil)))) (pss_one (ps_raise rfl (takes_of rfl rfl rfl rfl) (pmk_own PySem.F.excBase_ValueError T.x_NoMove T.gc_NoMove T.kc_NoMove (raises_own T.bc_NoMove T.tc_NoMove) rfl))) pss_nil)
      (pss_cons (ps_set (i := 2) sc_read.nd rfl (.inl rfl) (pe_callTy call_tuple_of (by rfl) T.m_tuple (by decide +kernel) (pa_cons (pe_lc (own := [("word", 3)]) (g := gName 3) (tt := tYes) rfl sc_read.nd (pi_list (pv 1)) (blkOk_by (own := [("word", 3)]) (N := ["line", "words", "move", "word"]) (sc := defScope s_read) (by decide +kernel)) (fun _ _ _ _ _ => pg_name (i := 3) sc_read.nd rfl (Or.inl rfl)) (fun _ _ _ _ _ => pts_nil) (fun _ _ _ _ _ => pe_callTy call_int_str (by rfl) T.m_int (by decide +kernel) (pa_cons (pv 3) pa_nil))) pa_nil)))
      (pss_cons (ps_if (pt_not (pt_val (pe_call (ok_is_move T) (hr.mono (by decide)) (by rfl) T.g_is_move T.F_is_move.kp T.b_is_move .nil pass0 (pa_cons (pv 2) pa_nil)))) (pss_one (ps_raise rfl (takes_of rfl rfl rfl rfl) (pmk_own PySem.F.excBase_ValueError T.x_NoMove T.gc_NoMove T.kc_NoMove (raises_own T.bc_NoMove T.tc_NoMove) rfl))) pss_nil)
      (pss_one (ps_ret (pv 2)))))), ?_⟩
    rw [st_read]
    walk_at "rd"
    refine ⟨Nat.le_trans (Nat.add_le_add_right hz 2) (by decide), fun p np => ?_⟩
    obtain ⟨ws, hws⟩ : ∃ ws, ws = wordsOf z := ⟨_, rfl⟩
    rw [show Txt.split z (Str.ofString " ") = ws from hws.symm]
    have hlen := words_len hz
    rw [← hws] at hlen
    have sp := same_upd (o := HO.lst (ws.map V.str)) np
    have hW : ∀ (H' : Hp), Same (upd H p (HO.lst (ws.map V.str))) H' → SqL K H' p (ws.map V.str) := fun H' s' => SqL.of (s' _ _ upd_same)
    refine ⟨_, rfl, p, rfl, ⟨_, hW _ (Same.refl _)⟩, fun D nD => ?_⟩
    have sD := fun o => same_upd (o := o) nD
    refine lc_list (K := K) (a := p) (xs := ws.map V.str) (fun i H2 => Same (upd H p (HO.lst (ws.map V.str))) H2 ∧ H2 D = some (.lst (((ws.take i).map figB).map V.bl)))
      ⟨sD _, upd_same⟩ (fun i H2 _ h => hW H2 h.1) ?_ ?_
    · rintro i x H2 hi ⟨s2, hD⟩
      obtain ⟨j, hj, rfl⟩ := get_map hi
      have hjl := hlen.2 j (List.mem_of_getElem? hj)
      have hil : i < ws.length := (List.getElem?_eq_some_iff.mp hj).1
      refine ⟨rfl, ?_⟩
      refine ⟨_, rfl, j, rfl, Nat.le_trans hjl (by decide), ?_⟩
      refine ⟨_, hD, Nat.lt_of_le_of_lt (show _ ≤ 10001 by rw [List.length_map, List.length_map, List.length_take]; omega) (by decide), same_set s2 nD, ?_⟩
      rw [upd_same, List.take_add_one, hj, List.map_append, List.map_append]
      rfl
    · rintro H2 ⟨s2, hD⟩
      rw [List.length_map, List.take_length] at hD
      refine ⟨D, _, rfl, SqL.of hD, ?_⟩
      rw [List.all_map]
      cases hall : ws.all (id ∘ figB) with
      | false =>
        walk_at "rd"
        refine qn _ ?_ (sp.trans s2)
        unfold readOf
        rw [← hws, if_neg (by rw [show ws.all figB = false from hall]; exact Bool.false_ne_true)]
      | true =>
      have hall' : ws.all figB = true := hall
      walk_at "rd"
      refine ⟨⟨_, hW _ s2⟩, fun F nF => ?_⟩
      have sF := fun o => same_upd (o := o) nF
      refine lc_list (K := K) (a := p) (xs := ws.map V.str) (fun i H3 => Same (upd H p (HO.lst (ws.map V.str))) H3 ∧ H3 F = some (.lst (((ws.take i).map numOf).map V.int)))
        ⟨s2.trans (sF _), upd_same⟩ (fun i H3 _ h => hW H3 h.1) ?_ ?_
      · rintro i x H3 hi ⟨s3, hF⟩
        obtain ⟨j, hj, rfl⟩ := get_map hi
        have hfig := List.all_eq_true.mp hall' j (List.mem_of_getElem? hj)
        have hil : i < ws.length := (List.getElem?_eq_some_iff.mp hj).1
        refine ⟨rfl, ?_⟩
        refine ⟨_, rfl, j, numOf j, rfl, int_fig hfig, Nat.le_trans ((figB_iff j).mp hfig).2.2.2 (by decide), ?_⟩
        refine ⟨_, hF, Nat.lt_of_le_of_lt (show _ ≤ 10001 by rw [List.length_map, List.length_map, List.length_take]; omega) (by decide), same_set s3 (s2.free nF), ?_⟩
        rw [upd_same, List.take_add_one, hj, List.map_append, List.map_append]
        rfl
      · rintro H3 ⟨s3, hF⟩
        rw [List.length_map, List.take_length] at hF
        refine ⟨F, _, rfl, .inl ⟨SqL.of hF, fun l nl => ?_⟩⟩
        have hl : (upd H3 l (HO.tup ((ws.map numOf).map V.int))) l = some (.tup ((ws.map numOf).map V.int)) := upd_same
        have sl := (sp.trans s3).trans (same_upd (o := HO.tup ((ws.map numOf).map V.int)) nl)
        walk_at "rd"
        have hread : readOf z = match ws.map numOf with
            | [a, b, c, d] => if moveB (.int a) (.int b) (.int c) (.int d) = true then some [a, b, c, d] else none
            | _ => none := by
          unfold readOf
          rw [← hws, if_pos hall']
        have hnl : H l = none := (sp.trans s3).free nl
        by_cases h4 : (ws.map numOf).length = 4
        · obtain ⟨a, b, c, d, e4⟩ : ∃ a b c d, ws.map numOf = [a, b, c, d] := by
            match ws.map numOf, h4 with
            | [a, b, c, d], _ => exact ⟨a, b, c, d, rfl⟩
          rw [e4] at hread hl ⊢
          refine .inl ⟨l, _, _, _, _, rfl, hl, .int _, .int _, .int _, .int _, ?_⟩
          cases em : moveB (.int a) (.int b) (.int c) (.int d) with
          | true =>
            walk_at "rd"
            have hr2 : readOf z = some [a, b, c, d] := by rw [hread]; exact if_pos em
            rw [e4] at sl
            exact qy _ _ _ hr2 sl hnl hl
          | false =>
            walk_at "rd"
            have hr2 : readOf z = none := by rw [hread]; exact if_neg (by rw [em]; exact Bool.false_ne_true)
            rw [e4] at sl
            exact qn _ hr2 sl
        · refine .inr ⟨.inl ⟨l, _, rfl, hl, by rw [List.length_map]; exact h4⟩, ?_⟩
          walk_at "rd"
          refine qn _ ?_ sl
          rw [hread]
          revert h4
          cases ws.map numOf with
          | nil => intro _; rfl
          | cons a r => cases r with
            | nil => intro _; rfl
            | cons b r => cases r with
              | nil => intro _; rfl
              | cons c r => cases r with
                | nil => intro _; rfl
                | cons d r => cases r with
                  | nil => intro h; exact absurd rfl h
                  | cons e r => intro _; rfl

/-! ### _law_due_of -/
def leastOf (k : Nat) : Int := 1 - (k : Int) % 2
theorem read_bad1 {z w : Str} (h : w ∈ wordsOf z) (hf : figB w = false) : readOf z = none := by
  unfold readOf
  rw [if_neg]
  intro hall
  have := List.all_eq_true.mp hall w h
  rw [hf] at this
  cases this
theorem read_len {z : Str} (h : (wordsOf z).length ≠ 4) : readOf z = none := by
  unfold readOf
  by_cases hall : (wordsOf z).all figB = true
  · rw [if_pos hall]
    have h' : ((wordsOf z).map numOf).length ≠ 4 := by rw [List.length_map]; exact h
    revert h'
    cases (wordsOf z).map numOf with
    | nil => intro _; rfl
    | cons a r => cases r with
      | nil => intro _; rfl
      | cons b r => cases r with
        | nil => intro _; rfl
        | cons c r => cases r with
          | nil => intro _; rfl
          | cons d r => cases r with
            | nil => intro h; exact absurd rfl h
            | cons e r => intro _; rfl
  · rw [if_neg hall]
theorem read_bad2 {z a b c d w : Str} (h : wordsOf z = [a, b, c, d]) (k : Nat) (hk : [a, b, c, d][k]? = some w) (hn : numB (leastOf k) (.int (numOf w)) = false) : readOf z = none := by
  unfold readOf
  rw [h]
  by_cases hall : [a, b, c, d].all figB = true
  · rw [if_pos hall]
    show (if moveB (.int (numOf a)) (.int (numOf b)) (.int (numOf c)) (.int (numOf d)) = true then _ else none) = none
    rw [if_neg]
    unfold moveB
    match k, hk with
    | 0, hk =>
      cases hk
      rw [show leastOf 0 = 1 from rfl] at hn
      rw [hn]
      intro z; cases z
    | 1, hk =>
      cases hk
      rw [show leastOf 1 = 0 from rfl] at hn
      rw [hn, Bool.and_false]
      intro z; cases z
    | 2, hk =>
      cases hk
      rw [show leastOf 2 = 1 from rfl] at hn
      rw [hn, Bool.false_and, Bool.and_false]
      intro z; cases z
    | 3, hk =>
      cases hk
      rw [show leastOf 3 = 0 from rfl] at hn
      rw [hn, Bool.and_false, Bool.and_false]
      intro z; cases z
    | k + 4, hk => cases hk
  · rw [if_neg hall]
theorem read_good {z a b c d : Str} (h : wordsOf z = [a, b, c, d]) (hg : ∀ (k : Nat) (w : Str), [a, b, c, d][k]? = some w → figB w = true ∧ numB (leastOf k) (.int (numOf w)) = true) : readOf z = some [numOf a, numOf b, numOf c, numOf d] := by
  have g0 := hg 0 a rfl
  have g1 := hg 1 b rfl
  have g2 := hg 2 c rfl
  have g3 := hg 3 d rfl
  unfold readOf
  rw [h, if_pos (by
    show (figB a && (figB b && (figB c && (figB d && true)))) = true
    rw [g0.1, g1.1, g2.1, g3.1]
    rfl)]
  show (if moveB (.int (numOf a)) (.int (numOf b)) (.int (numOf c)) (.int (numOf d)) = true then _ else none) = _
  rw [if_pos]
  unfold moveB
  have e0 := g0.2
  have e1 := g1.2
  have e2 := g2.2
  have e3 := g3.2
  rw [show leastOf 0 = 1 from rfl] at e0
  rw [show leastOf 1 = 0 from rfl] at e1
  rw [show leastOf 2 = 1 from rfl] at e2
  rw [show leastOf 3 = 0 from rfl] at e3
  rw [e0, e1, e2, e3]
  rfl
theorem for_strg {x : Str} {g : TG} {tb : TS} {D : Ends} {σ : L2.St} {H : Hp} (Pv : Nat → L2.St → Hp → Prop) (h0 : Pv 0 σ H)
    (hs : ∀ i c σ H, (TL.tl x)[i]? = some c → Pv i σ H → g (.str ⟨#[c]⟩) σ H fun σ2 H2 => tb { D with nx := Pv (i + 1), ct := Pv (i + 1), bk := D.nx } σ2 H2) (hd : ∀ σ H, Pv (TL.tl x).length σ H → D.nx σ H) :
    ∃ W : Nat → Nat → L2.St → Hp → Prop, (∃ m, W 0 m σ H) ∧ ∀ i m σ H, W i m σ H →
      ((Its x).stop i H ∧ D.nx σ H) ∨ ((Its x).go i H ∧ ∃ N : L2.St → Hp → Prop, (∀ σ' H', N σ' H' → ∃ m', m' < m ∧ W (i + 1) m' σ' H') ∧ ∀ y H', (Its x).yld i H y H' → g y σ H' fun σ2 H2 => tb { D with nx := N, ct := N, bk := D.nx } σ2 H2) := by
  have e : (TL.tl x).length = x.cps.size := Array.length_toList
  refine ⟨fun i m σ H => m = (TL.tl x).length - i ∧ i ≤ (TL.tl x).length ∧ Pv i σ H, ⟨(TL.tl x).length, by simp, Nat.zero_le _, h0⟩, ?_⟩
  rintro i m σ H ⟨rfl, hi, p⟩
  by_cases hlt : i < (TL.tl x).length
  · refine .inr ⟨show i < x.cps.size by omega, Pv (i + 1), fun σ' H' p' => ⟨(TL.tl x).length - (i + 1), by omega, rfl, hlt, p'⟩, fun y H' hy => ?_⟩
    obtain ⟨e1, c, ec, rfl⟩ := hy
    subst e1
    exact hs i c σ _ (by rw [← ec]; exact Array.getElem?_toList) p
  · have e2 : i = (TL.tl x).length := by omega
    subst e2
    exact .inl ⟨show x.cps.size ≤ _ by omega, hd σ H p⟩
theorem in_ten (c : Nat) : c ∈ TL.tl ("0123456789" : Str) ↔ 48 ≤ c ∧ c ≤ 57 := by
  show c ∈ [48, 49, 50, 51, 52, 53, 54, 55, 56, 57] ↔ _
  simp only [List.mem_cons, List.mem_nil_iff, or_false]
  omega
def sp_law_due_of (K : PySem.W.Frag) : Sp := fun vs H Q _ => ∃ z, vs = [.str z] ∧ z.length ≤ 10000 ∧
  (∀ ns H' p, readOf z = some ns → ns.length = 4 → Same H H' → H p = none → H' p = some (.tup (ns.map V.int)) → Q (.ref p) H') ∧ (∀ H', readOf z = none → Same H H' → Q .non H')
set_option maxHeartbeats 4000000 in
theorem ok_law_due_of (T : Tx K mg) : FnOk P w K mg base CX0 1 T.a_law_due_of T.d_law_due_of ["_law_line"] (sp_law_due_of K) := by
  refine T.F_law_due_of.ok sc_law_due_of (fun vs H Q E h => ?_) (fun cdv A outer s H vs Q E hr h => ?_)
  · obtain ⟨z, rfl, _⟩ := h
    rfl
  · obtain ⟨z, rfl, hz, qy, qn⟩ := h
    refine ⟨_, pss_cons (ps_set (i := 1) sc_law_due_of.nd rfl (.inl rfl) (pe_split (pv 0) pe_str))
      (pss_cons (ps_if (pt_cmpR op_ne (pe_callB call_len_seq (by rfl) T.m_len PySem.boot_len (pa_cons (pv 1) pa_nil)) pe_int (nomark _)) (pss_one (ps_ret pe_non)) pss_nil)
      (pss_cons (ps_set (i := 2) sc_law_due_of.nd rfl (.inl rfl) (pe_lst pa_nil))
      (pss_cons (ps_for PassesOwn.never rfl (pi_range1 (by rfl) T.m_range (pa_cons pe_int pa_nil)) (pg_name (i := 3) sc_law_due_of.nd rfl (Or.inl rfl)) (pss_cons (ps_if (PW.pt (pw_or (pt_cmpR op_eq (pe_ix ix_list (pv 1) (pv 3) (fun _ _ => rfl)) pe_str (nomark _)) (pw_or1 (PW.pt (pw_and (pt_cmpR op_eq (pe_item_str (pe_ix ix_list (pv 1) (pv 3) (fun _ _ => rfl)) pe_int (fun _ _ => rfl)) pe_str (nomark _)) (pw_and1 (pt_cmpR op_gt (pe_callB call_len (by rfl) T.m_len PySem.boot_len (pa_cons (pe_ix ix_list (pv 1) (pv 3) (fun _ _ => rfl)) pa_nil)) pe_int (nomark _)))))))) (pss_one (ps_ret pe_non)) pss_nil)
      (pss_cons (ps_for PassesOwn.never rfl (pi_str (pe_ix ix_list (pv 1) (pv 3) (fun _ _ => rfl))) (pg_name (i := 4) sc_law_due_of.nd rfl (Or.inl rfl)) (pss_one (ps_if (pt_cmpR op_notIn_sign (pv 4) pe_str rfl) (pss_one (ps_ret pe_non)) pss_nil)))
      (pss_cons (ps_if (PW.pt (pw_or (pt_cmpR op_gt (pe_callB call_len (by rfl) T.m_len PySem.boot_len (pa_cons (pe_ix ix_list (pv 1) (pv 3) (fun _ _ => rfl)) pa_nil)) pe_int (nomark _)) (pw_or (pt_cmpR op_gt (pe_callTy call_int_str (by rfl) T.m_int (by decide +kernel) (pa_cons (pe_ix ix_list (pv 1) (pv 3) (fun _ _ => rfl)) pa_nil)) (pe_op op_pow pe_int pe_int) (nomark _)) (pw_or1 (pt_cmpR op_lt (pe_callTy call_int_str (by rfl) T.m_int (by decide +kernel) (pa_cons (pe_ix ix_list (pv 1) (pv 3) (fun _ _ => rfl)) pa_nil)) (pe_op op_sub pe_int (pe_op op_mod (pv 3) pe_int)) (nomark _)))))) (pss_one (ps_ret pe_non)) pss_nil)
      (pss_one (ps_expr (pe_bm PySem.F.plainAttrs_list PySem.F.slot_list_append PySem.F.type_list_append mt_append (pv 2) (pa_cons (pe_callTy call_int_str (by rfl) T.m_int (by decide +kernel) (pa_cons (pe_ix ix_list (pv 1) (pv 3) (fun _ _ => rfl)) pa_nil)) pa_nil))))))))
      (pss_one (ps_ret (pe_callTy call_tuple_of (by rfl) T.m_tuple (by decide +kernel) (pa_cons (pv 2) pa_nil))))))), ?_⟩
    rw [st_law_due_of]
    walk_at "rd"
    refine ⟨Nat.le_trans (Nat.add_le_add_right hz 2) (by decide), fun p np => ?_⟩
    obtain ⟨ws, hws⟩ : ∃ ws, ws = wordsOf z := ⟨_, rfl⟩
    rw [show Txt.split z (Str.ofString " ") = ws from hws.symm]
    have hlen := words_len hz
    rw [← hws] at hlen
    have sp := same_upd (o := HO.lst (ws.map V.str)) np
    have hp0 : SqL K (upd H p (HO.lst (ws.map V.str))) p (ws.map V.str) := SqL.of upd_same
    walk_at "rd"
    refine ⟨p, _, rfl, .inl hp0, rfl, _, rfl, ?_⟩
    rw [List.length_map]
    refine ite2 (fun e => ?_) (fun e => ?_)
    · walk_at "rd"
      refine qn _ (read_len ?_) sp
      rw [← hws]
      intro h4
      rw [h4] at e
      exact absurd e (by decide)
    have h4 : ws.length = 4 := by
      by_cases h4 : ws.length = 4
      · exact h4
      · refine absurd ?_ e
        rw [decide_eq_false (fun q => h4 (by have := V.int.inj q; omega))]
        rfl
    obtain ⟨w0, w1, w2, w3, e4⟩ : ∃ a b c d, ws = [a, b, c, d] := by
      match ws, h4 with
      | [a, b, c, d], _ => exact ⟨a, b, c, d, rfl⟩
    rw [e4] at hws hlen hp0 sp ⊢
    clear e4 h4 e
    walk_at "rd"
    intro m nm
    have hp60 := p60
    refine ⟨4, rfl, by decide, by decide, for_range (n := 4) (fun i σ H2 => ∃ v3 v4, σ = [some (.str z), some (.ref p), some (.ref m), v3, v4] ∧ Same (upd H p (HO.lst (List.map V.str [w0, w1, w2, w3]))) H2 ∧ H2 m = some (.lst ((([w0, w1, w2, w3].take i).map numOf).map V.int)) ∧ (∀ (k : Nat) (w : Str), k < i → [w0, w1, w2, w3][k]? = some w → figB w = true ∧ numB (leastOf k) (.int (numOf w)) = true))
      ⟨none, none, rfl, same_upd nm, upd_same, fun k w h => absurd h (Nat.not_lt_zero k)⟩ ?_ ?_⟩
    · rintro i σ H2 hi ⟨v3, v4, rfl, s2, hm, hok⟩
      rw [Int.zero_add]
      obtain ⟨w, hw⟩ : ∃ w, [w0, w1, w2, w3][i]? = some w := ⟨_, List.getElem?_eq_getElem hi⟩
      have at1 : atI ([w0, w1, w2, w3].map V.str) (i : Int) = some (.str w) := atI_nat (by rw [List.getElem?_map, hw]; rfl)
      have hpS : SqL K H2 p ([w0, w1, w2, w3].map V.str) := s2.seq hp0
      have hmem : w ∈ wordsOf z := hws ▸ List.mem_of_getElem? hw
      have hwl := hlen.2 w (List.mem_of_getElem? hw)
      have sH := sp.trans s2
      have bad : figB w = false → Q .non H2 := fun hf => qn _ (read_bad1 hmem hf) sH
      have nofig : (figB w = true → False) → figB w = false := fun h => by
        cases e : figB w with
        | false => rfl
        | true => exact (h e).elim
      have hwlen := TL.len_tl w
      walk_at "rd"
      by_cases c1 : TL.tl w = []
      · have ew : w = Str.ofString "" := TL.ext_tl c1
        refine ite_eq (congrArg V.str ew) ?_
        exact bad (nofig fun hf => ((figB_iff w).mp hf).1 c1)
      have d1 : decide (V.str w = V.str (Str.ofString "")) = false := decide_eq_false fun q => c1 (by rw [V.str.inj q]; rfl)
      rw [d1]
      refine iteF ?_
      obtain ⟨c, r, hcr⟩ : ∃ c r, TL.tl w = c :: r := by
        cases e : TL.tl w with
        | nil => exact absurd e c1
        | cons c r => exact ⟨c, r, rfl⟩
      rw [hcr, List.length_cons] at hwlen
      walk_at "rd"
      refine ⟨w, 0, c, rfl, rfl, by decide, by decide, by omega, ?_, ?_⟩
      · show w.cps[0]? = some c
        rw [← Array.getElem?_toList]
        show (TL.tl w)[0]? = some c
        rw [hcr]
        rfl
      walk_at "rd"
      by_cases c2 : c = 48
      · subst c2
        refine ite_eq rfl ?_
        walk_at "rd"
        refine ⟨_, _, rfl, ⟨Nat.le_trans hwl (by decide), rfl⟩, ?_⟩
        walk_at "rd"
        by_cases c3 : 1 < w.length
        · rw [decide_eq_true (show (1 : Int) < (w.length : Nat) by omega)]
          refine iteT ?_
          refine bad (nofig fun hf => ?_)
          have := ((figB_iff w).mp hf).2.2.1 r hcr
          rw [this, List.length_nil] at hwlen
          omega
        rw [decide_eq_false (show ¬ (1 : Int) < (w.length : Nat) by omega)]
        refine iteF ?_
        have hzero : ∀ r', TL.tl w = 48 :: r' → r' = [] := fun r' e => by
          rw [hcr] at e
          have e2 := (List.cons.inj e).2
          rw [← e2]
          exact List.length_eq_zero_iff.mp (by omega)
        walk_at "rq"
        refine for_strg (x := w) (fun j σ H3 => ∃ v4, σ = [some (.str z), some (.ref p), some (.ref m), some (.int i), v4] ∧ H3 = H2 ∧ ∀ c ∈ (TL.tl w).take j, 48 ≤ c ∧ c ≤ 57) ⟨_, rfl, rfl, by simp⟩ ?_ ?_
        · rintro j c' σ H3 hc ⟨v4, rfl, rfl, hdig⟩
          walk_at "rd"
          by_cases hd : 48 ≤ c' ∧ c' ≤ 57
          · rw [decide_eq_true ((in_ten c').mpr hd)]
            refine iteF ?_
            refine ⟨_, rfl, rfl, fun c hc' => ?_⟩
            rw [List.take_add_one, hc] at hc'
            rcases List.mem_append.mp hc' with h | h
            · exact hdig c h
            · rw [show c = c' from by simpa using h]
              exact hd
          · rw [decide_eq_false (fun q => hd ((in_ten c').mp q))]
            refine iteT ?_
            refine bad (nofig fun hf => hd ?_)
            exact ((figB_iff w).mp hf).2.1 c' (List.mem_of_getElem? hc)
        · rintro σ H3 ⟨v4, rfl, rfl, hdig⟩
          rw [List.take_length] at hdig
          walk_at "rd"
          refine ⟨_, _, rfl, ⟨Nat.le_trans hwl (by decide), rfl⟩, ?_⟩
          walk_at "rd"
          by_cases c5 : w.length ≤ 61
          · rw [decide_eq_false (show ¬ (61 : Int) < (w.length : Nat) by omega)]
            refine iteF ?_
            have hf : figB w = true := (figB_iff w).mpr ⟨c1, hdig, hzero, c5⟩
            walk_at "rd"
            refine ⟨w, numOf w, rfl, int_fig hf, by omega, ?_⟩
            walk_at "rd"
            rw [hp60]
            by_cases c6 : G60 < numOf w
            · rw [decide_eq_true c6]
              refine iteT ?_
              exact qn _ (read_bad2 hws.symm i hw (numB_hi c6)) sH
            · rw [decide_eq_false c6]
              refine iteF ?_
              walk_at "rd"
              refine ⟨w, numOf w, rfl, int_fig hf, by omega, ?_⟩
              walk_at "rd"
              by_cases c7 : numOf w < 1 - (i : Int) % 2
              · rw [decide_eq_true c7]
                refine iteT ?_
                exact qn _ (read_bad2 hws.symm i hw (numB_lo c7)) sH
              · rw [decide_eq_false c7]
                refine iteF ?_
                walk_at "rd"
                refine ⟨.inl ⟨rfl, _, SqL.of hm⟩, ?_⟩
                walk_at "rd"
                refine ⟨w, numOf w, rfl, int_fig hf, by omega, ?_⟩
                refine ⟨m, _, _, rfl, rfl, hm, small1000 (by rw [List.length_map, List.length_map, List.length_take]; omega), ?_⟩
                refine ⟨_, _, rfl, same_set s2 nm, ?_, fun k u hk hu => ?_⟩
                · rw [upd_same, List.take_add_one, hw, List.map_append, List.map_append]
                  rfl
                · by_cases ek : k < i
                  · exact hok k u ek hu
                  · have ek : k = i := by omega
                    subst ek
                    rw [hw] at hu
                    cases hu
                    exact ⟨hf, numB_in c7 c6⟩
          · rw [decide_eq_true (show (61 : Int) < (w.length : Nat) by omega)]
            refine iteT ?_
            exact bad (nofig fun hf => c5 ((figB_iff w).mp hf).2.2.2)
      · have d2 : decide (V.str ⟨#[c]⟩ = V.str (Str.ofString "0")) = false := decide_eq_false fun q => c2 (by
          have := congrArg (fun x : Str => x.cps.toList) (V.str.inj q)
          exact (List.cons.inj this).1)
        rw [d2]
        refine iteF ?_
        have hzero : ∀ r', TL.tl w = 48 :: r' → r' = [] := fun r' e => by
          rw [hcr] at e
          exact absurd (List.cons.inj e).1 c2
        walk_at "rq"
        refine for_strg (x := w) (fun j σ H3 => ∃ v4, σ = [some (.str z), some (.ref p), some (.ref m), some (.int i), v4] ∧ H3 = H2 ∧ ∀ c ∈ (TL.tl w).take j, 48 ≤ c ∧ c ≤ 57) ⟨_, rfl, rfl, by simp⟩ ?_ ?_
        · rintro j c' σ H3 hc ⟨v4, rfl, rfl, hdig⟩
          walk_at "rd"
          by_cases hd : 48 ≤ c' ∧ c' ≤ 57
          · rw [decide_eq_true ((in_ten c').mpr hd)]
            refine iteF ?_
            refine ⟨_, rfl, rfl, fun c hc' => ?_⟩
            rw [List.take_add_one, hc] at hc'
            rcases List.mem_append.mp hc' with h | h
            · exact hdig c h
            · rw [show c = c' from by simpa using h]
              exact hd
          · rw [decide_eq_false (fun q => hd ((in_ten c').mp q))]
            refine iteT ?_
            refine bad (nofig fun hf => hd ?_)
            exact ((figB_iff w).mp hf).2.1 c' (List.mem_of_getElem? hc)
        · rintro σ H3 ⟨v4, rfl, rfl, hdig⟩
          rw [List.take_length] at hdig
          walk_at "rd"
          refine ⟨_, _, rfl, ⟨Nat.le_trans hwl (by decide), rfl⟩, ?_⟩
          walk_at "rd"
          by_cases c5 : w.length ≤ 61
          · rw [decide_eq_false (show ¬ (61 : Int) < (w.length : Nat) by omega)]
            refine iteF ?_
            have hf : figB w = true := (figB_iff w).mpr ⟨c1, hdig, hzero, c5⟩
            walk_at "rd"
            refine ⟨w, numOf w, rfl, int_fig hf, by omega, ?_⟩
            walk_at "rd"
            rw [hp60]
            by_cases c6 : G60 < numOf w
            · rw [decide_eq_true c6]
              refine iteT ?_
              exact qn _ (read_bad2 hws.symm i hw (numB_hi c6)) sH
            · rw [decide_eq_false c6]
              refine iteF ?_
              walk_at "rd"
              refine ⟨w, numOf w, rfl, int_fig hf, by omega, ?_⟩
              walk_at "rd"
              by_cases c7 : numOf w < 1 - (i : Int) % 2
              · rw [decide_eq_true c7]
                refine iteT ?_
                exact qn _ (read_bad2 hws.symm i hw (numB_lo c7)) sH
              · rw [decide_eq_false c7]
                refine iteF ?_
                walk_at "rd"
                refine ⟨.inl ⟨rfl, _, SqL.of hm⟩, ?_⟩
                walk_at "rd"
                refine ⟨w, numOf w, rfl, int_fig hf, by omega, ?_⟩
                refine ⟨m, _, _, rfl, rfl, hm, small1000 (by rw [List.length_map, List.length_map, List.length_take]; omega), ?_⟩
                refine ⟨_, _, rfl, same_set s2 nm, ?_, fun k u hk hu => ?_⟩
                · rw [upd_same, List.take_add_one, hw, List.map_append, List.map_append]
                  rfl
                · by_cases ek : k < i
                  · exact hok k u ek hu
                  · have ek : k = i := by omega
                    subst ek
                    rw [hw] at hu
                    cases hu
                    exact ⟨hf, numB_in c7 c6⟩
          · rw [decide_eq_true (show (61 : Int) < (w.length : Nat) by omega)]
            refine iteT ?_
            exact bad (nofig fun hf => c5 ((figB_iff w).mp hf).2.2.2)
    · rintro σ H2 ⟨v3, v4, rfl, s2, hm, hok⟩
      refine ⟨_, rfl, m, _, rfl, .inl ⟨SqL.of hm, fun l nl => ?_⟩⟩
      have hr2 := read_good hws.symm fun k w hk => hok k w (List.getElem?_eq_some_iff.mp hk).1 hk
      exact qy _ _ _ hr2 rfl ((sp.trans s2).trans (same_upd nl)) ((sp.trans s2).free nl) upd_same

def sp_law_whole (K : PySem.W.Frag) : Sp := fun vs H Q _ => ∃ i : Int, vs = [.int i] ∧ Q (.bl true) H
theorem ok_law_whole (T : Tx K mg) : FnOk P w K mg base CX0 1 T.a_law_whole T.d_law_whole ["_law_found"] (sp_law_whole K) := by
  refine T.F_law_whole.ok sc_law_whole (fun vs H Q E h => ?_) (fun cdv A outer s H vs Q E hr h => ?_)
  · obtain ⟨i, rfl, _⟩ := h
    rfl
  · obtain ⟨i, rfl, q⟩ := h
    refine ⟨_, pss_one (ps_ret (pe_and (pe_callB call_isi (by rfl) T.m_isinstance (by decide +kernel) (pa_cons (pv 0) (pa_cons (pe_bltn (v := .ty "int") (by rfl) T.m_int (by decide +kernel) rfl) pa_nil))) (pe_one (pe_not (pe_callB call_isi (by rfl) T.m_isinstance (by decide +kernel) (pa_cons (pv 0) (pa_cons (pe_bltn (v := .ty "bool") (by rfl) T.m_bool (by decide +kernel) rfl) pa_nil))))))), ?_⟩
    walk_at "rd"
    exact q
def sp_law_same_move (K : PySem.W.Frag) : Sp := fun vs H Q _ => ∃ (p q : Addr) (xs : List Int), vs = [.ref p, .ref q] ∧ H p = some (.tup (xs.map V.int)) ∧ H q = some (.tup (xs.map V.int)) ∧ xs.length = 4 ∧ Q (.bl true) H
set_option maxHeartbeats 1000000 in
theorem ok_law_same_move (T : Tx K mg) : FnOk P w K mg base CX0 2 T.a_law_same_move T.d_law_same_move ["_law_found", "_law_due"] (sp_law_same_move K) := by
  refine T.F_law_same_move.ok sc_law_same_move (fun vs H Q E h => ?_) (fun cdv A outer s H vs Q E hr h => ?_)
  · obtain ⟨p, q, xs, rfl, _⟩ := h
    rfl
  · obtain ⟨a, b, l, rfl, ha, hb, hl, q⟩ := h
    refine ⟨_, pss_cons (ps_if (PW.pt (pw_or (pt_not (pt_val (pe_callB call_isi (by rfl) T.m_isinstance (by decide +kernel) (pa_cons (pv 0) (pa_cons (pe_bltn (v := .ty "tuple") (by rfl) T.m_tuple (by decide +kernel) rfl) pa_nil))))) (pw_or1 (pt_cmpR op_ne (pe_callB call_len_seq (by rfl) T.m_len PySem.boot_len (pa_cons (pv 0) pa_nil)) pe_int (nomark _))))) (pss_one (ps_ret pe_bl)) pss_nil)
      (pss_cons (ps_for PassesOwn.never rfl (pi_range1 (by rfl) T.m_range (pa_cons pe_int pa_nil)) (pg_name (i := 2) sc_law_same_move.nd rfl (Or.inl rfl)) (pss_one (ps_if (PW.pt (pw_or (pt_not (pt_val (pe_call (ok_law_whole T) (hr.mono (by decide)) (by rfl) T.g_law_whole T.F_law_whole.kp T.b_law_whole .nil pass0 (pa_cons (pe_ix ix_tup (pv 0) (pv 2) (fun _ _ => rfl)) pa_nil)))) (pw_or1 (pt_cmpR op_ne (pe_ix ix_tup (pv 0) (pv 2) (fun _ _ => rfl)) (pe_ix ix_tup (pv 1) (pv 2) (fun _ _ => rfl)) (nomark _))))) (pss_one (ps_ret pe_bl)) pss_nil)))
      (pss_one (ps_ret pe_bl))), ?_⟩
    rw [st_law_same_move]
    walk_at "rd"
    refine ⟨a, _, rfl, .inr (SqT.of ha), rfl, _, rfl, ?_⟩
    rw [List.length_map, hl]
    refine ite_ne rfl ?_
    refine ⟨4, rfl, by decide, by decide, for_range (n := 4) (fun i σ H2 => ∃ v2, σ = [some (.ref a), some (.ref b), v2] ∧ H2 = H) ⟨none, rfl, rfl⟩ ?_ ?_⟩
    · rintro i σ H2 hi ⟨v2, rfl, rfl⟩
      rw [Int.zero_add]
      have g : (l.map V.int)[i]? = some (.int l[i]) := by
        rw [List.getElem?_map, List.getElem?_eq_getElem (by omega)]
        rfl
      have at1 := atI_nat g
      walk_at "rd"
      refine ⟨a, _, _, _, rfl, rfl, SqT.of ha, at1, ?_⟩
      walk_at "rd"
      refine ⟨a, _, _, _, rfl, rfl, SqT.of ha, at1, ?_⟩
      walk_at "rd"
      refine ⟨b, _, _, _, rfl, rfl, SqT.of hb, at1, ?_⟩
      walk_at "rd"
    · rintro σ H2 ⟨v2, rfl, rfl⟩
      exact q

theorem cat_len (x y : Str) : (x ++ y).length = x.length + y.length := by
  rw [TL.len_tl, TL.len_tl, TL.len_tl, TL.tl_append, List.length_append]

theorem op_rep_str {X : Cx} : OpR X (binaryOp .Mult) (fun x y H Q => ∃ i n, x = .str i ∧ y = .int n ∧ MulOk i n ∧ Q (.str (Txt.mul i n)) H) := by
  intro pins s σ H x y v u Q I rx ry h
  obtain ⟨i, n, rfl, rfl, hz, q⟩ := h
  obtain ⟨t, rfl⟩ := rx
  obtain ⟨t', rfl⟩ := ry
  exact PySem.SB.mul hz (fun t' tk => ⟨.str (Txt.mul i n), H, I.tok _, ⟨_, rfl⟩, q⟩)
theorem foldl_size (c : Array Nat) : ∀ (n : Nat) (acc : Array Nat), ((List.replicate n c).foldl (· ++ ·) acc).size = acc.size + n * c.size
  | 0, acc => by
    rw [List.replicate_zero, List.foldl_nil, Nat.zero_mul, Nat.add_zero]
  | n + 1, acc => by
    rw [List.replicate_succ, List.foldl_cons, foldl_size c n, Array.size_append, Nat.succ_mul]
    omega
theorem mul_len (c : Nat) (n : Nat) : (Txt.mul ⟨#[c]⟩ (n : Int)).length ≤ n + 1 := by
  unfold Txt.mul
  split
  · exact Nat.zero_le _
  · split
    · exact Nat.succ_le_succ (Nat.zero_le _)
    · show ((List.replicate ((n : Int).toNat) #[c]).foldl (· ++ ·) #[]).size ≤ _
      rw [foldl_size]
      show 0 + n * 1 ≤ n + 1
      omega
def sp_law_sign_by (K : PySem.W.Frag) : Sp := fun vs H Q _ => ∃ c : Int, vs = [.int c] ∧ ∀ z : Str, z.length = 1 → Q (.str z) H
theorem ok_law_sign_by (T : Tx K mg) : FnOk P w K mg base CX0 1 T.a_law_sign_by T.d_law_sign_by ["_law_cell"] (sp_law_sign_by K) := by
  refine T.F_law_sign_by.ok sc_law_sign_by (fun vs H Q E h => ?_) (fun cdv A outer s H vs Q E hr h => ?_)
  · obtain ⟨c, rfl, _⟩ := h
    rfl
  · obtain ⟨c, rfl, q⟩ := h
    refine ⟨_, pss_cons (ps_set (i := 1) sc_law_sign_by.nd rfl (.inl rfl) pe_str)
      (pss_cons (ps_set (i := 1) sc_law_sign_by.nd rfl (.inl rfl) (pe_op op_add_str (pv 1) pe_str))
      (pss_one (ps_ret (pe_item_str (pv 1) (pe_op op_mod (pv 0) pe_int) (fun _ _ => rfl))))), ?_⟩
    rw [st_law_sign_by]
    walk_at "rd"
    generalize hz : Str.ofString " !\"#$&'()*+,-./0123456789:;<=>?@ABCDEFGHIJKLMNOPQRSTUVWXYZ[\\]^_`" ++ Str.ofString "abcdefghijklmnopqrstuvwxyz{|}~\n\t" = zz
    have hl : zz.length = 96 := by
      rw [← hz, cat_len]
      rfl
    have hs : zz.cps.size = 96 := hl
    have h0 := Int.emod_nonneg c (show (96 : Int) ≠ 0 by decide)
    have h1 := Int.emod_lt_of_pos c (show (0 : Int) < 96 by decide)
    exact ⟨zz, c % 96, zz.cps[(c % 96).toNat]'(by omega), rfl, rfl, h0, by omega, by omega, Array.getElem?_eq_getElem _, q _ rfl⟩
def sp_law_number (K : PySem.W.Frag) : Sp := fun vs H Q _ => ∃ c : Int, vs = [.int c] ∧ ∀ r : Int, 0 ≤ r → r ≤ G60 + 1 → Q (.int r) H
theorem ok_law_number (T : Tx K mg) : FnOk P w K mg base CX0 1 T.a_law_number T.d_law_number ["_law_cell"] (sp_law_number K) := by
  refine T.F_law_number.ok sc_law_number (fun vs H Q E h => ?_) (fun cdv A outer s H vs Q E hr h => ?_)
  · obtain ⟨c, rfl, _⟩ := h
    rfl
  · obtain ⟨c, rfl, q⟩ := h
    refine ⟨_, pss_cons (ps_if (pt_cmpR op_eq (pe_op op_mod (pv 0) pe_int) pe_int (nomark _)) (pss_one (ps_ret pe_int)) pss_nil)
      (pss_cons (ps_if (pt_cmpR op_eq (pe_op op_mod (pv 0) pe_int) pe_int (nomark _)) (pss_one (ps_ret (pe_op op_add (pe_op op_pow pe_int pe_int) (pe_op op_mod (pe_op op_fdiv (pv 0) pe_int) pe_int)))) pss_nil)
      (pss_one (ps_ret (pe_op op_add pe_int (pe_op op_mod (pe_op op_fdiv (pv 0) pe_int) pe_int))))), ?_⟩
    rw [st_law_number]
    have hp := p60
    have hG : G60 = 1000000000000000000000000000000000000000000000000000000000000 := rfl
    walk_at "rd"
    refine ite2 (fun _ => ?_) (fun _ => ?_)
    · walk_at "rd"
      exact q _ (by omega) (by omega)
    walk_at "rd"
    refine ite2 (fun _ => ?_) (fun _ => ?_)
    · walk_at "rd"
      exact q _ (by omega) (by omega)
    walk_at "rd"
    exact q _ (by omega) (by omega)
theorem at_strs {c : Int} {n : Nat} (hn : 0 < n) {xs : List V} (hl : xs.length = n) (h : ∀ v ∈ xs, ∃ z : Str, v = .str z ∧ z.length ≤ 6000) : ∃ z : Str, atI xs (c % (n : Int)) = some (.str z) ∧ z.length ≤ 6000 := by
  have h0 := Int.emod_nonneg c (show (n : Int) ≠ 0 by omega)
  have h1 := Int.emod_lt_of_pos c (show (0 : Int) < n by omega)
  obtain ⟨k, hk⟩ := Int.eq_ofNat_of_zero_le h0
  rw [hk]
  have hlt : k < xs.length := by omega
  obtain ⟨z, e, hz⟩ := h _ (List.getElem_mem hlt)
  exact ⟨z, atI_nat (by rw [List.getElem?_eq_getElem hlt, e]), hz⟩
def oddL (A B : Str) : List V := [V.str (Str.ofString ""), V.str (Str.ofString " "), V.str (Str.ofString "1"), V.str (Str.ofString "1 2 3"), V.str (Str.ofString "1 2 3 4 5"), V.str (Str.ofString "1  2 3 4"), V.str (Str.ofString " 1 2 3 4"), V.str (Str.ofString "1 2 3 4 ")] ++ [V.str (Str.ofString "1,2,3,4"), V.str (Str.ofString "+1 2 3 4"), V.str (Str.ofString "1 -0 3 4"), V.str (Str.ofString "a b c d"), V.str (Str.ofString "1 2 3 4\n"), V.str (Str.ofString "1_0 2 3 4")] ++ [V.str A, V.str B, V.str (Str.ofString "1 0 1 00"), V.str (Str.ofString "0 0 0 0")]
theorem odd_at (c : Int) (A B : Str) (hA : A.length ≤ 6000) (hB : B.length ≤ 6000) : ∃ z : Str, atI (oddL A B) (c % 18) = some (.str z) ∧ z.length ≤ 6000 := by
  refine at_strs (n := 18) (by decide) rfl ?_
  refine List.forall_mem_append.mpr ⟨List.forall_mem_append.mpr ⟨?_, ?_⟩, ?_⟩
  · repeat (refine List.forall_mem_cons.mpr ⟨⟨_, rfl, by decide⟩, ?_⟩)
    exact fun _ h => nomatch h
  · repeat (refine List.forall_mem_cons.mpr ⟨⟨_, rfl, by decide⟩, ?_⟩)
    exact fun _ h => nomatch h
  · refine List.forall_mem_cons.mpr ⟨⟨_, rfl, hA⟩, ?_⟩
    refine List.forall_mem_cons.mpr ⟨⟨_, rfl, hB⟩, ?_⟩
    repeat (refine List.forall_mem_cons.mpr ⟨⟨_, rfl, by decide⟩, ?_⟩)
    exact fun _ h => nomatch h
def sp_law_odd_line (K : PySem.W.Frag) : Sp := fun vs H Q _ => ∃ c : Int, vs = [.int c] ∧ ∀ (z : Str) H', z.length ≤ 6000 → Same H H' → Q (.str z) H'
set_option maxHeartbeats 1000000 in
theorem ok_law_odd_line (T : Tx K mg) : FnOk P w K mg base CX0 1 T.a_law_odd_line T.d_law_odd_line ["_law_cell"] (sp_law_odd_line K) := by
  refine T.F_law_odd_line.ok sc_law_odd_line (fun vs H Q E h => ?_) (fun cdv A outer s H vs Q E hr h => ?_)
  · obtain ⟨c, rfl, _⟩ := h
    rfl
  · obtain ⟨c, rfl, q⟩ := h
    refine ⟨_, pss_cons (ps_set (i := 1) sc_law_odd_line.nd rfl (.inl rfl) (pe_lst (pa_cons pe_str (pa_cons pe_str (pa_cons pe_str (pa_cons pe_str (pa_cons pe_str (pa_cons pe_str (pa_cons pe_str (pa_cons pe_str pa_nil))))))))))
      (pss_cons (ps_set (i := 1) sc_law_odd_line.nd rfl (.inl rfl) (pe_op op_cat (pv 1) (pe_lst (pa_cons pe_str (pa_cons pe_str (pa_cons pe_str (pa_cons pe_str (pa_cons pe_str (pa_cons pe_str pa_nil)))))))))
      (pss_cons (ps_set (i := 1) sc_law_odd_line.nd rfl (.inl rfl) (pe_op op_cat (pv 1) (pe_lst (pa_cons (pe_op op_add_str pe_str (pe_op op_rep_str pe_str pe_int)) (pa_cons (pe_op op_add_str (pe_op op_add_str pe_str (pe_op op_rep_str pe_str pe_int)) pe_str) (pa_cons pe_str (pa_cons pe_str pa_nil)))))))
      (pss_one (ps_ret (pe_ix ix_list (pv 1) (pe_op op_mod (pv 0) pe_int) (fun _ _ => rfl)))))), ?_⟩
    rw [st_law_odd_line]
    walk_at "rd"
    intro p1 n1
    have s1 := fun o => same_upd (o := o) n1
    walk_at "rd"
    intro p2 n2
    have s2 := fun o => same_upd (o := o) n2
    refine ⟨p1, p2, _, _, rfl, rfl, s2 _ _ _ upd_same, upd_same, Nat.le_of_ble_eq_true rfl, fun p3 n3 => ?_⟩
    have s3 := fun o => same_upd (o := o) n3
    have m1 : (Txt.mul (Str.ofString "7") 5000).length ≤ 5001 := mul_len 55 5000
    have m2 : (Txt.mul (Str.ofString "0") 61).length ≤ 62 := mul_len 48 61
    have o1 : MulOk (Str.ofString "7") 5000 := ⟨by decide +kernel, fun _ _ => by decide +kernel, fun _ _ => by decide +kernel⟩
    have o2 : MulOk (Str.ofString "0") 61 := ⟨by decide +kernel, fun _ _ => by decide +kernel, fun _ _ => by decide +kernel⟩
    have big : 6000 ≤ sizeLine := by decide
    have l1 : (Str.ofString "1 2 3 ").length = 6 := rfl
    have l2 : (Str.ofString "1").length = 1 := rfl
    have l3 : (Str.ofString " 2 3 4").length = 6 := rfl
    have z1 : (Str.ofString "1 2 3 ").length + (Txt.mul (Str.ofString "7") 5000).length ≤ sizeLine := Nat.le_trans (by omega) big
    have z2 : (Str.ofString "1").length + (Txt.mul (Str.ofString "0") 61).length ≤ sizeLine := Nat.le_trans (by omega) big
    have z3 : (Str.ofString "1" ++ Txt.mul (Str.ofString "0") 61).length + (Str.ofString " 2 3 4").length ≤ sizeLine := Nat.le_trans (by rw [cat_len]; omega) big
    have y1 : (Str.ofString "1 2 3 " ++ Txt.mul (Str.ofString "7") 5000).length ≤ 6000 := by rw [cat_len]; omega
    have y2 : (Str.ofString "1" ++ Txt.mul (Str.ofString "0") 61 ++ Str.ofString " 2 3 4").length ≤ 6000 := by rw [cat_len, cat_len]; omega
    refine ⟨_, rfl, _, _, rfl, rfl, o1, _, _, rfl, rfl, z1, _, _, rfl, rfl, o2, _, _, rfl, rfl, z2, _, _, rfl, rfl, z3, Nat.le_of_ble_eq_true rfl, fun p4 n4 => ?_⟩
    have s4 := fun o => same_upd (o := o) n4
    refine ⟨p3, p4, _, _, rfl, rfl, s4 _ _ _ upd_same, upd_same, Nat.le_of_ble_eq_true rfl, fun p5 n5 => ?_⟩
    have s5 := fun o => same_upd (o := o) n5
    obtain ⟨z, hz, hzl⟩ := odd_at c _ _ y1 y2
    refine ⟨_, rfl, _, rfl, _, _, rfl, rfl, (show (0 : Int) < 18 by decide), p5, _, _, _, rfl, rfl, SqL.of upd_same, hz, ?_⟩
    exact q z _ hzl (((((s1 _).trans (s2 _)).trans (s3 _)).trans (s4 _)).trans (s5 _))
def sp_law_refused_by_any (K : PySem.W.Frag) : Sp := fun vs H Q _ => ∃ z, vs = [.str z] ∧ z.length ≤ 10000 ∧ readOf z = none ∧ ∀ H', Same H H' → Q (.bl true) H'
def tsR (K : PySem.W.Frag) (C : Addr) : Addr → Value → Option Addr → TS := fun a cls d D σ H => (cls = .ref C ∧ d = none) ∧ tRet (tCB (rIsE K C a) (tCons (tVar 1) (tCons (tC (.ty "ValueError")) tNil))) D σ H
theorem ok_law_refused_by_any (T : Tx K mg) : FnOk P w K mg base CX0 4 T.a_law_refused_by_any T.d_law_refused_by_any ["_law_line"] (sp_law_refused_by_any K) := by
  refine T.F_law_refused_by_any.ok sc_law_refused_by_any (fun vs H Q E h => ?_) (fun cdv A outer s H vs Q E hr h => ?_)
  · obtain ⟨z, rfl, _⟩ := h
    rfl
  · obtain ⟨z, rfl, hz, hn, q⟩ := h
    refine ⟨_, pss_cons (ps_try_as (i := 1) (ts := tsR K T.a_NoMove) (Wout := fun _ _ _ _ => False) rfl rfl sc_law_refused_by_any.nd rfl rfl ⟨rfl, by decide, .inl T.gc_TreeError⟩ takes0
        (fun W pn xe tk _ => pss_one (ps_expr (pe_callS (ok_read T) (hr.mono (by decide)) rfl T.g_read T.F_read.kp T.b_read (fun σ => passAt tk σ) (by exact pa_cons (pv 0) pa_nil))))
        (fun a oe cls d pn hz hf => ⟨fun pins s σ H D I h => by
          obtain ⟨⟨rfl, rfl⟩, h⟩ := h
          exact (pss_one (ps_ret (pe_callB (call_isE T.ec_NoMove hz hf) (by rfl) T.m_isinstance (by decide +kernel) (pa_cons (pv 1) (pa_cons (pe_bltn (v := .ty "ValueError") (by rfl) T.m_ValueError (by decide +kernel) rfl) pa_nil))))).run pins s σ H D I h⟩))
      (pss_one (ps_ret pe_bl)), ?_⟩
    rw [st_law_refused_by_any]
    refine ⟨_, rfl, z, rfl, hz, fun ns H' p e => ?_, fun H' _ s' => ?_⟩
    · rw [hn] at e
      cases e
    · refine ⟨true, T.em_NoMove_TreeError, fun _ a ha => ⟨⟨rfl, rfl⟩, ?_⟩, fun q => Bool.noConfusion q⟩
      refine ⟨_, rfl, .ty "ValueError", .type "ValueError", true, rfl, fun u h => h, T.kv_NoMove, ?_⟩
      exact q H' s'

theorem log_ok' {i : Int} (h0 : 0 ≤ i) (h1 : i ≤ G60 + 1) : i.natAbs.log2 < 1920 := by
  by_cases e : i.natAbs = 0
  · rw [e]
    decide
  · rw [Nat.log2_lt e]
    have h2 : i.natAbs ≤ 1000000000000000000000000000000000000000000000000000000000001 := by
      have : i ≤ (1000000000000000000000000000000000000000000000000000000000001 : Int) := h1
      omega
    exact Nat.lt_of_le_of_lt h2 (by decide +kernel)
theorem strI_len' {i : Int} (h0 : 0 ≤ i) (h1 : i ≤ G60 + 1) : (strI i).length ≤ 61 := by
  obtain ⟨n, rfl⟩ := Int.eq_ofNat_of_zero_le h0
  have h2 : n < 10 ^ 61 := by
    have : (n : Int) ≤ (1000000000000000000000000000000000000000000000000000000000001 : Int) := h1
    omega
  have h := TL.numL_len (by decide) h2
  show (Str.ofString (toString ((n : Nat) : Int))).length ≤ 61
  rw [TL.len_tl, TL.tl_num]
  exact h
theorem cutS_len (z : Str) (lo hi : Option Int) : (cutS z lo hi).length ≤ z.length := by
  unfold cutS
  rw [TL.len_tl, TL.len_tl]
  show ((z.cps.toList.drop _).take _).length ≤ z.cps.toList.length
  rw [List.length_take, List.length_drop]
  omega
theorem join4 (a b c d : Str) : Txt.join sp1 [a, b, c, d] = a ++ sp1 ++ (b ++ sp1 ++ (c ++ sp1 ++ d)) := by
  rw [TL.join_eq]
  rfl
theorem join4_len (a b c d : Str) : (Txt.join sp1 [a, b, c, d]).length = a.length + b.length + c.length + d.length + 3 := by
  rw [join4]
  simp only [cat_len]
  have : sp1.length = 1 := rfl
  omega
def sp_law (K : PySem.W.Frag) : Sp := fun vs H Q _ => ∃ (a : Addr) (ns : List Int), vs = [.ref a] ∧ SqL K H a (ns.map V.int) ∧ ns.length ≤ 63 ∧ ∀ H', Q (.bl true) H'
set_option maxHeartbeats 4000000 in
theorem ok_law (T : Tx K mg) : FnOk P w K mg base CX0 5 T.a_law T.d_law ["_law_script"] (sp_law K) := by
  refine T.F_law.ok sc_law (fun vs H Q E h => ?_) (fun cdv A outer s H vs Q E hr h => ?_)
  · obtain ⟨a, ns, rfl, _⟩ := h
    rfl
  · obtain ⟨a, ns, rfl, hS, hlen, k⟩ := h
    refine ⟨_, pss_cons (ps_setLc (i := 1) (own := [("_law_k", 8)]) (g := gName 8) (tt := tYes) rfl sc_law.nd rfl rfl (sw_true rfl rfl rfl (by decide +kernel)) (pi_range1 (by rfl) T.m_range (pa_cons pe_int pa_nil)) (blkOk_by (own := [("_law_k", 8)]) (N := ["_law_script", "_law_words", "_law_way", "_law_at", "_law_line", "_law_due", "_law_found", "_law_refused", "_law_k"]) (sc := defScope s_law) (by decide +kernel)) (fun _ _ _ _ _ => pg_name (i := 8) sc_law.nd rfl (Or.inl rfl)) (fun _ _ _ _ _ => pts_nil) (fun _ _ _ _ _ => pe_callTy call_str_int (by rfl) T.m_str (by decide +kernel) (pa_cons (pe_call (ok_law_number T) (hr.mono (by decide)) (by rfl) T.g_law_number T.F_law_number.kp T.b_law_number .nil pass0 (pa_cons (pe_call (ok_law_cell_at T) (hr.mono (by decide)) (by rfl) T.g_law_cell_at T.F_law_cell_at.kp T.b_law_cell_at .nil pass0 (pa_cons (pv 0) (pa_cons (pe_op op_add pe_int (pv 8)) pa_nil))) pa_nil)) pa_nil)))
      (pss_cons (ps_set (i := 2) sc_law.nd rfl (.inl rfl) (pe_op op_mod (pe_call (ok_law_cell_at T) (hr.mono (by decide)) (by rfl) T.g_law_cell_at T.F_law_cell_at.kp T.b_law_cell_at .nil pass0 (pa_cons (pv 0) (pa_cons pe_int pa_nil))) pe_int))
      (pss_cons (ps_set (i := 3) sc_law.nd rfl (.inl rfl) (pe_call (ok_law_cell_at T) (hr.mono (by decide)) (by rfl) T.g_law_cell_at T.F_law_cell_at.kp T.b_law_cell_at .nil pass0 (pa_cons (pv 0) (pa_cons pe_int pa_nil))))
      (pss_cons (ps_if (pt_cmpR op_eq (pv 2) pe_int (nomark _)) (pss_one (ps_asg (pe_op op_add_str pe_str (pe_ix ix_list (pv 1) (pe_op op_mod (pv 3) pe_int) (fun _ _ => rfl))) (pg_sub (pv 1) (pe_op op_mod (pv 3) pe_int) set_list))) pss_nil)
      (pss_cons (ps_set (i := 4) sc_law.nd rfl (.inl rfl) (pe_join pe_str (pv 1)))
      (pss_cons (ps_if (pt_cmpR op_eq (pv 2) pe_int (nomark _)) (pss_cons (ps_set (i := 3) sc_law.nd rfl (.inl rfl) (pe_op op_mod (pv 3) (pe_op op_add (pe_callB call_len (by rfl) T.m_len PySem.boot_len (pa_cons (pv 4) pa_nil)) pe_int)))
      (pss_one (ps_set (i := 4) sc_law.nd rfl (.inl rfl) (pe_op op_add_str (pe_op op_add_str (pe_slice sl_str (pv 4) po_none (po_some (pv 3))) (pe_call (ok_law_sign_by T) (hr.mono (by decide)) (by rfl) T.g_law_sign_by T.F_law_sign_by.kp T.b_law_sign_by .nil pass0 (pa_cons (pe_call (ok_law_cell_at T) (hr.mono (by decide)) (by rfl) T.g_law_cell_at T.F_law_cell_at.kp T.b_law_cell_at .nil pass0 (pa_cons (pv 0) (pa_cons pe_int pa_nil))) pa_nil))) (pe_slice sl_str (pv 4) (po_some (pv 3)) po_none))))) pss_nil)
      (pss_cons (ps_if (pt_cmpR op_eq (pv 2) pe_int (nomark _)) (pss_cons (ps_set (i := 3) sc_law.nd rfl (.inl rfl) (pe_op op_mod (pv 3) (pe_callB call_len (by rfl) T.m_len PySem.boot_len (pa_cons (pv 4) pa_nil))))
      (pss_one (ps_set (i := 4) sc_law.nd rfl (.inl rfl) (pe_op op_add_str (pe_slice sl_str (pv 4) po_none (po_some (pv 3))) (pe_slice sl_str (pv 4) (po_some (pe_op op_add (pv 3) pe_int)) po_none))))) pss_nil)
      (pss_cons (ps_if (pt_cmpR op_eq (pv 2) pe_int (nomark _)) (pss_one (ps_set (i := 4) sc_law.nd rfl (.inl rfl) (pe_call (ok_law_odd_line T) (hr.mono (by decide)) (by rfl) T.g_law_odd_line T.F_law_odd_line.kp T.b_law_odd_line .nil pass0 (pa_cons (pv 3) pa_nil)))) pss_nil)
      (pss_cons (ps_set (i := 5) sc_law.nd rfl (.inl rfl) (pe_call (ok_law_due_of T) (hr.mono (by decide)) (by rfl) T.g_law_due_of T.F_law_due_of.kp T.b_law_due_of .nil pass0 (pa_cons (pv 4) pa_nil)))
      (pss_cons (ps_set (i := 6) sc_law.nd rfl (.inl rfl) pe_non)
      (pss_cons (ps_set (i := 7) sc_law.nd rfl (.inl rfl) pe_bl)
      (pss_cons (ps_try_only (Wout := fun _ _ _ _ => False) rfl rfl ⟨rfl, by decide, .inl T.gc_NoMove⟩ takes0 (fun W pn xe tk _ => pss_one (ps_set (i := 6) sc_law.nd rfl (.inl rfl) (pe_callS (ok_read T) (hr.mono (by decide)) rfl T.g_read T.F_read.kp T.b_read (fun σ => passAt tk σ) (by exact (pa_cons (pv 4) pa_nil))))) (fun a oe cls d pn hz hf => pss_one (ps_set (i := 7) sc_law.nd rfl (.inl rfl) pe_bl)))
      (pss_cons (ps_if (pt_cmpR op_isN (pv 5) pe_non (nomark _)) (pss_one (ps_ret (pe_and (pv 7) (pe_one (pe_call (ok_law_refused_by_any T) (hr.mono (by decide)) (by rfl) T.g_law_refused_by_any T.F_law_refused_by_any.kp T.b_law_refused_by_any .nil pass0 (pa_cons (pv 4) pa_nil)))))) pss_nil)
      (pss_one (ps_ret (pe_and (pe_not (pv 7)) (pe_one (pe_call (ok_law_same_move T) (hr.mono (by decide)) (by rfl) T.g_law_same_move T.F_law_same_move.kp T.b_law_same_move .nil pass0 (pa_cons (pv 6) (pa_cons (pv 5) pa_nil))))))))))))))))))), ?_⟩
    rw [st_law]
    refine ⟨4, rfl, by decide, by decide, fun D nD => ?_⟩
    have sD := fun o => same_upd (o := o) nD
    refine lc_range (lo := 0) (n := 4) (fun i H2 => ∃ xs : List Str, xs.length = i ∧ (∀ x ∈ xs, x.length ≤ 61) ∧ Same H H2 ∧ H2 D = some (.lst (xs.map V.str)))
      ⟨[], rfl, (fun x h => nomatch h), sD _, upd_same⟩ ?_ ?_
    · rintro i H2 hi ⟨xs, hxl, hxs, s2, hD⟩
      have hS2 := s2.seq hS
      rw [Int.zero_add]
      refine ⟨rfl, ?_⟩
      walk_at "rd"
      intro r hr0 hr1
      refine ⟨r, rfl, log_ok' hr0 hr1, ?_⟩
      refine ⟨_, hD, small1000 (by rw [List.length_map, hxl]; omega), xs ++ [strI r], by rw [List.length_append, hxl]; rfl, fun x hx => ?_, same_set s2 nD, ?_⟩
      · rcases List.mem_append.mp hx with h | h
        · exact hxs x h
        · rw [List.mem_singleton.mp h]
          exact strI_len' hr0 hr1
      · rw [upd_same, List.map_append]
        rfl
    · rintro H2 ⟨xs, hxl, hxs, s2, hD⟩
      obtain ⟨w0, w1, w2, w3, rfl⟩ : ∃ w0 w1 w2 w3, xs = [w0, w1, w2, w3] := by
        match xs, hxl with
        | [w0, w1, w2, w3], _ => exact ⟨w0, w1, w2, w3, rfl⟩
      have hS2 := s2.seq hS
      have q0 := hxs w0 (by simp)
      have q1 := hxs w1 (by simp)
      have q2 := hxs w2 (by simp)
      have q3 := hxs w3 (by simp)
      have hj := join4_len w0 w1 w2 w3
      have big : 7000 ≤ sizeLine := by decide
      walk_at "rd"
      have b0 := Int.emod_nonneg (cellOf ns (Int.toNat 0)) (show (6 : Int) ≠ 0 by decide)
      have b1 := Int.emod_lt_of_pos (cellOf ns (Int.toNat 0)) (show (0 : Int) < 6 by decide)
      have hw : cellOf ns (Int.toNat 0) % 6 = 0 ∨ cellOf ns (Int.toNat 0) % 6 = 1 ∨ cellOf ns (Int.toNat 0) % 6 = 2 ∨ cellOf ns (Int.toNat 0) % 6 = 3 ∨ cellOf ns (Int.toNat 0) % 6 = 4 ∨ cellOf ns (Int.toNat 0) % 6 = 5 := by omega
      rcases hw with hw | hw | hw | hw | hw | hw <;> simp only [hw]
      · walk_at "rd"
        refine ⟨sp1, D, [w0, w1, w2, w3], rfl, rfl, .inl (SqL.of hD), ?_, ?_⟩
        · show ([w0, w1, w2, w3].map (·.length)).sum + 4 * 1 ≤ 16777216
          simp only [List.map_cons, List.map_nil, List.sum_cons, List.sum_nil]
          omega
        generalize Txt.join sp1 [w0, w1, w2, w3] = z at hj ⊢
        walk_at "rd"
        refine ⟨fun ms H8 p hr hl s8 np hp => ?_, fun H8 hr s8 => ?_⟩
        · walk_at "rd"
          refine ⟨fun ms' H9 p' hr' s9 np' hp' => ?_, fun H9 hr' _ => ?_⟩
          · rw [hr] at hr'
            cases hr'
            walk_at "rd"
            exact ⟨p', p, _, rfl, hp', s9 _ _ hp, hl, k _⟩
          · rw [hr] at hr'
            cases hr'
        · walk_at "rd"
          refine ⟨fun ms' H9 p' hr' s9 np' hp' => ?_, fun H9 hr' s9 => ?_⟩
          · rw [hr] at hr'
            cases hr'
          · refine ⟨true, T.em_NoMove_NoMove, fun _ a0 _ => ?_, fun q => Bool.noConfusion q⟩
            walk_at "rd"
            intro H5 s5
            exact k _
      · walk_at "rd"
        refine ⟨sp1, D, [w0, w1, w2, w3], rfl, rfl, .inl (SqL.of hD), ?_, ?_⟩
        · show ([w0, w1, w2, w3].map (·.length)).sum + 4 * 1 ≤ 16777216
          simp only [List.map_cons, List.map_nil, List.sum_cons, List.sum_nil]
          omega
        generalize Txt.join sp1 [w0, w1, w2, w3] = z at hj ⊢
        have hzs : z.length ≤ sizeLine := Nat.le_trans (by omega : z.length ≤ 7000) big
        walk_at "rd"
        refine ⟨_, _, rfl, ⟨hzs, rfl⟩, ?_⟩
        walk_at "rd"
        intro sg hsg
        walk_at "rd"
        refine ⟨Nat.le_trans (Nat.add_le_add (cutS_len _ _ _) (Nat.le_of_eq hsg)) (Nat.le_trans (by omega : z.length + 1 ≤ 7000) big), ?_⟩
        walk_at "rd"
        refine ⟨Nat.le_trans (Nat.add_le_add (Nat.le_trans (Nat.le_of_eq (cat_len _ _)) (Nat.add_le_add (cutS_len _ _ _) (Nat.le_of_eq hsg))) (cutS_len _ _ _)) (Nat.le_trans (by omega : z.length + 1 + z.length ≤ 7000) big), ?_⟩
        have hS : (cutS z none (some (cellOf ns (Int.toNat 5) % ((z.length : Int) + 1))) ++ sg ++ cutS z (some (cellOf ns (Int.toNat 5) % ((z.length : Int) + 1))) none).length ≤ 1000 := by
          have h1 := cutS_len z none (some (cellOf ns (Int.toNat 5) % ((z.length : Int) + 1)))
          have h2 := cutS_len z (some (cellOf ns (Int.toNat 5) % ((z.length : Int) + 1))) none
          rw [cat_len, cat_len]
          omega
        generalize cutS z none (some (cellOf ns (Int.toNat 5) % ((z.length : Int) + 1))) ++ sg ++ cutS z (some (cellOf ns (Int.toNat 5) % ((z.length : Int) + 1))) none = y at hS ⊢
        walk_at "rd"
        refine ⟨fun ms H8 p hr hl s8 np hp => ?_, fun H8 hr s8 => ?_⟩
        · walk_at "rd"
          refine ⟨fun ms' H9 p' hr' s9 np' hp' => ?_, fun H9 hr' _ => ?_⟩
          · rw [hr] at hr'
            cases hr'
            walk_at "rd"
            exact ⟨p', p, _, rfl, hp', s9 _ _ hp, hl, k _⟩
          · rw [hr] at hr'
            cases hr'
        · walk_at "rd"
          refine ⟨fun ms' H9 p' hr' s9 np' hp' => ?_, fun H9 hr' s9 => ?_⟩
          · rw [hr] at hr'
            cases hr'
          · refine ⟨true, T.em_NoMove_NoMove, fun _ a0 _ => ?_, fun q => Bool.noConfusion q⟩
            walk_at "rd"
            intro H5 s5
            exact k _
      · walk_at "rd"
        refine ⟨sp1, D, [w0, w1, w2, w3], rfl, rfl, .inl (SqL.of hD), ?_, ?_⟩
        · show ([w0, w1, w2, w3].map (·.length)).sum + 4 * 1 ≤ 16777216
          simp only [List.map_cons, List.map_nil, List.sum_cons, List.sum_nil]
          omega
        generalize Txt.join sp1 [w0, w1, w2, w3] = z at hj ⊢
        have hzs : z.length ≤ sizeLine := Nat.le_trans (by omega : z.length ≤ 7000) big
        walk_at "rd"
        refine ⟨_, _, rfl, ⟨hzs, rfl⟩, ?_⟩
        walk_at "rd"
        refine ⟨Nat.le_trans (Nat.add_le_add (cutS_len _ _ _) (cutS_len _ _ _)) (Nat.le_trans (by omega : z.length + z.length ≤ 7000) big), ?_⟩
        have hS : (cutS z none (some (cellOf ns (Int.toNat 5) % (z.length : Int))) ++ cutS z (some (cellOf ns (Int.toNat 5) % (z.length : Int) + 1)) none).length ≤ 1000 := by
          have h1 := cutS_len z none (some (cellOf ns (Int.toNat 5) % (z.length : Int)))
          have h2 := cutS_len z (some (cellOf ns (Int.toNat 5) % (z.length : Int) + 1)) none
          rw [cat_len]
          omega
        generalize cutS z none (some (cellOf ns (Int.toNat 5) % (z.length : Int))) ++ cutS z (some (cellOf ns (Int.toNat 5) % (z.length : Int) + 1)) none = y at hS ⊢
        walk_at "rd"
        refine ⟨fun ms H8 p hr hl s8 np hp => ?_, fun H8 hr s8 => ?_⟩
        · walk_at "rd"
          refine ⟨fun ms' H9 p' hr' s9 np' hp' => ?_, fun H9 hr' _ => ?_⟩
          · rw [hr] at hr'
            cases hr'
            walk_at "rd"
            exact ⟨p', p, _, rfl, hp', s9 _ _ hp, hl, k _⟩
          · rw [hr] at hr'
            cases hr'
        · walk_at "rd"
          refine ⟨fun ms' H9 p' hr' s9 np' hp' => ?_, fun H9 hr' s9 => ?_⟩
          · rw [hr] at hr'
            cases hr'
          · refine ⟨true, T.em_NoMove_NoMove, fun _ a0 _ => ?_, fun q => Bool.noConfusion q⟩
            walk_at "rd"
            intro H5 s5
            exact k _
      · have hDS : SqL K H2 D ([w0, w1, w2, w3].map V.str) := SqL.of hD
        have hi : cellOf ns (Int.toNat 5) % 4 = 0 ∨ cellOf ns (Int.toNat 5) % 4 = 1 ∨ cellOf ns (Int.toNat 5) % 4 = 2 ∨ cellOf ns (Int.toNat 5) % 4 = 3 := by omega
        have l0 : (Str.ofString "0").length = 1 := rfl
        rcases hi with hi | hi | hi | hi
        · have at1 : atI ([w0, w1, w2, w3].map V.str) (cellOf ns (Int.toNat 5) % 4) = some (.str w0) := by rw [hi]; exact atI_nat (j := 0) rfl
          have z0 : (Str.ofString "0").length + w0.length ≤ sizeLine := Nat.le_trans (by omega : _ ≤ 7000) big
          have hx := cat_len (Str.ofString "0") w0
          walk_at "rd"
          generalize Str.ofString "0" ++ w0 = x at hx ⊢
          walk_at "rd"
          refine ⟨D, _, _, 0, rfl, rfl, hD, by rw [hi]; rfl, ?_⟩
          have hD' : (upd H2 D (HO.lst (([w0, w1, w2, w3].map V.str).set 0 (V.str x)))) D = some (.lst ([x, w1, w2, w3].map V.str)) := upd_same
          have hS' : SqL K (upd H2 D (HO.lst (([w0, w1, w2, w3].map V.str).set 0 (V.str x)))) a (ns.map V.int) := (same_set s2 nD).seq hS
          have hj := join4_len x w1 w2 w3
          walk_at "rd"
          refine ⟨sp1, D, [x, w1, w2, w3], rfl, rfl, .inl (SqL.of hD'), ?_, ?_⟩
          · show ([x, w1, w2, w3].map (·.length)).sum + 4 * 1 ≤ 16777216
            simp only [List.map_cons, List.map_nil, List.sum_cons, List.sum_nil]
            omega
          generalize Txt.join sp1 [x, w1, w2, w3] = z at hj ⊢
          walk_at "rd"
          refine ⟨fun ms H8 p hr hl s8 np hp => ?_, fun H8 hr s8 => ?_⟩
          · walk_at "rd"
            refine ⟨fun ms' H9 p' hr' s9 np' hp' => ?_, fun H9 hr' _ => ?_⟩
            · rw [hr] at hr'
              cases hr'
              walk_at "rd"
              exact ⟨p', p, _, rfl, hp', s9 _ _ hp, hl, k _⟩
            · rw [hr] at hr'
              cases hr'
          · walk_at "rd"
            refine ⟨fun ms' H9 p' hr' s9 np' hp' => ?_, fun H9 hr' s9 => ?_⟩
            · rw [hr] at hr'
              cases hr'
            · refine ⟨true, T.em_NoMove_NoMove, fun _ a0 _ => ?_, fun q => Bool.noConfusion q⟩
              walk_at "rd"
              intro H5 s5
              exact k _
        · have at1 : atI ([w0, w1, w2, w3].map V.str) (cellOf ns (Int.toNat 5) % 4) = some (.str w1) := by rw [hi]; exact atI_nat (j := 1) rfl
          have z0 : (Str.ofString "0").length + w1.length ≤ sizeLine := Nat.le_trans (by omega : _ ≤ 7000) big
          have hx := cat_len (Str.ofString "0") w1
          walk_at "rd"
          generalize Str.ofString "0" ++ w1 = x at hx ⊢
          walk_at "rd"
          refine ⟨D, _, _, 1, rfl, rfl, hD, by rw [hi]; rfl, ?_⟩
          have hD' : (upd H2 D (HO.lst (([w0, w1, w2, w3].map V.str).set 1 (V.str x)))) D = some (.lst ([w0, x, w2, w3].map V.str)) := upd_same
          have hS' : SqL K (upd H2 D (HO.lst (([w0, w1, w2, w3].map V.str).set 1 (V.str x)))) a (ns.map V.int) := (same_set s2 nD).seq hS
          have hj := join4_len w0 x w2 w3
          walk_at "rd"
          refine ⟨sp1, D, [w0, x, w2, w3], rfl, rfl, .inl (SqL.of hD'), ?_, ?_⟩
          · show ([w0, x, w2, w3].map (·.length)).sum + 4 * 1 ≤ 16777216
            simp only [List.map_cons, List.map_nil, List.sum_cons, List.sum_nil]
            omega
          generalize Txt.join sp1 [w0, x, w2, w3] = z at hj ⊢
          walk_at "rd"
          refine ⟨fun ms H8 p hr hl s8 np hp => ?_, fun H8 hr s8 => ?_⟩
          · walk_at "rd"
            refine ⟨fun ms' H9 p' hr' s9 np' hp' => ?_, fun H9 hr' _ => ?_⟩
            · rw [hr] at hr'
              cases hr'
              walk_at "rd"
              exact ⟨p', p, _, rfl, hp', s9 _ _ hp, hl, k _⟩
            · rw [hr] at hr'
              cases hr'
          · walk_at "rd"
            refine ⟨fun ms' H9 p' hr' s9 np' hp' => ?_, fun H9 hr' s9 => ?_⟩
            · rw [hr] at hr'
              cases hr'
            · refine ⟨true, T.em_NoMove_NoMove, fun _ a0 _ => ?_, fun q => Bool.noConfusion q⟩
              walk_at "rd"
              intro H5 s5
              exact k _
        · have at1 : atI ([w0, w1, w2, w3].map V.str) (cellOf ns (Int.toNat 5) % 4) = some (.str w2) := by rw [hi]; exact atI_nat (j := 2) rfl
          have z0 : (Str.ofString "0").length + w2.length ≤ sizeLine := Nat.le_trans (by omega : _ ≤ 7000) big
          have hx := cat_len (Str.ofString "0") w2
          walk_at "rd"
          generalize Str.ofString "0" ++ w2 = x at hx ⊢
          walk_at "rd"
          refine ⟨D, _, _, 2, rfl, rfl, hD, by rw [hi]; rfl, ?_⟩
          have hD' : (upd H2 D (HO.lst (([w0, w1, w2, w3].map V.str).set 2 (V.str x)))) D = some (.lst ([w0, w1, x, w3].map V.str)) := upd_same
          have hS' : SqL K (upd H2 D (HO.lst (([w0, w1, w2, w3].map V.str).set 2 (V.str x)))) a (ns.map V.int) := (same_set s2 nD).seq hS
          have hj := join4_len w0 w1 x w3
          walk_at "rd"
          refine ⟨sp1, D, [w0, w1, x, w3], rfl, rfl, .inl (SqL.of hD'), ?_, ?_⟩
          · show ([w0, w1, x, w3].map (·.length)).sum + 4 * 1 ≤ 16777216
            simp only [List.map_cons, List.map_nil, List.sum_cons, List.sum_nil]
            omega
          generalize Txt.join sp1 [w0, w1, x, w3] = z at hj ⊢
          walk_at "rd"
          refine ⟨fun ms H8 p hr hl s8 np hp => ?_, fun H8 hr s8 => ?_⟩
          · walk_at "rd"
            refine ⟨fun ms' H9 p' hr' s9 np' hp' => ?_, fun H9 hr' _ => ?_⟩
            · rw [hr] at hr'
              cases hr'
              walk_at "rd"
              exact ⟨p', p, _, rfl, hp', s9 _ _ hp, hl, k _⟩
            · rw [hr] at hr'
              cases hr'
          · walk_at "rd"
            refine ⟨fun ms' H9 p' hr' s9 np' hp' => ?_, fun H9 hr' s9 => ?_⟩
            · rw [hr] at hr'
              cases hr'
            · refine ⟨true, T.em_NoMove_NoMove, fun _ a0 _ => ?_, fun q => Bool.noConfusion q⟩
              walk_at "rd"
              intro H5 s5
              exact k _
        · have at1 : atI ([w0, w1, w2, w3].map V.str) (cellOf ns (Int.toNat 5) % 4) = some (.str w3) := by rw [hi]; exact atI_nat (j := 3) rfl
          have z0 : (Str.ofString "0").length + w3.length ≤ sizeLine := Nat.le_trans (by omega : _ ≤ 7000) big
          have hx := cat_len (Str.ofString "0") w3
          walk_at "rd"
          generalize Str.ofString "0" ++ w3 = x at hx ⊢
          walk_at "rd"
          refine ⟨D, _, _, 3, rfl, rfl, hD, by rw [hi]; rfl, ?_⟩
          have hD' : (upd H2 D (HO.lst (([w0, w1, w2, w3].map V.str).set 3 (V.str x)))) D = some (.lst ([w0, w1, w2, x].map V.str)) := upd_same
          have hS' : SqL K (upd H2 D (HO.lst (([w0, w1, w2, w3].map V.str).set 3 (V.str x)))) a (ns.map V.int) := (same_set s2 nD).seq hS
          have hj := join4_len w0 w1 w2 x
          walk_at "rd"
          refine ⟨sp1, D, [w0, w1, w2, x], rfl, rfl, .inl (SqL.of hD'), ?_, ?_⟩
          · show ([w0, w1, w2, x].map (·.length)).sum + 4 * 1 ≤ 16777216
            simp only [List.map_cons, List.map_nil, List.sum_cons, List.sum_nil]
            omega
          generalize Txt.join sp1 [w0, w1, w2, x] = z at hj ⊢
          walk_at "rd"
          refine ⟨fun ms H8 p hr hl s8 np hp => ?_, fun H8 hr s8 => ?_⟩
          · walk_at "rd"
            refine ⟨fun ms' H9 p' hr' s9 np' hp' => ?_, fun H9 hr' _ => ?_⟩
            · rw [hr] at hr'
              cases hr'
              walk_at "rd"
              exact ⟨p', p, _, rfl, hp', s9 _ _ hp, hl, k _⟩
            · rw [hr] at hr'
              cases hr'
          · walk_at "rd"
            refine ⟨fun ms' H9 p' hr' s9 np' hp' => ?_, fun H9 hr' s9 => ?_⟩
            · rw [hr] at hr'
              cases hr'
            · refine ⟨true, T.em_NoMove_NoMove, fun _ a0 _ => ?_, fun q => Bool.noConfusion q⟩
              walk_at "rd"
              intro H5 s5
              exact k _
      · walk_at "rd"
        refine ⟨sp1, D, [w0, w1, w2, w3], rfl, rfl, .inl (SqL.of hD), ?_, ?_⟩
        · show ([w0, w1, w2, w3].map (·.length)).sum + 4 * 1 ≤ 16777216
          simp only [List.map_cons, List.map_nil, List.sum_cons, List.sum_nil]
          omega
        generalize Txt.join sp1 [w0, w1, w2, w3] = z at hj ⊢
        walk_at "rd"
        intro z' H3 hz' s3
        walk_at "rd"
        refine ⟨fun ms H8 p hr hl s8 np hp => ?_, fun H8 hr s8 => ?_⟩
        · walk_at "rd"
          refine ⟨fun ms' H9 p' hr' s9 np' hp' => ?_, fun H9 hr' _ => ?_⟩
          · rw [hr] at hr'
            cases hr'
            walk_at "rd"
            exact ⟨p', p, _, rfl, hp', s9 _ _ hp, hl, k _⟩
          · rw [hr] at hr'
            cases hr'
        · walk_at "rd"
          refine ⟨fun ms' H9 p' hr' s9 np' hp' => ?_, fun H9 hr' s9 => ?_⟩
          · rw [hr] at hr'
            cases hr'
          · refine ⟨true, T.em_NoMove_NoMove, fun _ a0 _ => ?_, fun q => Bool.noConfusion q⟩
            walk_at "rd"
            intro H5 s5
            exact k _
      · walk_at "rd"
        refine ⟨sp1, D, [w0, w1, w2, w3], rfl, rfl, .inl (SqL.of hD), ?_, ?_⟩
        · show ([w0, w1, w2, w3].map (·.length)).sum + 4 * 1 ≤ 16777216
          simp only [List.map_cons, List.map_nil, List.sum_cons, List.sum_nil]
          omega
        generalize Txt.join sp1 [w0, w1, w2, w3] = z at hj ⊢
        walk_at "rd"
        refine ⟨fun ms H8 p hr hl s8 np hp => ?_, fun H8 hr s8 => ?_⟩
        · walk_at "rd"
          refine ⟨fun ms' H9 p' hr' s9 np' hp' => ?_, fun H9 hr' _ => ?_⟩
          · rw [hr] at hr'
            cases hr'
            walk_at "rd"
            exact ⟨p', p, _, rfl, hp', s9 _ _ hp, hl, k _⟩
          · rw [hr] at hr'
            cases hr'
        · walk_at "rd"
          refine ⟨fun ms' H9 p' hr' s9 np' hp' => ?_, fun H9 hr' s9 => ?_⟩
          · rw [hr] at hr'
            cases hr'
          · refine ⟨true, T.em_NoMove_NoMove, fun _ a0 _ => ?_, fun q => Bool.noConfusion q⟩
            walk_at "rd"
            intro H5 s5
            exact k _

end
theorem all_mk {l : PySem.W.OpenLaw} {w : World} {K : PySem.W.Frag} {h : Heap} {mg : Str → Option Value} {fa : Addr} (X : K.In h) (G : h.Ns mainGlobals mg) (hfa : mg "law" = some (.ref fa))
    {f0 : Addr} {od0 an0 : Option Addr} {sl0 : Array (Option Value)} {oc0 kV0 dc0 pm0 cd0 ct0 : Value} {f1 : Addr} {od1 an1 : Option Addr} {sl1 : Array (Option Value)} {oc1 kV1 dc1 pm1 cd1 ct1 : Value} {f2 : Addr} {od2 an2 : Option Addr} {sl2 : Array (Option Value)} {oc2 kV2 dc2 pm2 cd2 ct2 : Value} {f3 : Addr} {od3 an3 : Option Addr} {sl3 : Array (Option Value)} {oc3 kV3 dc3 pm3 cd3 ct3 : Value} {f4 : Addr} {od4 an4 : Option Addr} {sl4 : Array (Option Value)} {oc4 kV4 dc4 pm4 cd4 ct4 : Value} {f5 : Addr} {od5 an5 : Option Addr} {sl5 : Array (Option Value)} {oc5 kV5 dc5 pm5 cd5 ct5 : Value} {f6 : Addr} {od6 an6 : Option Addr} {sl6 : Array (Option Value)} {oc6 kV6 dc6 pm6 cd6 ct6 : Value} {f7 : Addr} {od7 an7 : Option Addr} {sl7 : Array (Option Value)} {oc7 kV7 dc7 pm7 cd7 ct7 : Value} {f8 : Addr} {od8 an8 : Option Addr} {sl8 : Array (Option Value)} {oc8 kV8 dc8 pm8 cd8 ct8 : Value} {f9 : Addr} {od9 an9 : Option Addr} {sl9 : Array (Option Value)} {oc9 kV9 dc9 pm9 cd9 ct9 : Value} {f10 : Addr} {od10 an10 : Option Addr} {sl10 : Array (Option Value)} {oc10 kV10 dc10 pm10 cd10 ct10 : Value} {f11 : Addr} {od11 an11 : Option Addr} {sl11 : Array (Option Value)} {oc11 kV11 dc11 pm11 cd11 ct11 : Value} {f12 : Addr} {od12 an12 : Option Addr} {sl12 : Array (Option Value)} {oc12 kV12 dc12 pm12 cd12 ct12 : Value}
    (a0 : PySem.W.nsIn K mainGlobals "is_number" = some (some (.ref f0))) (l0 : K.lookup f0 = some ⟨oc0, od0, .func (PySem.W.fnOf "is_number" "is_number" (defArgs s_is_number) (defBody s_is_number) (defScope s_is_number) .none kV0 dc0 pm0 an0 cd0 ct0), sl0⟩) (c0 : PySem.W.codeIn K cd0 "is_number" = true) (k0 : PySem.W.keepIn K (.ref f0) = true)
    (a1 : PySem.W.nsIn K mainGlobals "is_move" = some (some (.ref f1))) (l1 : K.lookup f1 = some ⟨oc1, od1, .func (PySem.W.fnOf "is_move" "is_move" (defArgs s_is_move) (defBody s_is_move) (defScope s_is_move) .none kV1 dc1 pm1 an1 cd1 ct1), sl1⟩) (c1 : PySem.W.codeIn K cd1 "is_move" = true) (k1 : PySem.W.keepIn K (.ref f1) = true)
    (a2 : PySem.W.nsIn K mainGlobals "read" = some (some (.ref f2))) (l2 : K.lookup f2 = some ⟨oc2, od2, .func (PySem.W.fnOf "read" "read" (defArgs s_read) (defBody s_read) (defScope s_read) .none kV2 dc2 pm2 an2 cd2 ct2), sl2⟩) (c2 : PySem.W.codeIn K cd2 "read" = true) (k2 : PySem.W.keepIn K (.ref f2) = true)
    (a3 : PySem.W.nsIn K mainGlobals "_is_figures" = some (some (.ref f3))) (l3 : K.lookup f3 = some ⟨oc3, od3, .func (PySem.W.fnOf "_is_figures" "_is_figures" (defArgs s_is_figures) (defBody s_is_figures) (defScope s_is_figures) .none kV3 dc3 pm3 an3 cd3 ct3), sl3⟩) (c3 : PySem.W.codeIn K cd3 "_is_figures" = true) (k3 : PySem.W.keepIn K (.ref f3) = true)
    (a4 : PySem.W.nsIn K mainGlobals "_law_whole" = some (some (.ref f4))) (l4 : K.lookup f4 = some ⟨oc4, od4, .func (PySem.W.fnOf "_law_whole" "_law_whole" (defArgs s_law_whole) (defBody s_law_whole) (defScope s_law_whole) .none kV4 dc4 pm4 an4 cd4 ct4), sl4⟩) (c4 : PySem.W.codeIn K cd4 "_law_whole" = true) (k4 : PySem.W.keepIn K (.ref f4) = true)
    (a5 : PySem.W.nsIn K mainGlobals "_law_cell_at" = some (some (.ref f5))) (l5 : K.lookup f5 = some ⟨oc5, od5, .func (PySem.W.fnOf "_law_cell_at" "_law_cell_at" (defArgs s_law_cell_at) (defBody s_law_cell_at) (defScope s_law_cell_at) .none kV5 dc5 pm5 an5 cd5 ct5), sl5⟩) (c5 : PySem.W.codeIn K cd5 "_law_cell_at" = true) (k5 : PySem.W.keepIn K (.ref f5) = true)
    (a6 : PySem.W.nsIn K mainGlobals "_law_same_move" = some (some (.ref f6))) (l6 : K.lookup f6 = some ⟨oc6, od6, .func (PySem.W.fnOf "_law_same_move" "_law_same_move" (defArgs s_law_same_move) (defBody s_law_same_move) (defScope s_law_same_move) .none kV6 dc6 pm6 an6 cd6 ct6), sl6⟩) (c6 : PySem.W.codeIn K cd6 "_law_same_move" = true) (k6 : PySem.W.keepIn K (.ref f6) = true)
    (a7 : PySem.W.nsIn K mainGlobals "_law_sign_by" = some (some (.ref f7))) (l7 : K.lookup f7 = some ⟨oc7, od7, .func (PySem.W.fnOf "_law_sign_by" "_law_sign_by" (defArgs s_law_sign_by) (defBody s_law_sign_by) (defScope s_law_sign_by) .none kV7 dc7 pm7 an7 cd7 ct7), sl7⟩) (c7 : PySem.W.codeIn K cd7 "_law_sign_by" = true) (k7 : PySem.W.keepIn K (.ref f7) = true)
    (a8 : PySem.W.nsIn K mainGlobals "_law_number" = some (some (.ref f8))) (l8 : K.lookup f8 = some ⟨oc8, od8, .func (PySem.W.fnOf "_law_number" "_law_number" (defArgs s_law_number) (defBody s_law_number) (defScope s_law_number) .none kV8 dc8 pm8 an8 cd8 ct8), sl8⟩) (c8 : PySem.W.codeIn K cd8 "_law_number" = true) (k8 : PySem.W.keepIn K (.ref f8) = true)
    (a9 : PySem.W.nsIn K mainGlobals "_law_odd_line" = some (some (.ref f9))) (l9 : K.lookup f9 = some ⟨oc9, od9, .func (PySem.W.fnOf "_law_odd_line" "_law_odd_line" (defArgs s_law_odd_line) (defBody s_law_odd_line) (defScope s_law_odd_line) .none kV9 dc9 pm9 an9 cd9 ct9), sl9⟩) (c9 : PySem.W.codeIn K cd9 "_law_odd_line" = true) (k9 : PySem.W.keepIn K (.ref f9) = true)
    (a10 : PySem.W.nsIn K mainGlobals "_law_due_of" = some (some (.ref f10))) (l10 : K.lookup f10 = some ⟨oc10, od10, .func (PySem.W.fnOf "_law_due_of" "_law_due_of" (defArgs s_law_due_of) (defBody s_law_due_of) (defScope s_law_due_of) .none kV10 dc10 pm10 an10 cd10 ct10), sl10⟩) (c10 : PySem.W.codeIn K cd10 "_law_due_of" = true) (k10 : PySem.W.keepIn K (.ref f10) = true)
    (a11 : PySem.W.nsIn K mainGlobals "_law_refused_by_any" = some (some (.ref f11))) (l11 : K.lookup f11 = some ⟨oc11, od11, .func (PySem.W.fnOf "_law_refused_by_any" "_law_refused_by_any" (defArgs s_law_refused_by_any) (defBody s_law_refused_by_any) (defScope s_law_refused_by_any) .none kV11 dc11 pm11 an11 cd11 ct11), sl11⟩) (c11 : PySem.W.codeIn K cd11 "_law_refused_by_any" = true) (k11 : PySem.W.keepIn K (.ref f11) = true)
    (a12 : PySem.W.nsIn K mainGlobals "law" = some (some (.ref f12))) (l12 : K.lookup f12 = some ⟨oc12, od12, .func (PySem.W.fnOf "law" "law" (defArgs s_law) (defBody s_law) (defScope s_law) .none kV12 dc12 pm12 an12 cd12 ct12), sl12⟩) (c12 : PySem.W.codeIn K cd12 "law" = true) (k12 : PySem.W.keepIn K (.ref f12) = true)
    (z0 : PySem.W.nsIn K mainGlobals "ValueError" = some none)
    (z1 : PySem.W.nsIn K mainGlobals "all" = some none)
    (z2 : PySem.W.nsIn K mainGlobals "bool" = some none)
    (z3 : PySem.W.nsIn K mainGlobals "int" = some none)
    (z4 : PySem.W.nsIn K mainGlobals "isinstance" = some none)
    (z5 : PySem.W.nsIn K mainGlobals "len" = some none)
    (z6 : PySem.W.nsIn K mainGlobals "range" = some none)
    (z7 : PySem.W.nsIn K mainGlobals "str" = some none)
    (z8 : PySem.W.nsIn K mainGlobals "tuple" = some none)
    {C_TreeError : Addr} (gc_TreeError : PySem.W.nsIn K mainGlobals "TreeError" = some (some (.ref C_TreeError))) (x_TreeError : PySem.W.excIn K C_TreeError [.type "ValueError", .type "Exception", .type "BaseException", .type "object"] "ValueError.__new__" = true) (kc_TreeError : PySem.W.keepIn K (.ref C_TreeError) = true) (bc_TreeError : PySem.W.subIn K (.ref C_TreeError) (.type "BaseException") = some true) (tc_TreeError : PySem.W.typeIn K (.ref C_TreeError) = some (.type "type"))
    (e1_TreeError : PySem.W.findIn K (.ref C_TreeError) "__getattribute__" = some (some (.builtin "BaseException.__getattribute__"))) (e2_TreeError : PySem.W.findIn K (.ref C_TreeError) "__getattr__" = some none) (e3_TreeError : PySem.W.hasDictIn K C_TreeError = true) (e4_TreeError : PySem.W.findIn K (.ref C_TreeError) "__class__" = some (some (.builtin "object.__class__"))) (e5_TreeError : PySem.W.specialIn K (.builtin "object.__class__") "__get__" = some (some (.builtin "getset_descriptor.__get__"))) (e6_TreeError : PySem.W.takesIn K (.builtin "object.__class__") = some true) (e7_TreeError : PySem.W.mroIn K C_TreeError (.type "object") = some true) (kv_TreeError : PySem.W.subIn K (.ref C_TreeError) (.type "ValueError") = some true)
    {C_NoMove : Addr} (gc_NoMove : PySem.W.nsIn K mainGlobals "NoMove" = some (some (.ref C_NoMove))) (x_NoMove : PySem.W.excIn K C_NoMove [.type "ValueError", .type "Exception", .type "BaseException", .type "object"] "ValueError.__new__" = true) (kc_NoMove : PySem.W.keepIn K (.ref C_NoMove) = true) (bc_NoMove : PySem.W.subIn K (.ref C_NoMove) (.type "BaseException") = some true) (tc_NoMove : PySem.W.typeIn K (.ref C_NoMove) = some (.type "type"))
    (e1_NoMove : PySem.W.findIn K (.ref C_NoMove) "__getattribute__" = some (some (.builtin "BaseException.__getattribute__"))) (e2_NoMove : PySem.W.findIn K (.ref C_NoMove) "__getattr__" = some none) (e3_NoMove : PySem.W.hasDictIn K C_NoMove = true) (e4_NoMove : PySem.W.findIn K (.ref C_NoMove) "__class__" = some (some (.builtin "object.__class__"))) (e5_NoMove : PySem.W.specialIn K (.builtin "object.__class__") "__get__" = some (some (.builtin "getset_descriptor.__get__"))) (e6_NoMove : PySem.W.takesIn K (.builtin "object.__class__") = some true) (e7_NoMove : PySem.W.mroIn K C_NoMove (.type "object") = some true) (kv_NoMove : PySem.W.subIn K (.ref C_NoMove) (.type "ValueError") = some true)
    (s_TreeError_TreeError : PySem.W.subIn K (.ref C_TreeError) (.ref C_TreeError) = some true)
    (s_TreeError_NoMove : PySem.W.subIn K (.ref C_TreeError) (.ref C_NoMove) = some false)
    (s_NoMove_TreeError : PySem.W.subIn K (.ref C_NoMove) (.ref C_TreeError) = some true)
    (s_NoMove_NoMove : PySem.W.subIn K (.ref C_NoMove) (.ref C_NoMove) = some true)
    {t0 : Tok} (v0 : PySem.W.nsIn K mainGlobals "GREATEST" = some (some (.int 1000000000000000000000000000000000000000000000000000000000000 t0)))
    : ∃ fd : FuncData, (∀ (s : Shared) (v : Value), BindsTo s fd ⟨[v], []⟩ [("_law_script", v)]) ∧ ∀ base : Heap, K.In base → base.Ns mainGlobals mg → FnOk l.prog w K mg base CX0 5 fa fd ["_law_script"] (sp_law K) := by
  have e := hfa.symm.trans (PySem.W.mg_of X G a12)
  cases e
  have F0 := fun_mk (st := s_is_number) l0 c0 k0
  have b0 := F0.binds (ps := ["thing", "least"]) fun _ _ _ _ _ _ us hl => match us, hl with | [_, _], _ => rfl
  have F1 := fun_mk (st := s_is_move) l1 c1 k1
  have b1 := F1.binds (ps := ["thing"]) fun _ _ _ _ _ _ us hl => match us, hl with | [_], _ => rfl
  have F2 := fun_mk (st := s_read) l2 c2 k2
  have b2 := F2.binds (ps := ["line"]) fun _ _ _ _ _ _ us hl => match us, hl with | [_], _ => rfl
  have F3 := fun_mk (st := s_is_figures) l3 c3 k3
  have b3 := F3.binds (ps := ["word"]) fun _ _ _ _ _ _ us hl => match us, hl with | [_], _ => rfl
  have F4 := fun_mk (st := s_law_whole) l4 c4 k4
  have b4 := F4.binds (ps := ["_law_found"]) fun _ _ _ _ _ _ us hl => match us, hl with | [_], _ => rfl
  have F5 := fun_mk (st := s_law_cell_at) l5 c5 k5
  have b5 := F5.binds (ps := ["_law_script", "_law_k"]) fun _ _ _ _ _ _ us hl => match us, hl with | [_, _], _ => rfl
  have F6 := fun_mk (st := s_law_same_move) l6 c6 k6
  have b6 := F6.binds (ps := ["_law_found", "_law_due"]) fun _ _ _ _ _ _ us hl => match us, hl with | [_, _], _ => rfl
  have F7 := fun_mk (st := s_law_sign_by) l7 c7 k7
  have b7 := F7.binds (ps := ["_law_cell"]) fun _ _ _ _ _ _ us hl => match us, hl with | [_], _ => rfl
  have F8 := fun_mk (st := s_law_number) l8 c8 k8
  have b8 := F8.binds (ps := ["_law_cell"]) fun _ _ _ _ _ _ us hl => match us, hl with | [_], _ => rfl
  have F9 := fun_mk (st := s_law_odd_line) l9 c9 k9
  have b9 := F9.binds (ps := ["_law_cell"]) fun _ _ _ _ _ _ us hl => match us, hl with | [_], _ => rfl
  have F10 := fun_mk (st := s_law_due_of) l10 c10 k10
  have b10 := F10.binds (ps := ["_law_line"]) fun _ _ _ _ _ _ us hl => match us, hl with | [_], _ => rfl
  have F11 := fun_mk (st := s_law_refused_by_any) l11 c11 k11
  have b11 := F11.binds (ps := ["_law_line"]) fun _ _ _ _ _ _ us hl => match us, hl with | [_], _ => rfl
  have F12 := fun_mk (st := s_law) l12 c12 k12
  have b12 := F12.binds (ps := ["_law_script"]) fun _ _ _ _ _ _ us hl => match us, hl with | [_], _ => rfl
  refine ⟨PySem.W.fnOf "law" "law" (defArgs s_law) (defBody s_law) (defScope s_law) .none kV12 dc12 pm12 an12 cd12 ct12, fun s v => .of_eq rfl, fun base _ _ => ?_⟩
  exact ok_law ⟨f0, _, F0, b0, PySem.W.mg_of X G a0, f1, _, F1, b1, PySem.W.mg_of X G a1, f2, _, F2, b2, PySem.W.mg_of X G a2, f3, _, F3, b3, PySem.W.mg_of X G a3, f4, _, F4, b4, PySem.W.mg_of X G a4, f5, _, F5, b5, PySem.W.mg_of X G a5, f6, _, F6, b6, PySem.W.mg_of X G a6, f7, _, F7, b7, PySem.W.mg_of X G a7, f8, _, F8, b8, PySem.W.mg_of X G a8, f9, _, F9, b9, PySem.W.mg_of X G a9, f10, _, F10, b10, PySem.W.mg_of X G a10, f11, _, F11, b11, PySem.W.mg_of X G a11, fa, _, F12, b12, PySem.W.mg_of X G a12, PySem.W.mg_none_of X G z0, PySem.W.mg_none_of X G z1, PySem.W.mg_none_of X G z2, PySem.W.mg_none_of X G z3, PySem.W.mg_none_of X G z4, PySem.W.mg_none_of X G z5, PySem.W.mg_none_of X G z6, PySem.W.mg_none_of X G z7, PySem.W.mg_none_of X G z8, C_TreeError, PySem.W.mg_of X G gc_TreeError, x_TreeError, kc_TreeError, bc_TreeError, tc_TreeError, ⟨e1_TreeError, e2_TreeError, bc_TreeError, e3_TreeError, e4_TreeError, e5_TreeError, e6_TreeError, e7_TreeError⟩, kit_sub (by decide +kernel) kv_TreeError, C_NoMove, PySem.W.mg_of X G gc_NoMove, x_NoMove, kc_NoMove, bc_NoMove, tc_NoMove, ⟨e1_NoMove, e2_NoMove, bc_NoMove, e3_NoMove, e4_NoMove, e5_NoMove, e6_NoMove, e7_NoMove⟩, kit_sub (by decide +kernel) kv_NoMove, PySem.W.exm_ref bc_TreeError e3_TreeError tc_TreeError s_TreeError_TreeError, PySem.W.exm_ref bc_NoMove e3_NoMove tc_NoMove s_TreeError_NoMove, PySem.W.exm_ref bc_TreeError e3_TreeError tc_TreeError s_NoMove_TreeError, PySem.W.exm_ref bc_NoMove e3_NoMove tc_NoMove s_NoMove_NoMove, t0, PySem.W.mg_of X G v0⟩
end Tm
open PySem PySem.W PyProof.Rows
set_option maxHeartbeats 0 in
theorem PySem.Challenge.cw_treemove_k07_read_holds : PySem.Challenge.rw_treemove_k07_read.Holds := by
  w_on; o_law; k_head; (case hw => w_witness2)
  k_fill
  refine L2.walk_of (l := PySem.Challenge.rw_treemove_k07_read) (n := 63) (k := 5) (x := "_law_script") (CX := fun _ => L2.CX0) (sp := fun w => Tm.sp_law _) rfl (by decide) rfl ⟨rfl, by decide, by decide⟩ (fun w h Y => PySem.W.kIn_of Y) ?F (fun _ _ a ns hl _ hS => ⟨a, ns, rfl, hS, hl, fun _ => rfl⟩) (fun _ _ _ _ _ h => h)
  case F =>
    intro w mg fa h KX G hmg
    refine' Tm.all_mk KX G hmg ?a0 ?l0 ?c0 ?k0 ?a1 ?l1 ?c1 ?k1 ?a2 ?l2 ?c2 ?k2 ?a3 ?l3 ?c3 ?k3 ?a4 ?l4 ?c4 ?k4 ?a5 ?l5 ?c5 ?k5 ?a6 ?l6 ?c6 ?k6 ?a7 ?l7 ?c7 ?k7 ?a8 ?l8 ?c8 ?k8 ?a9 ?l9 ?c9 ?k9 ?a10 ?l10 ?c10 ?k10 ?a11 ?l11 ?c11 ?k11 ?a12 ?l12 ?c12 ?k12 ?z0 ?z1 ?z2 ?z3 ?z4 ?z5 ?z6 ?z7 ?z8 ?gc_TreeError ?x_TreeError ?kc_TreeError ?bc_TreeError ?tc_TreeError ?e1_TreeError ?e2_TreeError ?e3_TreeError ?e4_TreeError ?e5_TreeError ?e6_TreeError ?e7_TreeError ?kv_TreeError ?gc_NoMove ?x_NoMove ?kc_NoMove ?bc_NoMove ?tc_NoMove ?e1_NoMove ?e2_NoMove ?e3_NoMove ?e4_NoMove ?e5_NoMove ?e6_NoMove ?e7_NoMove ?kv_NoMove ?s_TreeError_TreeError ?s_TreeError_NoMove ?s_NoMove_TreeError ?s_NoMove_NoMove ?v0
    (case a0 => k_is); (case l0 => k_is); (case c0 => k_is); (case k0 => k_is); (case a1 => k_is); (case l1 => k_is)
    (case c1 => k_is); (case k1 => k_is); (case a2 => k_is); (case l2 => k_is); (case c2 => k_is); (case k2 => k_is)
    (case a3 => k_is); (case l3 => k_is); (case c3 => k_is); (case k3 => k_is); (case a4 => k_is); (case l4 => k_is)
    (case c4 => k_is); (case k4 => k_is); (case a5 => k_is); (case l5 => k_is); (case c5 => k_is); (case k5 => k_is)
    (case a6 => k_is); (case l6 => k_is); (case c6 => k_is); (case k6 => k_is); (case a7 => k_is); (case l7 => k_is)
    (case c7 => k_is); (case k7 => k_is); (case a8 => k_is); (case l8 => k_is); (case c8 => k_is); (case k8 => k_is)
    (case a9 => k_is); (case l9 => k_is); (case c9 => k_is); (case k9 => k_is); (case a10 => k_is); (case l10 => k_is)
    (case c10 => k_is); (case k10 => k_is); (case a11 => k_is); (case l11 => k_is); (case c11 => k_is); (case k11 => k_is)
    (case a12 => k_is); (case l12 => k_is); (case c12 => k_is); (case k12 => k_is); (case z0 => k_is); (case z1 => k_is)
    (case z2 => k_is); (case z3 => k_is); (case z4 => k_is); (case z5 => k_is); (case z6 => k_is); (case z7 => k_is)
    (case z8 => k_is); (case gc_TreeError => k_is); (case x_TreeError => k_exc); (case kc_TreeError => k_is); (case bc_TreeError => k_is); (case tc_TreeError => k_is)
    (case e1_TreeError => k_is); (case e2_TreeError => k_is); (case e3_TreeError => k_is); (case e4_TreeError => k_is); (case e5_TreeError => k_is); (case e6_TreeError => k_is)
    (case e7_TreeError => k_is); (case kv_TreeError => k_is); (case gc_NoMove => k_is); (case x_NoMove => k_exc); (case kc_NoMove => k_is); (case bc_NoMove => k_is)
    (case tc_NoMove => k_is); (case e1_NoMove => k_is); (case e2_NoMove => k_is); (case e3_NoMove => k_is); (case e4_NoMove => k_is); (case e5_NoMove => k_is)
    (case e6_NoMove => k_is); (case e7_NoMove => k_is); (case kv_NoMove => k_is); (case s_TreeError_TreeError => first | rfl | k_is); (case s_TreeError_NoMove => first | rfl | k_is); (case s_NoMove_TreeError => first | rfl | k_is)
    (case s_NoMove_NoMove => first | rfl | k_is); (case v0 => k_is)
