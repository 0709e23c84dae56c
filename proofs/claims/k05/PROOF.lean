import PyProof.Rows.All
import Wide.All
import OpenK.AllK
import Wide.FinOn
import HandS.ForMost
import HandS.IsInst
import PySem.Challenge.RW_treemove_k05_is_a_move
set_option Elab.async false
set_option linter.all false
set_option maxRecDepth 100000
set_option pp.maxSteps 900
namespace Tm
open PySem PySem.Spec PyProof.Rows L2
def topS (i : Nat) : Stmt := PySem.Challenge.pw_treemove_k05_is_a_move.main.body.getD i (.Pass ⟨0, 0, 0, 0⟩)
abbrev s_is_number : Stmt := topS 2
theorem sc_is_number : FnScope ["thing", "least"] ["thing", "least"] (defScope s_is_number) := ⟨rfl, rfl, rfl, by decide +kernel, rfl, by decide +kernel, by decide +kernel⟩
abbrev s_is_move : Stmt := topS 3
theorem sc_is_move : FnScope ["thing", "time", "hand", "folder", "under"] ["thing"] (defScope s_is_move) := ⟨rfl, rfl, rfl, by decide +kernel, rfl, by decide +kernel, by decide +kernel⟩
abbrev s_law_cell_at : Stmt := topS 5
theorem sc_law_cell_at : FnScope ["_law_script", "_law_k"] ["_law_script", "_law_k"] (defScope s_law_cell_at) := ⟨rfl, rfl, rfl, by decide +kernel, rfl, by decide +kernel, by decide +kernel⟩
abbrev s_law_part : Stmt := topS 6
theorem sc_law_part : FnScope ["_law_cell", "_law_least"] ["_law_cell", "_law_least"] (defScope s_law_part) := ⟨rfl, rfl, rfl, by decide +kernel, rfl, by decide +kernel, by decide +kernel⟩
abbrev s_law : Stmt := topS 7
theorem sc_law : FnScope ["_law_script", "_law_parts", "_law_good", "_law_k", "_law_least", "_law_part_here", "_law_thing", "_law_way", "_law_found"] ["_law_script"] (defScope s_law) := ⟨rfl, rfl, rfl, by decide +kernel, rfl, by decide +kernel, by decide +kernel⟩
/-- what the top leaves -/
structure Tx (K : PySem.W.Frag) (mg : Str → Option Value) where
  a_is_number : Addr
  d_is_number : FuncData
  F_is_number : Fun K "is_number" "is_number" s_is_number a_is_number d_is_number
  b_is_number : Binds K d_is_number ["thing", "least"] []
  g_is_number : mg "is_number" = some (.ref a_is_number)
  a_is_move : Addr
  d_is_move : FuncData
  F_is_move : Fun K "is_move" "is_move" s_is_move a_is_move d_is_move
  b_is_move : Binds K d_is_move ["thing"] []
  g_is_move : mg "is_move" = some (.ref a_is_move)
  a_law_cell_at : Addr
  d_law_cell_at : FuncData
  F_law_cell_at : Fun K "_law_cell_at" "_law_cell_at" s_law_cell_at a_law_cell_at d_law_cell_at
  b_law_cell_at : Binds K d_law_cell_at ["_law_script", "_law_k"] []
  g_law_cell_at : mg "_law_cell_at" = some (.ref a_law_cell_at)
  a_law_part : Addr
  d_law_part : FuncData
  F_law_part : Fun K "_law_part" "_law_part" s_law_part a_law_part d_law_part
  b_law_part : Binds K d_law_part ["_law_cell", "_law_least"] []
  g_law_part : mg "_law_part" = some (.ref a_law_part)
  a_law : Addr
  d_law : FuncData
  F_law : Fun K "law" "law" s_law a_law d_law
  b_law : Binds K d_law ["_law_script"] []
  g_law : mg "law" = some (.ref a_law)
  m_bool : mg "bool" = none
  m_int : mg "int" = none
  m_isinstance : mg "isinstance" = none
  m_len : mg "len" = none
  m_range : mg "range" = none
  m_tuple : mg "tuple" = none
  t_GREATEST : Tok
  c_GREATEST : mg "GREATEST" = some (.int 1000000000000000000000000000000000000000000000000000000000000 t_GREATEST)
/-! ### short readings -/
theorem isi {K : PySem.W.Frag} {H : Hp} {x : V} {t n : String} {b : Bool} {Q : VK} (ty : TyX K H x (.type t)) (e : kitB t n = some b) (q : Q (.bl b) H) : rIsi K [x, .ty n] H Q := ⟨x, .ty n, .type t, .type n, b, rfl, .ty n, ty, kit_ty e, q⟩
theorem kbb : kitB "bool" "bool" = some true := by decide +kernel
theorem kbi : kitB "bool" "int" = some true := by decide +kernel
theorem kii : kitB "int" "int" = some true := by decide +kernel
theorem kib : kitB "int" "bool" = some false := by decide +kernel
theorem kll : kitB "list" "list" = some true := by decide +kernel
theorem ktt : kitB "tuple" "tuple" = some true := by decide +kernel
theorem kdd : kitB "dict" "dict" = some true := by decide +kernel
theorem kss : kitB "str" "str" = some true := by decide +kernel
theorem same_upd {H : Hp} {p : Addr} {o : HO} (h : H p = none) : Same H (upd H p o) := fun b x e => by
  rw [upd_ne (ne_of_none e h)]
  exact e
/-- a change at an object that is new since H -/
theorem same_set {H H' : Hp} {p : Addr} {o : HO} (s : Same H H') (h : H p = none) : Same H (upd H' p o) := fun b x e => by
  rw [upd_ne (ne_of_none e h)]
  exact s b x e
theorem same_seqT {K : PySem.W.Frag} {H H' : Hp} {a : Addr} {xs : List V} (e : Same H H') (h : SqT K H a xs) : SqT K H' a xs := by
  rcases h with (h | ⟨o, h⟩) | h
  · exact .inl (.inl (e _ _ h))
  · exact .inl (.inr ⟨o, e _ _ h⟩)
  · exact .inr h
theorem p60 : (10 : Int) ^ (Int.toNat 60) = 1000000000000000000000000000000000000000000000000000000000000 := by decide +kernel
local macro_rules | `(tactic| walk_at "cond") => `(tactic| first
  | assumption
  | exact Nat.le_of_ble_eq_true rfl
  | decide
  | omega
  | (dsimp only; first | decide | omega)
  | exact ⟨by decide, by decide, by decide⟩
  | exact ⟨by first | decide | omega, by first | decide | omega⟩
  | exact .inr ⟨by first | decide | omega, by first | decide | omega⟩
  | exact .inl ⟨by first | decide | omega, by first | decide | omega⟩)
local macro_rules | `(tactic| walk_at "rd1") => `(tactic| first
  | refine ⟨_, rfl, ?_⟩
  | refine ⟨_, _, rfl, rfl, ?_⟩
  | refine ⟨rfl, ?_⟩
  | refine ⟨_, _, rfl, ?_⟩
  | refine ⟨(by walk_at "cond" : (_ : Prop)), ?_⟩
  | refine ⟨_, _, _, rfl, by assumption, by first | decide | omega, ?_⟩
  | refine ⟨_, _, _, _, _, rfl, .ty _, .base (.int _), kit_ty kii, ?_⟩
  | refine ⟨_, _, _, _, _, rfl, .ty _, .base (.int _), kit_ty kib, ?_⟩
  | refine ⟨_, _, _, _, _, rfl, .ty _, .base (.bl _), kit_ty kbb, ?_⟩
  | refine ⟨_, _, _, _, _, rfl, .ty _, .base (.bl _), kit_ty kbi, ?_⟩
  | refine ⟨_, _, _, _, _, rfl, .ty _, .base (.str _), kit_ty kss, ?_⟩
  | refine ⟨_, _, _, _, _, rfl, .ty _, .base (.lst (by assumption)), kit_ty kll, ?_⟩
  | refine ⟨_, _, _, _, _, rfl, .ty _, .base (.tup (by assumption)), kit_ty ktt, ?_⟩
  | refine ⟨_, _, _, _, _, rfl, .ty _, .base (.dK (by assumption)), kit_ty kdd, ?_⟩
  | refine ⟨_, _, _, _, rfl, rfl, by assumption, by first | exact atI_nat (j := 0) rfl | exact atI_nat (j := 1) rfl | exact atI_nat (j := 2) rfl | exact atI_nat (j := 3) rfl, ?_⟩
  | refine iteF ?_
  | refine iteT ?_)
local macro_rules | `(tactic| walk_at "rd") => `(tactic| repeat (walk_at "rd1"))

section
variable {P : Program} {w : World} {K : PySem.W.Frag} {mg : Str → Option Value} {base : Heap}
/-! ### _law_cell_at -/
def cellOf (ns : List Int) (k : Nat) : Int := ns.getD k 0
def sp_law_cell_at (K : PySem.W.Frag) : Sp := fun vs H Q _ => ∃ (a : Addr) (ns : List Int) (k : Int), vs = [.ref a, .int k] ∧ SqL K H a (ns.map V.int) ∧ 0 ≤ k ∧ Q (.int (cellOf ns k.toNat)) H
theorem ok_law_cell_at (T : Tx K mg) : FnOk P w K mg base CX0 1 T.a_law_cell_at T.d_law_cell_at ["_law_script", "_law_k"] (sp_law_cell_at K) := by
  refine T.F_law_cell_at.ok sc_law_cell_at (fun vs H Q E h => ?_) (fun cdv A outer s H vs Q E hr h => ?_)
  · obtain ⟨a, ns, k, rfl, _⟩ := h
    rfl
  · obtain ⟨a, ns, k, rfl, hS, hk, q⟩ := h
    obtain ⟨k, rfl⟩ := Int.eq_ofNat_of_zero_le hk
    refine ⟨_, pss_cons (ps_if (pt_cmpR op_lt (pv 1) (pe_callB call_len_seq (by rfl) T.m_len PySem.boot_len (pa_cons (pv 0) pa_nil)) (nomark _)) (pss_one (ps_ret (pe_ix ix_list (pv 0) (pv 1) (fun _ _ => rfl)))) pss_nil)
      (pss_one (ps_ret pe_int)), ?_⟩
    refine ⟨_, rfl, .ref a, rfl, a, _, rfl, .inl hS, _, _, rfl, rfl, _, rfl, ite2 (fun e => ?_) (fun e => ?_)⟩
    · have e1 := of_decide_eq_true e
      rw [List.length_map] at e1
      have h1 : k < ns.length := by omega
      refine ⟨_, rfl, _, rfl, a, _, _, _, rfl, rfl, hS, atI_nat (j := k) (v := .int ns[k]) (by rw [List.getElem?_map, List.getElem?_eq_getElem h1]; rfl), ?_⟩
      have e2 : cellOf ns k = ns[k] := by
        unfold cellOf
        rw [List.getD_eq_getElem?_getD, List.getElem?_eq_getElem h1]
        rfl
      have q' : Q (.int (cellOf ns k)) H := q
      rw [e2] at q'
      exact q'
    · have e1 : ¬ ((k : Int) < ((ns.map V.int).length : Nat)) := fun z => e (decide_eq_true z)
      rw [List.length_map] at e1
      have h1 : ns.length ≤ k := by omega
      have e2 : cellOf ns k = 0 := by
        unfold cellOf
        rw [List.getD_eq_getElem?_getD, List.getElem?_eq_none h1]
        rfl
      have q' : Q (.int (cellOf ns k)) H := q
      rw [e2] at q'
      exact q'

/-! ### values of a kind that is known -/
inductive Kd (H : Hp) : V → Prop where
  | int (i : Int) : Kd H (.int i)
  | bl (b : Bool) : Kd H (.bl b)
  | str (z : Str) : Kd H (.str z)
  | non : Kd H .non
  | lst {a : Addr} {xs : List V} (e : H a = some (.lst xs)) : Kd H (.ref a)
  | tup {a : Addr} {xs : List V} (e : H a = some (.tup xs)) : Kd H (.ref a)
  | dK {a : Addr} {kvs : List (Key × V)} (e : H a = some (.dK kvs)) : Kd H (.ref a)
theorem Kd.same {H H' : Hp} {v : V} (s : Same H H') (k : Kd H v) : Kd H' v := by
  cases k with
  | int i => exact .int i
  | bl b => exact .bl b
  | str z => exact .str z
  | non => exact .non
  | lst e => exact .lst (s _ _ e)
  | tup e => exact .tup (s _ _ e)
  | dK e => exact .dK (s _ _ e)
theorem Kd.set {H : Hp} {v : V} {p : Addr} {xs ys : List V} (h : H p = some (.lst xs)) (k : Kd H v) : Kd (upd H p (.lst ys)) v := by
  cases k with
  | int i => exact .int i
  | bl b => exact .bl b
  | str z => exact .str z
  | non => exact .non
  | @lst a zs e =>
    by_cases c : a = p
    · subst c
      exact .lst upd_same
    · exact .lst (by rw [upd_ne c]; exact e)
  | @tup a zs e => exact .tup (by rw [upd_ne (ne_of e h (fun z => nomatch z))]; exact e)
  | @dK a kvs e => exact .dK (by rw [upd_ne (ne_of e h (fun z => nomatch z))]; exact e)
theorem klb : kitB "list" "bool" = some false := by decide +kernel
theorem kli : kitB "list" "int" = some false := by decide +kernel
theorem klt : kitB "list" "tuple" = some false := by decide +kernel
theorem ktb : kitB "tuple" "bool" = some false := by decide +kernel
theorem kti : kitB "tuple" "int" = some false := by decide +kernel
theorem kdb : kitB "dict" "bool" = some false := by decide +kernel
theorem kdi : kitB "dict" "int" = some false := by decide +kernel
theorem kdt : kitB "dict" "tuple" = some false := by decide +kernel
theorem ksb : kitB "str" "bool" = some false := by decide +kernel
theorem ksi : kitB "str" "int" = some false := by decide +kernel
theorem kst : kitB "str" "tuple" = some false := by decide +kernel
theorem knb : kitB "NoneType" "bool" = some false := by decide +kernel
theorem kni : kitB "NoneType" "int" = some false := by decide +kernel
theorem knt : kitB "NoneType" "tuple" = some false := by decide +kernel
theorem kit' : kitB "int" "tuple" = some false := by decide +kernel
theorem kbt : kitB "bool" "tuple" = some false := by decide +kernel
/-- its answer to isinstance(v, bool), isinstance(v, int) -/
def isB : V → Bool
  | .bl _ => true
  | _ => false
def isI : V → Bool
  | .bl _ => true
  | .int _ => true
  | _ => false
theorem Kd.ty {K : PySem.W.Frag} {H : Hp} {v : V} (k : Kd H v) : ∃ t, TyX K H v (.type t) ∧ kitB t "bool" = some (isB v) ∧ kitB t "int" = some (isI v) := by
  cases k with
  | int i => exact ⟨_, .base (.int _), kib, kii⟩
  | bl b => exact ⟨_, .base (.bl _), kbb, kbi⟩
  | str z => exact ⟨_, .base (.str _), ksb, ksi⟩
  | non => exact ⟨_, .base .non, knb, kni⟩
  | lst e => exact ⟨_, .base (.lst e), klb, kli⟩
  | tup e => exact ⟨_, .base (.tup e), ktb, kti⟩
  | dK e => exact ⟨_, .base (.dK e), kdb, kdi⟩
/-- a tuple, or none -/
def noTup (H : Hp) (v : V) : Prop := (∃ i, v = .int i) ∨ (∃ b, v = .bl b) ∨ (∃ z, v = .str z) ∨ v = .non ∨ (∃ a xs, v = .ref a ∧ H a = some (.lst xs)) ∨ (∃ a kvs, v = .ref a ∧ H a = some (.dK kvs))
theorem noTup.ty {K : PySem.W.Frag} {H : Hp} {v : V} (k : noTup H v) : ∃ t, TyX K H v (.type t) ∧ kitB t "tuple" = some false := by
  rcases k with ⟨i, rfl⟩ | ⟨b, rfl⟩ | ⟨z, rfl⟩ | rfl | ⟨a, xs, rfl, e⟩ | ⟨a, kvs, rfl, e⟩
  · exact ⟨_, .base (.int _), kit'⟩
  · exact ⟨_, .base (.bl _), kbt⟩
  · exact ⟨_, .base (.str _), kst⟩
  · exact ⟨_, .base .non, knt⟩
  · exact ⟨_, .base (.lst e), klt⟩
  · exact ⟨_, .base (.dK e), kdt⟩
abbrev G60 : Int := 1000000000000000000000000000000000000000000000000000000000000
/-- a whole number from the least to the greatest -/
def numB (l : Int) : V → Bool
  | .int i => decide (l ≤ i) && decide (i ≤ G60)
  | _ => false
theorem numB_lo {l x : Int} (h : x < l) : numB l (.int x) = false := by
  show (decide (l ≤ x) && decide (x ≤ G60)) = false
  rw [decide_eq_false (show ¬ l ≤ x by omega), Bool.false_and]
theorem numB_hi {l x : Int} (h : G60 < x) : numB l (.int x) = false := by
  show (decide (l ≤ x) && decide (x ≤ G60)) = false
  rw [decide_eq_false (show ¬ x ≤ G60 from fun z => absurd h (Int.not_lt.mpr z)), Bool.and_false]
theorem numB_in {l x : Int} (h : ¬ x < l) (h' : ¬ G60 < x) : numB l (.int x) = true := by
  show (decide (l ≤ x) && decide (x ≤ G60)) = true
  rw [decide_eq_true (Int.not_lt.mp h), decide_eq_true (Int.not_lt.mp h')]
  rfl
/-! ### is_number -/
def sp_is_number (K : PySem.W.Frag) : Sp := fun vs H Q _ => ∃ (v : V) (l : Int), vs = [v, .int l] ∧ Kd H v ∧ Q (.bl (numB l v)) H
theorem ok_is_number (T : Tx K mg) : FnOk P w K mg base CX0 1 T.a_is_number T.d_is_number ["thing", "least"] (sp_is_number K) := by
  refine T.F_is_number.ok sc_is_number (fun vs H Q E h => ?_) (fun cdv A outer s H vs Q E hr h => ?_)
  · obtain ⟨v, l, rfl, _⟩ := h
    rfl
  · obtain ⟨v, l, rfl, kd, q⟩ := h
    refine ⟨_, pss_cons (ps_if (PW.pt (pw_or (pt_val (pe_callB call_isi (by rfl) T.m_isinstance (by decide +kernel) (pa_cons (pv 0) (pa_cons (pe_bltn (v := .ty "bool") (by rfl) T.m_bool (by decide +kernel) rfl) pa_nil)))) (pw_or1 (pt_not (pt_val (pe_callB call_isi (by rfl) T.m_isinstance (by decide +kernel) (pa_cons (pv 0) (pa_cons (pe_bltn (v := .ty "int") (by rfl) T.m_int (by decide +kernel) rfl) pa_nil)))))))) (pss_one (ps_ret pe_bl)) pss_nil)
      (pss_one (ps_ret (pe_chain op_le op_le (pv 1) (pv 0) (pe_glob (v := .int 1000000000000000000000000000000000000000000000000000000000000) rfl T.c_GREATEST ⟨_, rfl⟩)))), ?_⟩
    refine ⟨_, rfl, ?_⟩
    obtain ⟨t, ty, hb, hi⟩ := kd.ty (K := K)
    refine ⟨_, _, _, _, _, rfl, .ty _, ty, kit_ty hb, ?_⟩
    refine ⟨_, rfl, ?_⟩
    refine ite2 (fun e => ?_) (fun e => ?_)
    · cases kd <;> first | exact q | cases e
    · refine ⟨_, rfl, ?_⟩
      refine ⟨_, _, _, _, _, rfl, .ty _, ty, kit_ty hi, ?_⟩
      refine ⟨_, rfl, ?_⟩
      cases kd with
      | int i =>
        refine iteF ?_
        walk_at "rd"
        refine ite2 (fun e1 => ?_) (fun e1 => ?_)
        · walk_at "rd"
          have h1 : l ≤ i := of_decide_eq_true e1
          have q' : Q (.bl (decide (l ≤ i) && decide (i ≤ G60))) H := q
          rw [decide_eq_true h1, Bool.true_and] at q'
          exact q'
        · have h1 : ¬ l ≤ i := fun z => e1 (decide_eq_true z)
          have q' : Q (.bl (decide (l ≤ i) && decide (i ≤ G60))) H := q
          rw [decide_eq_false h1, Bool.false_and] at q'
          exact q'
      | bl b => exact absurd rfl e
      | _ => exact iteT q
/-! ### is_move -/
def moveB (a b c d : V) : Bool := (numB 1 a && numB 0 b) && (numB 1 c && numB 0 d)
def sp_is_move (K : PySem.W.Frag) : Sp := fun vs H Q _ => ∃ v : V, vs = [v] ∧
  ((∃ p a b c d, v = .ref p ∧ H p = some (.tup [a, b, c, d]) ∧ Kd H a ∧ Kd H b ∧ Kd H c ∧ Kd H d ∧ Q (.bl (moveB a b c d)) H) ∨
   (((∃ p xs, v = .ref p ∧ H p = some (.tup xs) ∧ xs.length ≠ 4) ∨ noTup H v) ∧ Q (.bl false) H))
theorem ok_is_move (T : Tx K mg) : FnOk P w K mg base CX0 2 T.a_is_move T.d_is_move ["thing"] (sp_is_move K) := by
  refine T.F_is_move.ok sc_is_move (fun vs H Q E h => ?_) (fun cdv A outer s H vs Q E hr h => ?_)
  · obtain ⟨v, rfl, _⟩ := h
    rfl
  · obtain ⟨v, rfl, h⟩ := h
    refine ⟨_, pss_cons (ps_if (PW.pt (pw_or (pt_not (pt_val (pe_callB call_isi (by rfl) T.m_isinstance (by decide +kernel) (pa_cons (pv 0) (pa_cons (pe_bltn (v := .ty "tuple") (by rfl) T.m_tuple (by decide +kernel) rfl) pa_nil))))) (pw_or1 (pt_cmpR op_ne (pe_callB call_len_seq (by rfl) T.m_len PySem.boot_len (pa_cons (pv 0) pa_nil)) pe_int (nomark _))))) (pss_one (ps_ret pe_bl)) pss_nil)
      (pss_cons (ps_asg (pv 0) (pg_tup (by rfl) (pgs_cons (pg_name (i := 1) sc_is_move.nd rfl (Or.inl rfl)) (pgs_cons (pg_name (i := 2) sc_is_move.nd rfl (Or.inl rfl)) (pgs_cons (pg_name (i := 3) sc_is_move.nd rfl (Or.inl rfl)) (pgs_cons (pg_name (i := 4) sc_is_move.nd rfl (Or.inl rfl)) pgs_nil))))))
      (pss_cons (ps_if (PW.pt (pw_or (pt_not (pt_val (pe_call (ok_is_number T) (hr.mono (by decide)) (by rfl) T.g_is_number T.F_is_number.kp T.b_is_number .nil pass0 (pa_cons (pv 1) (pa_cons pe_int pa_nil))))) (pw_or1 (pt_not (pt_val (pe_call (ok_is_number T) (hr.mono (by decide)) (by rfl) T.g_is_number T.F_is_number.kp T.b_is_number .nil pass0 (pa_cons (pv 2) (pa_cons pe_int pa_nil)))))))) (pss_one (ps_ret pe_bl)) pss_nil)
      (pss_one (ps_ret (pe_and (pe_call (ok_is_number T) (hr.mono (by decide)) (by rfl) T.g_is_number T.F_is_number.kp T.b_is_number .nil pass0 (pa_cons (pv 3) (pa_cons pe_int pa_nil))) (pe_one (pe_call (ok_is_number T) (hr.mono (by decide)) (by rfl) T.g_is_number T.F_is_number.kp T.b_is_number .nil pass0 (pa_cons (pv 4) (pa_cons pe_int pa_nil))))))))), ?_⟩
    refine ⟨_, rfl, ?_⟩
    rcases h with ⟨p, a, b, c, d, rfl, ht, ka, kb, kc, kd, q⟩ | ⟨⟨p, xs, rfl, ht, hl⟩ | hn, q⟩
    · refine ⟨_, _, _, _, _, rfl, .ty _, .base (.tup ht), kit_ty ktt, ?_⟩
      refine ⟨_, rfl, iteF ?_⟩
      refine ⟨_, rfl, p, _, rfl, .inr (SqT.of ht), rfl, _, rfl, iteF ?_⟩
      refine ⟨_, rfl, p, _, rfl, SqT.of ht, rfl, ?_⟩
      walk_at "rd"
      have q1 : Q (.bl ((numB 1 a && numB 0 b) && (numB 1 c && numB 0 d))) H := q
      cases e1 : numB 1 a with
      | false =>
        rw [e1] at q1
        exact iteT q1
      | true =>
        refine iteF ?_
        walk_at "rd"
        cases e2 : numB 0 b with
        | false =>
          rw [e1, e2] at q1
          exact iteT q1
        | true =>
          refine iteF ?_
          rw [e1, e2] at q1
          walk_at "rd"
          cases e3 : numB 1 c with
          | false =>
            rw [e3] at q1
            exact iteF q1
          | true =>
            rw [e3] at q1
            refine iteT ?_
            walk_at "rd"
            exact q1
    · refine ⟨_, _, _, _, _, rfl, .ty _, .base (.tup ht), kit_ty ktt, ?_⟩
      refine ⟨_, rfl, iteF ?_⟩
      refine ⟨_, rfl, p, _, rfl, .inr (SqT.of ht), rfl, _, rfl, ?_⟩
      refine ite2 (fun _ => q) (fun e => absurd ?_ e)
      show (!decide (V.int xs.length = V.int 4)) = true
      rw [decide_eq_false (fun z => hl (by have := V.int.inj z; omega))]
      rfl
    · obtain ⟨t, ty, ht⟩ := hn.ty (K := K)
      refine ⟨_, _, _, _, _, rfl, .ty _, ty, kit_ty ht, ?_⟩
      exact ⟨_, rfl, iteT q⟩

/-! ### _law_part: some value of a kind that is known -/
def sp_law_part (K : PySem.W.Frag) : Sp := fun vs H Q _ => ∃ (c l : Int), vs = [.int c, .int l] ∧ l ≤ 1 ∧ ∀ v H', Same H H' → Kd H' v → Q v H'
set_option maxHeartbeats 1000000 in
theorem ok_law_part (T : Tx K mg) : FnOk P w K mg base CX0 1 T.a_law_part T.d_law_part ["_law_cell", "_law_least"] (sp_law_part K) := by
  refine T.F_law_part.ok sc_law_part (fun vs H Q E h => ?_) (fun cdv A outer s H vs Q E hr h => ?_)
  · obtain ⟨c, l, rfl, _⟩ := h
    rfl
  · obtain ⟨c, l, rfl, hl, q⟩ := h
    refine ⟨_, pss_cons (ps_if (pt_cmpR op_eq (pe_op op_mod (pv 0) pe_int) pe_int (nomark _)) (pss_one (ps_ret (pe_op op_pow pe_int pe_int))) pss_nil)
      (pss_cons (ps_if (pt_cmpR op_eq (pe_op op_mod (pv 0) pe_int) pe_int (nomark _)) (pss_one (ps_ret (pe_op op_sub (pv 1) pe_int))) pss_nil)
      (pss_cons (ps_if (pt_cmpR op_eq (pe_op op_mod (pv 0) pe_int) pe_int (nomark _)) (pss_one (ps_ret (pe_op op_add (pe_op op_pow pe_int pe_int) pe_int))) pss_nil)
      (pss_cons (ps_if (pt_cmpR op_eq (pe_op op_mod (pv 0) pe_int) pe_int (nomark _)) (pss_one (ps_ret (pe_cmpR op_eq (pe_op op_mod (pe_op op_fdiv (pv 0) pe_int) pe_int) pe_int (nomark _)))) pss_nil)
      (pss_cons (ps_if (pt_cmpR op_eq (pe_op op_mod (pv 0) pe_int) pe_int (nomark _)) (pss_one (ps_ret (pe_ix ix_list (pe_lst (pa_cons pe_str (pa_cons pe_non (pa_cons (pe_lst (pa_cons pe_int pa_nil)) (pa_cons pe_dnewK (pa_cons (pe_tup (pa_cons pe_int pa_nil)) pa_nil)))))) (pe_op op_mod (pe_op op_fdiv (pv 0) pe_int) pe_int) (fun _ _ => rfl)))) pss_nil)
      (pss_cons (ps_if (pt_cmpR op_eq (pe_op op_mod (pv 0) pe_int) pe_int (nomark _)) (pss_one (ps_ret (pe_op op_add (pv 1) (pe_op op_mod (pe_op op_fdiv (pv 0) pe_int) (pe_op op_sub (pe_op op_add (pe_op op_pow pe_int pe_int) pe_int) (pv 1)))))) pss_nil)
      (pss_one (ps_ret (pe_op op_add (pv 1) (pe_op op_mod (pe_op op_fdiv (pv 0) pe_int) pe_int))))))))), ?_⟩
    have hp := p60
    have fin : ∀ i, Q (.int i) H := fun i => q _ _ (Same.refl H) (.int i)
    walk_at "rd"
    refine ite2 (fun _ => ?_) (fun _ => ?_)
    · walk_at "rd"
      exact fin _
    walk_at "rd"
    refine ite2 (fun _ => ?_) (fun _ => ?_)
    · walk_at "rd"
      exact fin _
    walk_at "rd"
    refine ite2 (fun _ => ?_) (fun _ => ?_)
    · walk_at "rd"
      exact fin _
    walk_at "rd"
    refine ite2 (fun _ => ?_) (fun _ => ?_)
    · walk_at "rd"
      exact q _ _ (Same.refl H) (.bl _)
    walk_at "rd"
    refine ite2 (fun _ => ?_) (fun _ => ?_)
    · walk_at "rd"
      intro p1 n1
      have s1 := same_upd (o := HO.lst [V.int 1]) n1
      intro p2 n2
      have s2 := same_upd (o := HO.dK []) n2
      walk_at "rd"
      intro p3 n3
      have s3 := same_upd (o := HO.tup [V.int 1]) n3
      walk_at "rd"
      intro p4 n4
      have s4 := same_upd (o := HO.lst [V.str "1", V.non, V.ref p1, V.ref p2, V.ref p3]) n4
      have sH := ((s1.trans s2).trans s3).trans s4
      walk_at "rd"
      have hk : c / 8 % 5 = 0 ∨ c / 8 % 5 = 1 ∨ c / 8 % 5 = 2 ∨ c / 8 % 5 = 3 ∨ c / 8 % 5 = 4 := by omega
      rcases hk with hk | hk | hk | hk | hk
      · refine ⟨_, _, _, _, rfl, rfl, SqL.of upd_same, (by rw [hk]; exact atI_nat (j := 0) rfl), ?_⟩
        exact q _ _ sH (.str _)
      · refine ⟨_, _, _, _, rfl, rfl, SqL.of upd_same, (by rw [hk]; exact atI_nat (j := 1) rfl), ?_⟩
        exact q _ _ sH .non
      · refine ⟨_, _, _, _, rfl, rfl, SqL.of upd_same, (by rw [hk]; exact atI_nat (j := 2) rfl), ?_⟩
        exact q _ _ sH (.lst (s4 _ _ (s3 _ _ (s2 _ _ upd_same))))
      · refine ⟨_, _, _, _, rfl, rfl, SqL.of upd_same, (by rw [hk]; exact atI_nat (j := 3) rfl), ?_⟩
        exact q _ _ sH (.dK (s4 _ _ (s3 _ _ upd_same)))
      · refine ⟨_, _, _, _, rfl, rfl, SqL.of upd_same, (by rw [hk]; exact atI_nat (j := 4) rfl), ?_⟩
        exact q _ _ sH (.tup (s4 _ _ upd_same))
    walk_at "rd"
    refine ite2 (fun _ => ?_) (fun _ => ?_)
    · walk_at "rd"
      exact fin _
    walk_at "rd"
    exact fin _
/-! ### law -/
/-- the parts so far are all good -/
def leastOf (k : Nat) : Int := 1 - (k : Int) % 2
def gd (k : Nat) : List V → Bool
  | [] => true
  | v :: r => numB (leastOf k) v && gd (k + 1) r
theorem gd_snoc (v : V) : ∀ (vs : List V) (k : Nat), gd k (vs ++ [v]) = (gd k vs && numB (leastOf (k + vs.length)) v)
  | [], k => by
    show (numB (leastOf k) v && true) = (true && numB (leastOf k) v)
    rw [Bool.and_true, Bool.true_and]
  | x :: r, k => by
    show (numB (leastOf k) x && gd (k + 1) (r ++ [v])) = ((numB (leastOf k) x && gd (k + 1) r) && numB (leastOf (k + (r.length + 1))) v)
    rw [gd_snoc v r (k + 1), Bool.and_assoc, show k + 1 + r.length = k + (r.length + 1) by omega]
def sp_law (K : PySem.W.Frag) : Sp := fun vs H Q _ => ∃ (a : Addr) (ns : List Int), vs = [.ref a] ∧ SqL K H a (ns.map V.int) ∧ ns.length ≤ 63 ∧ ∀ H', Q (.bl true) H'
set_option maxHeartbeats 4000000 in
theorem ok_law (T : Tx K mg) : FnOk P w K mg base CX0 3 T.a_law T.d_law ["_law_script"] (sp_law K) := by
  refine T.F_law.ok sc_law (fun vs H Q E h => ?_) (fun cdv A outer s H vs Q E hr h => ?_)
  · obtain ⟨a, ns, rfl, _⟩ := h
    rfl
  · obtain ⟨a, ns, rfl, hS, hlen, k⟩ := h
    refine ⟨_, pss_cons (ps_set (i := 1) sc_law.nd rfl (.inl rfl) (pe_lst pa_nil))
      (pss_cons (ps_set (i := 2) sc_law.nd rfl (.inl rfl) pe_bl)
      (pss_cons (ps_for PassesOwn.never rfl (pi_range1 (by rfl) T.m_range (pa_cons pe_int pa_nil)) (pg_name (i := 3) sc_law.nd rfl (Or.inl rfl)) (pss_cons (ps_set (i := 4) sc_law.nd rfl (.inl rfl) (pe_op op_sub pe_int (pe_op op_mod (pv 3) pe_int)))
      (pss_cons (ps_set (i := 5) sc_law.nd rfl (.inl rfl) (pe_call (ok_law_part T) (hr.mono (by decide)) (by rfl) T.g_law_part T.F_law_part.kp T.b_law_part .nil pass0 (pa_cons (pe_call (ok_law_cell_at T) (hr.mono (by decide)) (by rfl) T.g_law_cell_at T.F_law_cell_at.kp T.b_law_cell_at .nil pass0 (pa_cons (pv 0) (pa_cons (pe_op op_add pe_int (pv 3)) pa_nil))) (pa_cons (pv 4) pa_nil))))
      (pss_cons (ps_if (pt_cmpR op_gt (pe_op op_mod (pe_op op_fdiv (pe_call (ok_law_cell_at T) (hr.mono (by decide)) (by rfl) T.g_law_cell_at T.F_law_cell_at.kp T.b_law_cell_at .nil pass0 (pa_cons (pv 0) (pa_cons pe_int pa_nil))) (pe_op op_add (pv 3) pe_int)) pe_int) pe_int (nomark _)) (pss_one (ps_set (i := 5) sc_law.nd rfl (.inl rfl) (pe_op op_add (pv 4) (pe_op op_mod (pe_call (ok_law_cell_at T) (hr.mono (by decide)) (by rfl) T.g_law_cell_at T.F_law_cell_at.kp T.b_law_cell_at .nil pass0 (pa_cons (pv 0) (pa_cons (pe_op op_add pe_int (pv 3)) pa_nil))) pe_int)))) pss_nil)
      (pss_cons (ps_if (PW.pt (pw_or (pt_not (pt_val (pe_callB call_isi (by rfl) T.m_isinstance (by decide +kernel) (pa_cons (pv 5) (pa_cons (pe_bltn (v := .ty "int") (by rfl) T.m_int (by decide +kernel) rfl) pa_nil))))) (pw_or (pt_val (pe_callB call_isi (by rfl) T.m_isinstance (by decide +kernel) (pa_cons (pv 5) (pa_cons (pe_bltn (v := .ty "bool") (by rfl) T.m_bool (by decide +kernel) rfl) pa_nil)))) (pw_or (pt_cmpR op_lt (pv 5) (pv 4) (nomark _)) (pw_or1 (pt_cmpR op_gt (pv 5) (pe_op op_pow pe_int pe_int) (nomark _))))))) (pss_one (ps_set (i := 2) sc_law.nd rfl (.inl rfl) pe_bl)) pss_nil)
      (pss_one (ps_expr (pe_bm PySem.F.plainAttrs_list PySem.F.slot_list_append PySem.F.type_list_append mt_append (pv 1) (pa_cons (pv 5) pa_nil)))))))))
      (pss_cons (ps_set (i := 6) sc_law.nd rfl (.inl rfl) (pe_callTy call_tuple_of (by rfl) T.m_tuple (by decide +kernel) (pa_cons (pv 1) pa_nil)))
      (pss_cons (ps_set (i := 7) sc_law.nd rfl (.inl rfl) (pe_op op_mod (pe_call (ok_law_cell_at T) (hr.mono (by decide)) (by rfl) T.g_law_cell_at T.F_law_cell_at.kp T.b_law_cell_at .nil pass0 (pa_cons (pv 0) (pa_cons pe_int pa_nil))) pe_int))
      (pss_cons (ps_if (pt_cmpR op_lt (pv 7) pe_int (nomark _)) (pss_cons (ps_set (i := 6) sc_law.nd rfl (.inl rfl) (pe_ix ix_list (pe_lst (pa_cons (pv 1) (pa_cons (pe_slice sl_tup (pv 6) po_none (po_some pe_int)) (pa_cons (pe_op op_catT (pv 6) (pe_tup (pa_cons pe_int pa_nil))) (pa_cons pe_str (pa_cons pe_non (pa_cons pe_int (pa_cons pe_dnewK (pa_cons (pe_tup pa_nil) pa_nil))))))))) (pv 7) (fun _ _ => rfl)))
      (pss_one (ps_set (i := 2) sc_law.nd rfl (.inl rfl) pe_bl))) pss_nil)
      (pss_cons (ps_set (i := 8) sc_law.nd rfl (.inl rfl) (pe_call (ok_is_move T) (hr.mono (by decide)) (by rfl) T.g_is_move T.F_is_move.kp T.b_is_move .nil pass0 (pa_cons (pv 6) pa_nil)))
      (pss_one (ps_ret (pe_and (pe_callB call_isi (by rfl) T.m_isinstance (by decide +kernel) (pa_cons (pv 8) (pa_cons (pe_bltn (v := .ty "bool") (by rfl) T.m_bool (by decide +kernel) rfl) pa_nil))) (pe_one (pe_cmpR op_eq (pv 8) (pv 2) (nomark _)))))))))))), ?_⟩
    have hp := p60
    refine ⟨Nat.zero_le _, fun l0 nl0 => ?_⟩
    have s0 := same_upd (o := HO.lst []) nl0
    refine ⟨4, rfl, by decide, by decide, for_range (n := 4) (fun i σ H2 => ∃ vs v3 v4 v5 v6 v7 v8, σ = [some (.ref a), some (.ref l0), some (.bl (gd 0 vs)), v3, v4, v5, v6, v7, v8] ∧ vs.length = i ∧ H2 l0 = some (.lst vs) ∧ (∀ v ∈ vs, Kd H2 v) ∧ Same H H2)
      ⟨[], none, none, none, none, none, none, rfl, rfl, upd_same, fun _ h => (nomatch h), s0⟩ ?_ ?_⟩
    · rintro i σ H2 hi ⟨vs, v3, v4, v5, v6, v7, v8, rfl, hvs, hl0, hkd, s2⟩
      have hS2 := s2.seq hS
      walk_at "rd"
      intro v H3 s3 kv
      have hS3 := s3.seq hS2
      have hl3 := s3 _ _ hl0
      have kd3 : ∀ v ∈ vs, Kd H3 v := fun v hv => (hkd v hv).same s3
      have fin : ∀ (v : V) (b : Bool) (σ' : L2.St), Kd H3 v → (∃ v3 v4 v5 v6 v7 v8, σ' = [some (.ref a), some (.ref l0), some (.bl b), v3, v4, v5, v6, v7, v8]) → b = (gd 0 vs && numB (leastOf i) v) →
          ∃ ws v3 v4 v5 v6 v7 v8, σ' = [some (.ref a), some (.ref l0), some (.bl (gd 0 ws)), v3, v4, v5, v6, v7, v8] ∧ ws.length = i + 1 ∧ (upd H3 l0 (.lst (vs ++ [v]))) l0 = some (.lst ws) ∧ (∀ x ∈ ws, Kd (upd H3 l0 (.lst (vs ++ [v]))) x) ∧ Same H (upd H3 l0 (.lst (vs ++ [v]))) := by
        rintro v b σ' kv ⟨u3, u4, u5, u6, u7, u8, e⟩ eb
        refine ⟨vs ++ [v], u3, u4, u5, u6, u7, u8, ?_, ?_, upd_same, fun x hx => ?_, same_set (s2.trans s3) nl0⟩
        · rw [gd_snoc, Nat.zero_add, hvs, ← eb]
          exact e
        · rw [List.length_append, hvs]
          rfl
        · rcases List.mem_append.mp hx with h | h
          · exact (kd3 x h).set hl3
          · rw [List.mem_singleton.mp h]
            exact kv.set hl3
      have fin0 : ∀ v, numB (leastOf i) v = false → false = (gd 0 vs && numB (leastOf i) v) := fun v e => by
        rw [e, Bool.and_false]
      have fin1 : ∀ v, numB (leastOf i) v = true → gd 0 vs = (gd 0 vs && numB (leastOf i) v) := fun v e => by
        rw [e, Bool.and_true]
      walk_at "rd"
      refine ite2 (fun _ => ?_) (fun _ => ?_)
      · walk_at "rd"
        refine ite2 (fun e1 => ?_) (fun e1 => ?_)
        · walk_at "rd"
          refine ⟨.inl ⟨rfl, _, SqL.of hl3⟩, _, rfl, l0, _, _, rfl, rfl, hl3, small1000 (by omega), ?_⟩
          refine fin _ _ _ (.int _) ⟨_, _, _, _, _, _, rfl⟩ (fin0 _ (numB_lo ?_))
          have := of_decide_eq_true e1
          unfold leastOf
          omega
        walk_at "rd"
        refine ite2 (fun e2 => ?_) (fun e2 => ?_)
        · walk_at "rd"
          refine ⟨.inl ⟨rfl, _, SqL.of hl3⟩, _, rfl, l0, _, _, rfl, rfl, hl3, small1000 (by omega), ?_⟩
          refine fin _ _ _ (.int _) ⟨_, _, _, _, _, _, rfl⟩ (fin0 _ (numB_hi ?_))
          have := of_decide_eq_true e2
          rw [hp] at this
          exact this
        walk_at "rd"
        refine ⟨.inl ⟨rfl, _, SqL.of hl3⟩, _, rfl, l0, _, _, rfl, rfl, hl3, small1000 (by omega), ?_⟩
        refine fin _ _ _ (.int _) ⟨_, _, _, _, _, _, rfl⟩ (fin1 _ (numB_in (fun z => e1 (decide_eq_true ?_)) (fun z => e2 (decide_eq_true ?_))))
        · unfold leastOf at z
          omega
        · rw [hp]
          exact z
      · walk_at "rd"
        obtain ⟨t, ty, hb, hi'⟩ := kv.ty (K := K)
        refine ⟨_, _, _, _, _, rfl, .ty _, ty, kit_ty hi', ?_⟩
        refine ⟨_, rfl, ?_⟩
        have kv' := kv
        cases kv with
        | int x =>
          walk_at "rd"
          refine ite2 (fun e1 => ?_) (fun e1 => ?_)
          · walk_at "rd"
            refine ⟨.inl ⟨rfl, _, SqL.of hl3⟩, _, rfl, l0, _, _, rfl, rfl, hl3, small1000 (by omega), ?_⟩
            refine fin _ _ _ (.int _) ⟨_, _, _, _, _, _, rfl⟩ (fin0 _ (numB_lo ?_))
            have := of_decide_eq_true e1
            unfold leastOf
            omega
          walk_at "rd"
          refine ite2 (fun e2 => ?_) (fun e2 => ?_)
          · walk_at "rd"
            refine ⟨.inl ⟨rfl, _, SqL.of hl3⟩, _, rfl, l0, _, _, rfl, rfl, hl3, small1000 (by omega), ?_⟩
            refine fin _ _ _ (.int _) ⟨_, _, _, _, _, _, rfl⟩ (fin0 _ (numB_hi ?_))
            have := of_decide_eq_true e2
            rw [hp] at this
            exact this
          walk_at "rd"
          refine ⟨.inl ⟨rfl, _, SqL.of hl3⟩, _, rfl, l0, _, _, rfl, rfl, hl3, small1000 (by omega), ?_⟩
          refine fin _ _ _ (.int _) ⟨_, _, _, _, _, _, rfl⟩ (fin1 _ (numB_in (fun z => e1 (decide_eq_true ?_)) (fun z => e2 (decide_eq_true ?_))))
          · unfold leastOf at z
            omega
          · rw [hp]
            exact z
        | bl x =>
          walk_at "rd"
          refine ⟨.inl ⟨rfl, _, SqL.of hl3⟩, _, rfl, l0, _, _, rfl, rfl, hl3, small1000 (by omega), ?_⟩
          exact fin _ _ _ kv' ⟨_, _, _, _, _, _, rfl⟩ (fin0 _ rfl)
        | _ =>
          walk_at "rd"
          refine ⟨.inl ⟨rfl, _, SqL.of hl3⟩, _, rfl, l0, _, _, rfl, rfl, hl3, small1000 (by omega), ?_⟩
          exact fin _ _ _ kv' ⟨_, _, _, _, _, _, rfl⟩ (fin0 _ rfl)
    · rintro σ H2 ⟨vs, v3, v4, v5, v6, v7, v8, rfl, hvs, hl0, hkd, s2⟩
      have hS2 := s2.seq hS
      obtain ⟨w0, w1, w2, w3, rfl⟩ : ∃ w0 w1 w2 w3, vs = [w0, w1, w2, w3] := by
        match vs, hvs with
        | [w0, w1, w2, w3], _ => exact ⟨w0, w1, w2, w3, rfl⟩
      refine ⟨_, rfl, l0, _, rfl, .inl ⟨SqL.of hl0, fun pt nt => ?_⟩⟩
      have st := same_upd (o := HO.tup [w0, w1, w2, w3]) nt
      have hS3 := st.seq hS2
      have ht : (upd H2 pt (HO.tup [w0, w1, w2, w3])) pt = some (.tup [w0, w1, w2, w3]) := upd_same
      have hT := SqT.of (K := K) ht
      walk_at "rd"
      refine ite2 (fun e1 => ?_) (fun e1 => ?_)
      · have hw : cellOf ns (Int.toNat 0) % 24 < 8 := of_decide_eq_true e1
        walk_at "rd"
        refine ⟨pt, _, rfl, hT, (show ¬ ((0 : Nat) = 0 ∧ (3 : Nat) = 4) by decide), fun p1 n1 => ?_⟩
        have s3 := same_upd (o := HO.tup (cutV [w0, w1, w2, w3] none (some 3))) n1
        walk_at "rd"
        intro p2 n2
        have s4 := same_upd (o := HO.tup [V.int 1]) n2
        refine ⟨pt, p2, _, _, rfl, rfl, same_seqT (s3.trans s4) hT, SqT.of upd_same, (fun z => nomatch z), Nat.le_of_ble_eq_true rfl, (fun z => nomatch z), fun _ p3 n3 => ?_⟩
        have s5 := same_upd (o := HO.tup ([w0, w1, w2, w3] ++ [V.int 1])) n3
        walk_at "rd"
        intro p4 n4
        have s6 := same_upd (o := HO.dK []) n4
        walk_at "rd"
        intro p5 n5
        have s7 := same_upd (o := HO.tup []) n5
        walk_at "rd"
        intro p6 n6
        have s8 := same_upd (o := HO.lst [V.ref l0, V.ref p1, V.ref p3, V.str "1 0 1 0", V.non, V.int 7, V.ref p4, V.ref p5]) n6
        walk_at "rd"
        have hk : cellOf ns (Int.toNat 0) % 24 = 0 ∨ cellOf ns (Int.toNat 0) % 24 = 1 ∨ cellOf ns (Int.toNat 0) % 24 = 2 ∨ cellOf ns (Int.toNat 0) % 24 = 3 ∨ cellOf ns (Int.toNat 0) % 24 = 4 ∨ cellOf ns (Int.toNat 0) % 24 = 5 ∨ cellOf ns (Int.toNat 0) % 24 = 6 ∨ cellOf ns (Int.toNat 0) % 24 = 7 := by omega
        rcases hk with hk | hk | hk | hk | hk | hk | hk | hk
        · refine ⟨_, _, _, _, rfl, rfl, SqL.of upd_same, (by rw [hk]; exact atI_nat (j := 0) rfl), ?_⟩
          walk_at "rd"
          refine .inr ⟨.inr (.inr (.inr (.inr (.inr (.inl ⟨l0, _, rfl, s8 _ _ (s7 _ _ (s6 _ _ (s5 _ _ (s4 _ _ (s3 _ _ (st _ _ hl0))))))⟩))))), ?_⟩
          walk_at "rd"
          exact k _
        · refine ⟨_, _, _, _, rfl, rfl, SqL.of upd_same, (by rw [hk]; exact atI_nat (j := 1) rfl), ?_⟩
          walk_at "rd"
          refine .inr ⟨.inl ⟨p1, _, rfl, s8 _ _ (s7 _ _ (s6 _ _ (s5 _ _ (s4 _ _ upd_same)))), (show ¬ (3 : Nat) = 4 by decide)⟩, ?_⟩
          walk_at "rd"
          exact k _
        · refine ⟨_, _, _, _, rfl, rfl, SqL.of upd_same, (by rw [hk]; exact atI_nat (j := 2) rfl), ?_⟩
          walk_at "rd"
          refine .inr ⟨.inl ⟨p3, _, rfl, s8 _ _ (s7 _ _ (s6 _ _ upd_same)), (show ¬ (5 : Nat) = 4 by decide)⟩, ?_⟩
          walk_at "rd"
          exact k _
        · refine ⟨_, _, _, _, rfl, rfl, SqL.of upd_same, (by rw [hk]; exact atI_nat (j := 3) rfl), ?_⟩
          walk_at "rd"
          refine .inr ⟨.inr (.inr (.inr (.inl ⟨_, rfl⟩))), ?_⟩
          walk_at "rd"
          exact k _
        · refine ⟨_, _, _, _, rfl, rfl, SqL.of upd_same, (by rw [hk]; exact atI_nat (j := 4) rfl), ?_⟩
          walk_at "rd"
          refine .inr ⟨.inr (.inr (.inr (.inr (.inl rfl)))), ?_⟩
          walk_at "rd"
          exact k _
        · refine ⟨_, _, _, _, rfl, rfl, SqL.of upd_same, (by rw [hk]; exact atI_nat (j := 5) rfl), ?_⟩
          walk_at "rd"
          refine .inr ⟨.inr (.inl ⟨_, rfl⟩), ?_⟩
          walk_at "rd"
          exact k _
        · refine ⟨_, _, _, _, rfl, rfl, SqL.of upd_same, (by rw [hk]; exact atI_nat (j := 6) rfl), ?_⟩
          walk_at "rd"
          refine .inr ⟨.inr (.inr (.inr (.inr (.inr (.inr ⟨p4, _, rfl, s8 _ _ (s7 _ _ upd_same)⟩))))), ?_⟩
          walk_at "rd"
          exact k _
        · refine ⟨_, _, _, _, rfl, rfl, SqL.of upd_same, (by rw [hk]; exact atI_nat (j := 7) rfl), ?_⟩
          walk_at "rd"
          refine .inr ⟨.inl ⟨p5, _, rfl, s8 _ _ upd_same, (show ¬ (0 : Nat) = 4 by decide)⟩, ?_⟩
          walk_at "rd"
          exact k _
      · walk_at "rd"
        have kk : ∀ v ∈ [w0, w1, w2, w3], Kd (upd H2 pt (HO.tup [w0, w1, w2, w3])) v := fun v hv => (hkd v hv).same st
        refine .inl ⟨pt, w0, w1, w2, w3, rfl, ht, kk _ (by simp), kk _ (by simp), kk _ (by simp), kk _ (by simp), ?_⟩
        walk_at "rd"
        have e : moveB w0 w1 w2 w3 = gd 0 [w0, w1, w2, w3] := by
          show ((numB 1 w0 && numB 0 w1) && (numB 1 w2 && numB 0 w3)) = (numB 1 w0 && (numB 0 w1 && (numB 1 w2 && (numB 0 w3 && true))))
          rw [Bool.and_true, Bool.and_assoc]
        rw [e, decide_eq_true rfl]
        exact k _

end
theorem all_mk {l : PySem.W.OpenLaw} {w : World} {K : PySem.W.Frag} {h : Heap} {mg : Str → Option Value} {fa : Addr} (X : K.In h) (G : h.Ns mainGlobals mg) (hfa : mg "law" = some (.ref fa))
    {f0 : Addr} {od0 an0 : Option Addr} {sl0 : Array (Option Value)} {oc0 kV0 dc0 pm0 cd0 ct0 : Value} {f1 : Addr} {od1 an1 : Option Addr} {sl1 : Array (Option Value)} {oc1 kV1 dc1 pm1 cd1 ct1 : Value} {f2 : Addr} {od2 an2 : Option Addr} {sl2 : Array (Option Value)} {oc2 kV2 dc2 pm2 cd2 ct2 : Value} {f3 : Addr} {od3 an3 : Option Addr} {sl3 : Array (Option Value)} {oc3 kV3 dc3 pm3 cd3 ct3 : Value} {f4 : Addr} {od4 an4 : Option Addr} {sl4 : Array (Option Value)} {oc4 kV4 dc4 pm4 cd4 ct4 : Value}
    (a0 : PySem.W.nsIn K mainGlobals "is_number" = some (some (.ref f0))) (l0 : K.lookup f0 = some ⟨oc0, od0, .func (PySem.W.fnOf "is_number" "is_number" (defArgs s_is_number) (defBody s_is_number) (defScope s_is_number) .none kV0 dc0 pm0 an0 cd0 ct0), sl0⟩) (c0 : PySem.W.codeIn K cd0 "is_number" = true) (k0 : PySem.W.keepIn K (.ref f0) = true)
    (a1 : PySem.W.nsIn K mainGlobals "is_move" = some (some (.ref f1))) (l1 : K.lookup f1 = some ⟨oc1, od1, .func (PySem.W.fnOf "is_move" "is_move" (defArgs s_is_move) (defBody s_is_move) (defScope s_is_move) .none kV1 dc1 pm1 an1 cd1 ct1), sl1⟩) (c1 : PySem.W.codeIn K cd1 "is_move" = true) (k1 : PySem.W.keepIn K (.ref f1) = true)
    (a2 : PySem.W.nsIn K mainGlobals "_law_cell_at" = some (some (.ref f2))) (l2 : K.lookup f2 = some ⟨oc2, od2, .func (PySem.W.fnOf "_law_cell_at" "_law_cell_at" (defArgs s_law_cell_at) (defBody s_law_cell_at) (defScope s_law_cell_at) .none kV2 dc2 pm2 an2 cd2 ct2), sl2⟩) (c2 : PySem.W.codeIn K cd2 "_law_cell_at" = true) (k2 : PySem.W.keepIn K (.ref f2) = true)
    (a3 : PySem.W.nsIn K mainGlobals "_law_part" = some (some (.ref f3))) (l3 : K.lookup f3 = some ⟨oc3, od3, .func (PySem.W.fnOf "_law_part" "_law_part" (defArgs s_law_part) (defBody s_law_part) (defScope s_law_part) .none kV3 dc3 pm3 an3 cd3 ct3), sl3⟩) (c3 : PySem.W.codeIn K cd3 "_law_part" = true) (k3 : PySem.W.keepIn K (.ref f3) = true)
    (a4 : PySem.W.nsIn K mainGlobals "law" = some (some (.ref f4))) (l4 : K.lookup f4 = some ⟨oc4, od4, .func (PySem.W.fnOf "law" "law" (defArgs s_law) (defBody s_law) (defScope s_law) .none kV4 dc4 pm4 an4 cd4 ct4), sl4⟩) (c4 : PySem.W.codeIn K cd4 "law" = true) (k4 : PySem.W.keepIn K (.ref f4) = true)
    (z0 : PySem.W.nsIn K mainGlobals "bool" = some none)
    (z1 : PySem.W.nsIn K mainGlobals "int" = some none)
    (z2 : PySem.W.nsIn K mainGlobals "isinstance" = some none)
    (z3 : PySem.W.nsIn K mainGlobals "len" = some none)
    (z4 : PySem.W.nsIn K mainGlobals "range" = some none)
    (z5 : PySem.W.nsIn K mainGlobals "tuple" = some none)
    {t0 : Tok} (v0 : PySem.W.nsIn K mainGlobals "GREATEST" = some (some (.int 1000000000000000000000000000000000000000000000000000000000000 t0)))
    : ∃ fd : FuncData, (∀ (s : Shared) (v : Value), BindsTo s fd ⟨[v], []⟩ [("_law_script", v)]) ∧ ∀ base : Heap, K.In base → base.Ns mainGlobals mg → FnOk l.prog w K mg base CX0 3 fa fd ["_law_script"] (sp_law K) := by
  have e := hfa.symm.trans (PySem.W.mg_of X G a4)
  cases e
  have F0 := fun_mk (st := s_is_number) l0 c0 k0
  have b0 := F0.binds (ps := ["thing", "least"]) fun _ _ _ _ _ _ us hl => match us, hl with | [_, _], _ => rfl
  have F1 := fun_mk (st := s_is_move) l1 c1 k1
  have b1 := F1.binds (ps := ["thing"]) fun _ _ _ _ _ _ us hl => match us, hl with | [_], _ => rfl
  have F2 := fun_mk (st := s_law_cell_at) l2 c2 k2
  have b2 := F2.binds (ps := ["_law_script", "_law_k"]) fun _ _ _ _ _ _ us hl => match us, hl with | [_, _], _ => rfl
  have F3 := fun_mk (st := s_law_part) l3 c3 k3
  have b3 := F3.binds (ps := ["_law_cell", "_law_least"]) fun _ _ _ _ _ _ us hl => match us, hl with | [_, _], _ => rfl
  have F4 := fun_mk (st := s_law) l4 c4 k4
  have b4 := F4.binds (ps := ["_law_script"]) fun _ _ _ _ _ _ us hl => match us, hl with | [_], _ => rfl
  refine ⟨PySem.W.fnOf "law" "law" (defArgs s_law) (defBody s_law) (defScope s_law) .none kV4 dc4 pm4 an4 cd4 ct4, fun s v => .of_eq rfl, fun base _ _ => ?_⟩
  exact ok_law ⟨f0, _, F0, b0, PySem.W.mg_of X G a0, f1, _, F1, b1, PySem.W.mg_of X G a1, f2, _, F2, b2, PySem.W.mg_of X G a2, f3, _, F3, b3, PySem.W.mg_of X G a3, fa, _, F4, b4, PySem.W.mg_of X G a4, PySem.W.mg_none_of X G z0, PySem.W.mg_none_of X G z1, PySem.W.mg_none_of X G z2, PySem.W.mg_none_of X G z3, PySem.W.mg_none_of X G z4, PySem.W.mg_none_of X G z5, t0, PySem.W.mg_of X G v0⟩
end Tm
open PySem PySem.W PyProof.Rows
set_option maxHeartbeats 0 in
theorem PySem.Challenge.cw_treemove_k05_is_a_move_holds : PySem.Challenge.rw_treemove_k05_is_a_move.Holds := by
  w_on; o_law; k_head; (case hw => w_witness2)
  k_fill
  refine L2.walk_of (l := PySem.Challenge.rw_treemove_k05_is_a_move) (n := 63) (k := 3) (x := "_law_script") (CX := fun _ => L2.CX0) (sp := fun w => Tm.sp_law _) rfl (by decide) rfl ⟨rfl, by decide, by decide⟩ (fun w h Y => PySem.W.kIn_of Y) ?F (fun _ _ a ns hl _ hS => ⟨a, ns, rfl, hS, hl, fun _ => rfl⟩) (fun _ _ _ _ _ h => h)
  case F =>
    intro w mg fa h KX G hmg
    refine' Tm.all_mk KX G hmg ?a0 ?l0 ?c0 ?k0 ?a1 ?l1 ?c1 ?k1 ?a2 ?l2 ?c2 ?k2 ?a3 ?l3 ?c3 ?k3 ?a4 ?l4 ?c4 ?k4 ?z0 ?z1 ?z2 ?z3 ?z4 ?z5 ?v0
    (case a0 => k_is); (case l0 => k_is); (case c0 => k_is); (case k0 => k_is); (case a1 => k_is); (case l1 => k_is)
    (case c1 => k_is); (case k1 => k_is); (case a2 => k_is); (case l2 => k_is); (case c2 => k_is); (case k2 => k_is)
    (case a3 => k_is); (case l3 => k_is); (case c3 => k_is); (case k3 => k_is); (case a4 => k_is); (case l4 => k_is)
    (case c4 => k_is); (case k4 => k_is); (case z0 => k_is); (case z1 => k_is); (case z2 => k_is); (case z3 => k_is)
    (case z4 => k_is); (case z5 => k_is); (case v0 => k_is)
