import PyProof.Rows.All
import Wide.All
import OpenK.AllK
import Wide.FinOn
import HandS.ForMost
import HandS.IsInst
import HandS.More
import HandS.SetKeys
import HandS.SortKw
import HandS.DictComp
import HandS.Conv
import HandS.Deep
import HandS.TupLen
import HandS.Style
import HandS.Codes
import HandS.DeepEq
import HandS.Rev
import HandS.ForExc
import HandS.ExcIs
import HandS.TryMany
import HandS.TupAny
import PySem.Challenge.RW_treemove_k11_hand_and_clock
set_option Elab.async false
set_option linter.all false
set_option maxRecDepth 100000
set_option pp.maxSteps 900
namespace Tm
open PySem PySem.Spec PyProof.Rows L2
def topS (i : Nat) : Stmt := PySem.Challenge.pw_treemove_k11_hand_and_clock.main.body.getD i (.Pass ⟨0, 0, 0, 0⟩)
abbrev s_is_number : Stmt := topS 8
theorem sc_is_number : FnScope ["thing", "least"] ["thing", "least"] (defScope s_is_number) := ⟨rfl, rfl, rfl, by decide +kernel, rfl, by decide +kernel, by decide +kernel⟩
abbrev s_is_move : Stmt := topS 9
theorem sc_is_move : FnScope ["thing", "time", "hand", "folder", "under"] ["thing"] (defScope s_is_move) := ⟨rfl, rfl, rfl, by decide +kernel, rfl, by decide +kernel, by decide +kernel⟩
abbrev s_way_up : Stmt := topS 11
theorem sc_way_up : FnScope ["tree", "folder", "way"] ["tree", "folder"] (defScope s_way_up) := ⟨rfl, rfl, rfl, by decide +kernel, rfl, by decide +kernel, by decide +kernel⟩
abbrev s_Log_init : Stmt := inClass (topS 13) 0
theorem sc_Log_init : FnScope ["self"] ["self"] (defScope s_Log_init) := ⟨rfl, rfl, rfl, by decide +kernel, rfl, by decide +kernel, by decide +kernel⟩
abbrev s_Log_hear : Stmt := inClass (topS 13) 1
theorem sc_Log_hear : FnScope ["self", "move", "told"] ["self", "move"] (defScope s_Log_hear) := ⟨rfl, rfl, rfl, by decide +kernel, rfl, by decide +kernel, by decide +kernel⟩
abbrev s_Log_moves : Stmt := inClass (topS 13) 2
theorem sc_Log_moves : FnScope ["self", "told"] ["self"] (defScope s_Log_moves) := ⟨rfl, rfl, rfl, by decide +kernel, rfl, by decide +kernel, by decide +kernel⟩
abbrev s_Log_tree : Stmt := inClass (topS 13) 3
theorem sc_Log_tree : FnScope ["self", "tree", "_"] ["self"] (defScope s_Log_tree) := ⟨rfl, rfl, rfl, by decide +kernel, rfl, by decide +kernel, by decide +kernel⟩
abbrev s_Log_steps : Stmt := inClass (topS 13) 4
theorem sc_Log_steps : FnScope ["self", "_", "steps"] ["self"] (defScope s_Log_steps) := ⟨rfl, rfl, rfl, by decide +kernel, rfl, by decide +kernel, by decide +kernel⟩
abbrev s_Log_settle : Stmt := inClass (topS 13) 5
theorem sc_Log_settle : FnScope ["self", "time", "gone", "_", "move", "told"] ["self", "time"] (defScope s_Log_settle) := ⟨rfl, rfl, rfl, by decide +kernel, rfl, by decide +kernel, by decide +kernel⟩
abbrev s_gone_through : Stmt := topS 14
theorem sc_gone_through : FnScope ["ahead_of_all", "moves", "tree", "steps", "move", "folder", "under", "way"] ["ahead_of_all", "moves"] (defScope s_gone_through) := ⟨rfl, rfl, rfl, by decide +kernel, rfl, by decide +kernel, by decide +kernel⟩
abbrev s_Hand_init : Stmt := inClass (topS 16) 0
theorem sc_Hand_init : FnScope ["self", "number"] ["self", "number"] (defScope s_Hand_init) := ⟨rfl, rfl, rfl, by decide +kernel, rfl, by decide +kernel, by decide +kernel⟩
abbrev s_Hand_move : Stmt := inClass (topS 16) 1
theorem sc_Hand_move : FnScope ["self", "folder", "under", "made"] ["self", "folder", "under"] (defScope s_Hand_move) := ⟨rfl, rfl, rfl, by decide +kernel, rfl, by decide +kernel, by decide +kernel⟩
abbrev s_Hand_hear : Stmt := inClass (topS 16) 2
theorem sc_Hand_hear : FnScope ["self", "move", "is_new"] ["self", "move"] (defScope s_Hand_hear) := ⟨rfl, rfl, rfl, by decide +kernel, rfl, by decide +kernel, by decide +kernel⟩
abbrev s_Hand_tree : Stmt := inClass (topS 16) 3
theorem sc_Hand_tree : FnScope ["self"] ["self"] (defScope s_Hand_tree) := ⟨rfl, rfl, rfl, by decide +kernel, rfl, by decide +kernel, by decide +kernel⟩
abbrev s_Hand_settle : Stmt := inClass (topS 16) 4
theorem sc_Hand_settle : FnScope ["self", "time", "many"] ["self", "time"] (defScope s_Hand_settle) := ⟨rfl, rfl, rfl, by decide +kernel, rfl, by decide +kernel, by decide +kernel⟩
abbrev s_law_whole : Stmt := topS 18
theorem sc_law_whole : FnScope ["_law_found"] ["_law_found"] (defScope s_law_whole) := ⟨rfl, rfl, rfl, by decide +kernel, rfl, by decide +kernel, by decide +kernel⟩
abbrev s_law_cell_at : Stmt := topS 19
theorem sc_law_cell_at : FnScope ["_law_script", "_law_k"] ["_law_script", "_law_k"] (defScope s_law_cell_at) := ⟨rfl, rfl, rfl, by decide +kernel, rfl, by decide +kernel, by decide +kernel⟩
abbrev s_law_name : Stmt := topS 20
theorem sc_law_name : FnScope ["_law_k", "_law_cell", "_law_some"] ["_law_k", "_law_cell"] (defScope s_law_name) := ⟨rfl, rfl, rfl, by decide +kernel, rfl, by decide +kernel, by decide +kernel⟩
abbrev s_law_same_tree : Stmt := topS 21
theorem sc_law_same_tree : FnScope ["_law_found", "_law_due", "_law_folder"] ["_law_found", "_law_due"] (defScope s_law_same_tree) := ⟨rfl, rfl, rfl, by decide +kernel, rfl, by decide +kernel, by decide +kernel⟩
abbrev s_law_same_move : Stmt := topS 22
theorem sc_law_same_move : FnScope ["_law_found", "_law_due", "_law_k"] ["_law_found", "_law_due"] (defScope s_law_same_move) := ⟨rfl, rfl, rfl, by decide +kernel, rfl, by decide +kernel, by decide +kernel⟩
abbrev s_law_same_moves : Stmt := topS 23
theorem sc_law_same_moves : FnScope ["_law_found", "_law_due", "_law_k"] ["_law_found", "_law_due"] (defScope s_law_same_moves) := ⟨rfl, rfl, rfl, by decide +kernel, rfl, by decide +kernel, by decide +kernel⟩
abbrev s_law_told : Stmt := topS 24
theorem sc_law_told : FnScope ["_law_moves", "_law_move", "_law_at"] ["_law_moves", "_law_move"] (defScope s_law_told) := ⟨rfl, rfl, rfl, by decide +kernel, rfl, by decide +kernel, by decide +kernel⟩
abbrev s_law_deeds : Stmt := topS 25
theorem sc_law_deeds : FnScope ["_law_script", "_law_few", "_law_many", "_law_count", "_law_k"] ["_law_script", "_law_few", "_law_many"] (defScope s_law_deeds) := ⟨rfl, rfl, rfl, by decide +kernel, rfl, by decide +kernel, by decide +kernel⟩
abbrev s_law_clash : Stmt := topS 26
theorem sc_law_clash : FnScope ["_law_moves", "_law_move", "_law_one"] ["_law_moves", "_law_move"] (defScope s_law_clash) := ⟨rfl, rfl, rfl, by decide +kernel, rfl, by decide +kernel, by decide +kernel⟩
abbrev s_law_heard : Stmt := topS 27
theorem sc_law_heard : FnScope ["_law_log", "_law_move"] ["_law_log", "_law_move"] (defScope s_law_heard) := ⟨rfl, rfl, rfl, by decide +kernel, rfl, by decide +kernel, by decide +kernel⟩
abbrev s_law_answer : Stmt := topS 28
theorem sc_law_answer : FnScope ["_law_found", "_law_due"] ["_law_found", "_law_due"] (defScope s_law_answer) := ⟨rfl, rfl, rfl, by decide +kernel, rfl, by decide +kernel, by decide +kernel⟩
abbrev s_law_way : Stmt := topS 29
theorem sc_law_way : FnScope ["_law_tree", "_law_folder", "_law_way_here"] ["_law_tree", "_law_folder"] (defScope s_law_way) := ⟨rfl, rfl, rfl, by decide +kernel, rfl, by decide +kernel, by decide +kernel⟩
abbrev s_law_fold : Stmt := topS 30
theorem sc_law_fold : FnScope ["_law_tree", "_law_moves", "_law_found", "_law_move"] ["_law_tree", "_law_moves"] (defScope s_law_fold) := ⟨rfl, rfl, rfl, by decide +kernel, rfl, by decide +kernel, by decide +kernel⟩
abbrev s_law_steps_of : Stmt := topS 31
theorem sc_law_steps_of : FnScope ["_law_base", "_law_moves", "_law_tree", "_law_steps", "_law_move", "_law_way_here"] ["_law_base", "_law_moves"] (defScope s_law_steps_of) := ⟨rfl, rfl, rfl, by decide +kernel, rfl, by decide +kernel, by decide +kernel⟩
abbrev s_law_same_steps : Stmt := topS 32
theorem sc_law_same_steps : FnScope ["_law_found", "_law_due", "_law_k", "_law_one"] ["_law_found", "_law_due"] (defScope s_law_same_steps) := ⟨rfl, rfl, rfl, by decide +kernel, rfl, by decide +kernel, by decide +kernel⟩
abbrev s_law_steps_asked : Stmt := topS 33
theorem sc_law_steps_asked : FnScope ["_law_log", "_law_base", "_law_moves", "_law_held", "_law_found", "_law_row"] ["_law_log", "_law_base", "_law_moves", "_law_held"] (defScope s_law_steps_asked) := ⟨rfl, rfl, rfl, by decide +kernel, rfl, by decide +kernel, by decide +kernel⟩
abbrev s_law_no_hand : Stmt := topS 34
theorem sc_law_no_hand : FnScope ["_law_cell", "e"] ["_law_cell"] (defScope s_law_no_hand) := ⟨rfl, rfl, rfl, by decide +kernel, rfl, by decide +kernel, by decide +kernel⟩
abbrev s_law_own : Stmt := topS 35
theorem sc_law_own : FnScope ["_law_hand", "_law_state", "_law_pick", "_law_cell", "_law_folder", "_law_under", "_law_due", "_law_found"] ["_law_hand", "_law_state", "_law_pick", "_law_cell"] (defScope s_law_own) := ⟨rfl, rfl, rfl, by decide +kernel, rfl, by decide +kernel, by decide +kernel⟩
abbrev s_law_other : Stmt := topS 36
theorem sc_law_other : FnScope ["_law_hand", "_law_state", "_law_pick", "_law_cell", "_law_kept", "_law_time", "_law_move", "_law_due", "_law_some"] ["_law_hand", "_law_state", "_law_pick", "_law_cell"] (defScope s_law_other) := ⟨rfl, rfl, rfl, by decide +kernel, rfl, by decide +kernel, by decide +kernel⟩
abbrev s_law_settled : Stmt := topS 37
theorem sc_law_settled : FnScope ["_law_hand", "_law_state", "_law_pick", "_law_great", "_law_time", "_law_gone", "_law_told_here", "_law_one"] ["_law_hand", "_law_state", "_law_pick", "_law_great"] (defScope s_law_settled) := ⟨rfl, rfl, rfl, by decide +kernel, rfl, by decide +kernel, by decide +kernel⟩
abbrev s_law_as_told : Stmt := topS 38
theorem sc_law_as_told : FnScope ["_law_hand", "_law_state", "_law_due", "_law_trees", "_law_found"] ["_law_hand", "_law_state"] (defScope s_law_as_told) := ⟨rfl, rfl, rfl, by decide +kernel, rfl, by decide +kernel, by decide +kernel⟩
abbrev s_law : Stmt := topS 39
theorem sc_law : FnScope ["_law_script", "_law_cell", "_law_number", "_law_state", "_law_hand", "_law_deed", "_law_good", "_law_pair"] ["_law_script"] (defScope s_law) := ⟨rfl, rfl, rfl, by decide +kernel, rfl, by decide +kernel, by decide +kernel⟩
theorem st_is_number (v0 v1 : V) : L2.start ["thing", "least"] [v0, v1] = [some v0, some v1] := rfl
theorem st_is_move (v0 : V) : L2.start ["thing", "time", "hand", "folder", "under"] [v0] = [some v0, none, none, none, none] := rfl
theorem st_way_up (v0 v1 : V) : L2.start ["tree", "folder", "way"] [v0, v1] = [some v0, some v1, none] := rfl
theorem st_Log_init (v0 : V) : L2.start ["self"] [v0] = [some v0] := rfl
theorem st_Log_hear (v0 v1 : V) : L2.start ["self", "move", "told"] [v0, v1] = [some v0, some v1, none] := rfl
theorem st_Log_moves (v0 : V) : L2.start ["self", "told"] [v0] = [some v0, none] := rfl
theorem st_Log_tree (v0 : V) : L2.start ["self", "tree", "_"] [v0] = [some v0, none, none] := rfl
theorem st_Log_steps (v0 : V) : L2.start ["self", "_", "steps"] [v0] = [some v0, none, none] := rfl
theorem st_Log_settle (v0 v1 : V) : L2.start ["self", "time", "gone", "_", "move", "told"] [v0, v1] = [some v0, some v1, none, none, none, none] := rfl
theorem st_gone_through (v0 v1 : V) : L2.start ["ahead_of_all", "moves", "tree", "steps", "move", "folder", "under", "way"] [v0, v1] = [some v0, some v1, none, none, none, none, none, none] := rfl
theorem st_Hand_init (v0 v1 : V) : L2.start ["self", "number"] [v0, v1] = [some v0, some v1] := rfl
theorem st_Hand_move (v0 v1 v2 : V) : L2.start ["self", "folder", "under", "made"] [v0, v1, v2] = [some v0, some v1, some v2, none] := rfl
theorem st_Hand_hear (v0 v1 : V) : L2.start ["self", "move", "is_new"] [v0, v1] = [some v0, some v1, none] := rfl
theorem st_Hand_tree (v0 : V) : L2.start ["self"] [v0] = [some v0] := rfl
theorem st_Hand_settle (v0 v1 : V) : L2.start ["self", "time", "many"] [v0, v1] = [some v0, some v1, none] := rfl
theorem st_law_whole (v0 : V) : L2.start ["_law_found"] [v0] = [some v0] := rfl
theorem st_law_cell_at (v0 v1 : V) : L2.start ["_law_script", "_law_k"] [v0, v1] = [some v0, some v1] := rfl
theorem st_law_name (v0 v1 : V) : L2.start ["_law_k", "_law_cell", "_law_some"] [v0, v1] = [some v0, some v1, none] := rfl
theorem st_law_same_tree (v0 v1 : V) : L2.start ["_law_found", "_law_due", "_law_folder"] [v0, v1] = [some v0, some v1, none] := rfl
theorem st_law_same_move (v0 v1 : V) : L2.start ["_law_found", "_law_due", "_law_k"] [v0, v1] = [some v0, some v1, none] := rfl
theorem st_law_same_moves (v0 v1 : V) : L2.start ["_law_found", "_law_due", "_law_k"] [v0, v1] = [some v0, some v1, none] := rfl
theorem st_law_told (v0 v1 : V) : L2.start ["_law_moves", "_law_move", "_law_at"] [v0, v1] = [some v0, some v1, none] := rfl
theorem st_law_deeds (v0 v1 v2 : V) : L2.start ["_law_script", "_law_few", "_law_many", "_law_count", "_law_k"] [v0, v1, v2] = [some v0, some v1, some v2, none, none] := rfl
theorem st_law_clash (v0 v1 : V) : L2.start ["_law_moves", "_law_move", "_law_one"] [v0, v1] = [some v0, some v1, none] := rfl
theorem st_law_heard (v0 v1 : V) : L2.start ["_law_log", "_law_move"] [v0, v1] = [some v0, some v1] := rfl
theorem st_law_answer (v0 v1 : V) : L2.start ["_law_found", "_law_due"] [v0, v1] = [some v0, some v1] := rfl
theorem st_law_way (v0 v1 : V) : L2.start ["_law_tree", "_law_folder", "_law_way_here"] [v0, v1] = [some v0, some v1, none] := rfl
theorem st_law_fold (v0 v1 : V) : L2.start ["_law_tree", "_law_moves", "_law_found", "_law_move"] [v0, v1] = [some v0, some v1, none, none] := rfl
theorem st_law_steps_of (v0 v1 : V) : L2.start ["_law_base", "_law_moves", "_law_tree", "_law_steps", "_law_move", "_law_way_here"] [v0, v1] = [some v0, some v1, none, none, none, none] := rfl
theorem st_law_same_steps (v0 v1 : V) : L2.start ["_law_found", "_law_due", "_law_k", "_law_one"] [v0, v1] = [some v0, some v1, none, none] := rfl
theorem st_law_steps_asked (v0 v1 v2 v3 : V) : L2.start ["_law_log", "_law_base", "_law_moves", "_law_held", "_law_found", "_law_row"] [v0, v1, v2, v3] = [some v0, some v1, some v2, some v3, none, none] := rfl
theorem st_law_no_hand (v0 : V) : L2.start ["_law_cell", "e"] [v0] = [some v0, none] := rfl
theorem st_law_own (v0 v1 v2 v3 : V) : L2.start ["_law_hand", "_law_state", "_law_pick", "_law_cell", "_law_folder", "_law_under", "_law_due", "_law_found"] [v0, v1, v2, v3] = [some v0, some v1, some v2, some v3, none, none, none, none] := rfl
theorem st_law_other (v0 v1 v2 v3 : V) : L2.start ["_law_hand", "_law_state", "_law_pick", "_law_cell", "_law_kept", "_law_time", "_law_move", "_law_due", "_law_some"] [v0, v1, v2, v3] = [some v0, some v1, some v2, some v3, none, none, none, none, none] := rfl
theorem st_law_settled (v0 v1 v2 v3 : V) : L2.start ["_law_hand", "_law_state", "_law_pick", "_law_great", "_law_time", "_law_gone", "_law_told_here", "_law_one"] [v0, v1, v2, v3] = [some v0, some v1, some v2, some v3, none, none, none, none] := rfl
theorem st_law_as_told (v0 v1 : V) : L2.start ["_law_hand", "_law_state", "_law_due", "_law_trees", "_law_found"] [v0, v1] = [some v0, some v1, none, none, none] := rfl
theorem st_law (v0 : V) : L2.start ["_law_script", "_law_cell", "_law_number", "_law_state", "_law_hand", "_law_deed", "_law_good", "_law_pair"] [v0] = [some v0, none, none, none, none, none, none, none] := rfl
set_option maxHeartbeats 0 in
/-- what the top leaves -/
structure Tx (K : PySem.W.Frag) (mg : Str → Option Value) where
  a_is_number : Addr
  d_is_number : FuncData
  F_is_number : Fun K "is_number" "is_number" s_is_number a_is_number d_is_number
  b_is_number : Binds K d_is_number ["thing", "least"] []
  g_is_number : mg "is_number" = some (.ref a_is_number)
  a_is_move : Addr
  d_is_move : FuncData
  F_is_move : Fun K "is_move" "is_move" s_is_move a_is_move d_is_move
  b_is_move : Binds K d_is_move ["thing"] []
  g_is_move : mg "is_move" = some (.ref a_is_move)
  a_way_up : Addr
  d_way_up : FuncData
  F_way_up : Fun K "way_up" "way_up" s_way_up a_way_up d_way_up
  b_way_up : Binds K d_way_up ["tree", "folder"] []
  g_way_up : mg "way_up" = some (.ref a_way_up)
  a_Log_init : Addr
  d_Log_init : FuncData
  F_Log_init : Fun K "__init__" "Log.__init__" s_Log_init a_Log_init d_Log_init
  b_Log_init : Binds K d_Log_init ["self"] []
  a_Log_hear : Addr
  d_Log_hear : FuncData
  F_Log_hear : Fun K "hear" "Log.hear" s_Log_hear a_Log_hear d_Log_hear
  b_Log_hear : Binds K d_Log_hear ["self", "move"] []
  a_Log_moves : Addr
  d_Log_moves : FuncData
  F_Log_moves : Fun K "moves" "Log.moves" s_Log_moves a_Log_moves d_Log_moves
  b_Log_moves : Binds K d_Log_moves ["self"] []
  a_Log_tree : Addr
  d_Log_tree : FuncData
  F_Log_tree : Fun K "tree" "Log.tree" s_Log_tree a_Log_tree d_Log_tree
  b_Log_tree : Binds K d_Log_tree ["self"] []
  a_Log_steps : Addr
  d_Log_steps : FuncData
  F_Log_steps : Fun K "steps" "Log.steps" s_Log_steps a_Log_steps d_Log_steps
  b_Log_steps : Binds K d_Log_steps ["self"] []
  a_Log_settle : Addr
  d_Log_settle : FuncData
  F_Log_settle : Fun K "settle" "Log.settle" s_Log_settle a_Log_settle d_Log_settle
  b_Log_settle : Binds K d_Log_settle ["self", "time"] []
  a_gone_through : Addr
  d_gone_through : FuncData
  F_gone_through : Fun K "_gone_through" "_gone_through" s_gone_through a_gone_through d_gone_through
  b_gone_through : Binds K d_gone_through ["ahead_of_all", "moves"] []
  g_gone_through : mg "_gone_through" = some (.ref a_gone_through)
  a_Hand_init : Addr
  d_Hand_init : FuncData
  F_Hand_init : Fun K "__init__" "Hand.__init__" s_Hand_init a_Hand_init d_Hand_init
  b_Hand_init : Binds K d_Hand_init ["self", "number"] []
  a_Hand_move : Addr
  d_Hand_move : FuncData
  F_Hand_move : Fun K "move" "Hand.move" s_Hand_move a_Hand_move d_Hand_move
  b_Hand_move : Binds K d_Hand_move ["self", "folder", "under"] []
  a_Hand_hear : Addr
  d_Hand_hear : FuncData
  F_Hand_hear : Fun K "hear" "Hand.hear" s_Hand_hear a_Hand_hear d_Hand_hear
  b_Hand_hear : Binds K d_Hand_hear ["self", "move"] []
  a_Hand_tree : Addr
  d_Hand_tree : FuncData
  F_Hand_tree : Fun K "tree" "Hand.tree" s_Hand_tree a_Hand_tree d_Hand_tree
  b_Hand_tree : Binds K d_Hand_tree ["self"] []
  a_Hand_settle : Addr
  d_Hand_settle : FuncData
  F_Hand_settle : Fun K "settle" "Hand.settle" s_Hand_settle a_Hand_settle d_Hand_settle
  b_Hand_settle : Binds K d_Hand_settle ["self", "time"] []
  a_law_whole : Addr
  d_law_whole : FuncData
  F_law_whole : Fun K "_law_whole" "_law_whole" s_law_whole a_law_whole d_law_whole
  b_law_whole : Binds K d_law_whole ["_law_found"] []
  g_law_whole : mg "_law_whole" = some (.ref a_law_whole)
  a_law_cell_at : Addr
  d_law_cell_at : FuncData
  F_law_cell_at : Fun K "_law_cell_at" "_law_cell_at" s_law_cell_at a_law_cell_at d_law_cell_at
  b_law_cell_at : Binds K d_law_cell_at ["_law_script", "_law_k"] []
  g_law_cell_at : mg "_law_cell_at" = some (.ref a_law_cell_at)
  a_law_name : Addr
  d_law_name : FuncData
  F_law_name : Fun K "_law_name" "_law_name" s_law_name a_law_name d_law_name
  b_law_name : Binds K d_law_name ["_law_k", "_law_cell"] []
  g_law_name : mg "_law_name" = some (.ref a_law_name)
  a_law_same_tree : Addr
  d_law_same_tree : FuncData
  F_law_same_tree : Fun K "_law_same_tree" "_law_same_tree" s_law_same_tree a_law_same_tree d_law_same_tree
  b_law_same_tree : Binds K d_law_same_tree ["_law_found", "_law_due"] []
  g_law_same_tree : mg "_law_same_tree" = some (.ref a_law_same_tree)
  a_law_same_move : Addr
  d_law_same_move : FuncData
  F_law_same_move : Fun K "_law_same_move" "_law_same_move" s_law_same_move a_law_same_move d_law_same_move
  b_law_same_move : Binds K d_law_same_move ["_law_found", "_law_due"] []
  g_law_same_move : mg "_law_same_move" = some (.ref a_law_same_move)
  a_law_same_moves : Addr
  d_law_same_moves : FuncData
  F_law_same_moves : Fun K "_law_same_moves" "_law_same_moves" s_law_same_moves a_law_same_moves d_law_same_moves
  b_law_same_moves : Binds K d_law_same_moves ["_law_found", "_law_due"] []
  g_law_same_moves : mg "_law_same_moves" = some (.ref a_law_same_moves)
  a_law_told : Addr
  d_law_told : FuncData
  F_law_told : Fun K "_law_told" "_law_told" s_law_told a_law_told d_law_told
  b_law_told : Binds K d_law_told ["_law_moves", "_law_move"] []
  g_law_told : mg "_law_told" = some (.ref a_law_told)
  a_law_deeds : Addr
  d_law_deeds : FuncData
  F_law_deeds : Fun K "_law_deeds" "_law_deeds" s_law_deeds a_law_deeds d_law_deeds
  b_law_deeds : Binds K d_law_deeds ["_law_script", "_law_few", "_law_many"] []
  g_law_deeds : mg "_law_deeds" = some (.ref a_law_deeds)
  a_law_clash : Addr
  d_law_clash : FuncData
  F_law_clash : Fun K "_law_clash" "_law_clash" s_law_clash a_law_clash d_law_clash
  b_law_clash : Binds K d_law_clash ["_law_moves", "_law_move"] []
  g_law_clash : mg "_law_clash" = some (.ref a_law_clash)
  a_law_heard : Addr
  d_law_heard : FuncData
  F_law_heard : Fun K "_law_heard" "_law_heard" s_law_heard a_law_heard d_law_heard
  b_law_heard : Binds K d_law_heard ["_law_log", "_law_move"] []
  g_law_heard : mg "_law_heard" = some (.ref a_law_heard)
  a_law_answer : Addr
  d_law_answer : FuncData
  F_law_answer : Fun K "_law_answer" "_law_answer" s_law_answer a_law_answer d_law_answer
  b_law_answer : Binds K d_law_answer ["_law_found", "_law_due"] []
  g_law_answer : mg "_law_answer" = some (.ref a_law_answer)
  a_law_way : Addr
  d_law_way : FuncData
  F_law_way : Fun K "_law_way" "_law_way" s_law_way a_law_way d_law_way
  b_law_way : Binds K d_law_way ["_law_tree", "_law_folder"] []
  g_law_way : mg "_law_way" = some (.ref a_law_way)
  a_law_fold : Addr
  d_law_fold : FuncData
  F_law_fold : Fun K "_law_fold" "_law_fold" s_law_fold a_law_fold d_law_fold
  b_law_fold : Binds K d_law_fold ["_law_tree", "_law_moves"] []
  g_law_fold : mg "_law_fold" = some (.ref a_law_fold)
  a_law_steps_of : Addr
  d_law_steps_of : FuncData
  F_law_steps_of : Fun K "_law_steps_of" "_law_steps_of" s_law_steps_of a_law_steps_of d_law_steps_of
  b_law_steps_of : Binds K d_law_steps_of ["_law_base", "_law_moves"] []
  g_law_steps_of : mg "_law_steps_of" = some (.ref a_law_steps_of)
  a_law_same_steps : Addr
  d_law_same_steps : FuncData
  F_law_same_steps : Fun K "_law_same_steps" "_law_same_steps" s_law_same_steps a_law_same_steps d_law_same_steps
  b_law_same_steps : Binds K d_law_same_steps ["_law_found", "_law_due"] []
  g_law_same_steps : mg "_law_same_steps" = some (.ref a_law_same_steps)
  a_law_steps_asked : Addr
  d_law_steps_asked : FuncData
  F_law_steps_asked : Fun K "_law_steps_asked" "_law_steps_asked" s_law_steps_asked a_law_steps_asked d_law_steps_asked
  b_law_steps_asked : Binds K d_law_steps_asked ["_law_log", "_law_base", "_law_moves", "_law_held"] []
  g_law_steps_asked : mg "_law_steps_asked" = some (.ref a_law_steps_asked)
  a_law_no_hand : Addr
  d_law_no_hand : FuncData
  F_law_no_hand : Fun K "_law_no_hand" "_law_no_hand" s_law_no_hand a_law_no_hand d_law_no_hand
  b_law_no_hand : Binds K d_law_no_hand ["_law_cell"] []
  g_law_no_hand : mg "_law_no_hand" = some (.ref a_law_no_hand)
  a_law_own : Addr
  d_law_own : FuncData
  F_law_own : Fun K "_law_own" "_law_own" s_law_own a_law_own d_law_own
  b_law_own : Binds K d_law_own ["_law_hand", "_law_state", "_law_pick", "_law_cell"] []
  g_law_own : mg "_law_own" = some (.ref a_law_own)
  a_law_other : Addr
  d_law_other : FuncData
  F_law_other : Fun K "_law_other" "_law_other" s_law_other a_law_other d_law_other
  b_law_other : Binds K d_law_other ["_law_hand", "_law_state", "_law_pick", "_law_cell"] []
  g_law_other : mg "_law_other" = some (.ref a_law_other)
  a_law_settled : Addr
  d_law_settled : FuncData
  F_law_settled : Fun K "_law_settled" "_law_settled" s_law_settled a_law_settled d_law_settled
  b_law_settled : Binds K d_law_settled ["_law_hand", "_law_state", "_law_pick", "_law_great"] []
  g_law_settled : mg "_law_settled" = some (.ref a_law_settled)
  a_law_as_told : Addr
  d_law_as_told : FuncData
  F_law_as_told : Fun K "_law_as_told" "_law_as_told" s_law_as_told a_law_as_told d_law_as_told
  b_law_as_told : Binds K d_law_as_told ["_law_hand", "_law_state"] []
  g_law_as_told : mg "_law_as_told" = some (.ref a_law_as_told)
  a_law : Addr
  d_law : FuncData
  F_law : Fun K "law" "law" s_law a_law d_law
  b_law : Binds K d_law ["_law_script"] []
  g_law : mg "law" = some (.ref a_law)
  o_Log : Addr
  go_Log : mg "Log" = some (.ref o_Log)
  cl_Log : Cls K o_Log
  mk_Log : Mk K o_Log a_Log_init
  mt_Log_hear : Meth K o_Log "hear" a_Log_hear
  mt_Log_moves : Meth K o_Log "moves" a_Log_moves
  mt_Log_tree : Meth K o_Log "tree" a_Log_tree
  mt_Log_steps : Meth K o_Log "steps" a_Log_steps
  mt_Log_settle : Meth K o_Log "settle" a_Log_settle
  n_Log_since : NoAttr K o_Log "since"
  n_Log_settled : NoAttr K o_Log "_settled"
  n_Log_kept : NoAttr K o_Log "_kept"
  o_Hand : Addr
  go_Hand : mg "Hand" = some (.ref o_Hand)
  cl_Hand : Cls K o_Hand
  mk_Hand : Mk K o_Hand a_Hand_init
  mt_Hand_move : Meth K o_Hand "move" a_Hand_move
  mt_Hand_hear : Meth K o_Hand "hear" a_Hand_hear
  mt_Hand_tree : Meth K o_Hand "tree" a_Hand_tree
  mt_Hand_settle : Meth K o_Hand "settle" a_Hand_settle
  n_Hand_number : NoAttr K o_Hand "number"
  n_Hand_clock : NoAttr K o_Hand "clock"
  n_Hand_log : NoAttr K o_Hand "log"
  m_ValueError : mg "ValueError" = none
  m_bool : mg "bool" = none
  m_dict : mg "dict" = none
  m_int : mg "int" = none
  m_isinstance : mg "isinstance" = none
  m_len : mg "len" = none
  m_list : mg "list" = none
  m_max : mg "max" = none
  m_min : mg "min" = none
  m_range : mg "range" = none
  m_sorted : mg "sorted" = none
  m_str : mg "str" = none
  m_tuple : mg "tuple" = none
  a_TreeError : Addr
  gc_TreeError : mg "TreeError" = some (.ref a_TreeError)
  x_TreeError : PySem.W.excIn K a_TreeError [.type "ValueError", .type "Exception", .type "BaseException", .type "object"] "ValueError.__new__" = true
  kc_TreeError : PySem.W.keepIn K (.ref a_TreeError) = true
  bc_TreeError : PySem.W.subIn K (.ref a_TreeError) (.type "BaseException") = some true
  tc_TreeError : PySem.W.typeIn K (.ref a_TreeError) = some (.type "type")
  ec_TreeError : ExcC K a_TreeError
  kv_TreeError : PySem.W.kitOne K (.ref a_TreeError) (.type "ValueError") = some true
  a_NoMove : Addr
  gc_NoMove : mg "NoMove" = some (.ref a_NoMove)
  x_NoMove : PySem.W.excIn K a_NoMove [.type "ValueError", .type "Exception", .type "BaseException", .type "object"] "ValueError.__new__" = true
  kc_NoMove : PySem.W.keepIn K (.ref a_NoMove) = true
  bc_NoMove : PySem.W.subIn K (.ref a_NoMove) (.type "BaseException") = some true
  tc_NoMove : PySem.W.typeIn K (.ref a_NoMove) = some (.type "type")
  ec_NoMove : ExcC K a_NoMove
  kv_NoMove : PySem.W.kitOne K (.ref a_NoMove) (.type "ValueError") = some true
  a_TooLate : Addr
  gc_TooLate : mg "TooLate" = some (.ref a_TooLate)
  x_TooLate : PySem.W.excIn K a_TooLate [.type "ValueError", .type "Exception", .type "BaseException", .type "object"] "ValueError.__new__" = true
  kc_TooLate : PySem.W.keepIn K (.ref a_TooLate) = true
  bc_TooLate : PySem.W.subIn K (.ref a_TooLate) (.type "BaseException") = some true
  tc_TooLate : PySem.W.typeIn K (.ref a_TooLate) = some (.type "type")
  ec_TooLate : ExcC K a_TooLate
  kv_TooLate : PySem.W.kitOne K (.ref a_TooLate) (.type "ValueError") = some true
  a_Clash : Addr
  gc_Clash : mg "Clash" = some (.ref a_Clash)
  x_Clash : PySem.W.excIn K a_Clash [.type "ValueError", .type "Exception", .type "BaseException", .type "object"] "ValueError.__new__" = true
  kc_Clash : PySem.W.keepIn K (.ref a_Clash) = true
  bc_Clash : PySem.W.subIn K (.ref a_Clash) (.type "BaseException") = some true
  tc_Clash : PySem.W.typeIn K (.ref a_Clash) = some (.type "type")
  ec_Clash : ExcC K a_Clash
  kv_Clash : PySem.W.kitOne K (.ref a_Clash) (.type "ValueError") = some true
  a_NoHand : Addr
  gc_NoHand : mg "NoHand" = some (.ref a_NoHand)
  x_NoHand : PySem.W.excIn K a_NoHand [.type "ValueError", .type "Exception", .type "BaseException", .type "object"] "ValueError.__new__" = true
  kc_NoHand : PySem.W.keepIn K (.ref a_NoHand) = true
  bc_NoHand : PySem.W.subIn K (.ref a_NoHand) (.type "BaseException") = some true
  tc_NoHand : PySem.W.typeIn K (.ref a_NoHand) = some (.type "type")
  ec_NoHand : ExcC K a_NoHand
  kv_NoHand : PySem.W.kitOne K (.ref a_NoHand) (.type "ValueError") = some true
  em_TreeError_TreeError : PySem.W.exmOne K (.ref a_TreeError) (.ref a_TreeError) = some true
  em_TreeError_NoMove : PySem.W.exmOne K (.ref a_TreeError) (.ref a_NoMove) = some false
  em_TreeError_TooLate : PySem.W.exmOne K (.ref a_TreeError) (.ref a_TooLate) = some false
  em_TreeError_Clash : PySem.W.exmOne K (.ref a_TreeError) (.ref a_Clash) = some false
  em_TreeError_NoHand : PySem.W.exmOne K (.ref a_TreeError) (.ref a_NoHand) = some false
  em_NoMove_TreeError : PySem.W.exmOne K (.ref a_NoMove) (.ref a_TreeError) = some true
  em_NoMove_NoMove : PySem.W.exmOne K (.ref a_NoMove) (.ref a_NoMove) = some true
  em_NoMove_TooLate : PySem.W.exmOne K (.ref a_NoMove) (.ref a_TooLate) = some false
  em_NoMove_Clash : PySem.W.exmOne K (.ref a_NoMove) (.ref a_Clash) = some false
  em_NoMove_NoHand : PySem.W.exmOne K (.ref a_NoMove) (.ref a_NoHand) = some false
  em_TooLate_TreeError : PySem.W.exmOne K (.ref a_TooLate) (.ref a_TreeError) = some true
  em_TooLate_NoMove : PySem.W.exmOne K (.ref a_TooLate) (.ref a_NoMove) = some false
  em_TooLate_TooLate : PySem.W.exmOne K (.ref a_TooLate) (.ref a_TooLate) = some true
  em_TooLate_Clash : PySem.W.exmOne K (.ref a_TooLate) (.ref a_Clash) = some false
  em_TooLate_NoHand : PySem.W.exmOne K (.ref a_TooLate) (.ref a_NoHand) = some false
  em_Clash_TreeError : PySem.W.exmOne K (.ref a_Clash) (.ref a_TreeError) = some true
  em_Clash_NoMove : PySem.W.exmOne K (.ref a_Clash) (.ref a_NoMove) = some false
  em_Clash_TooLate : PySem.W.exmOne K (.ref a_Clash) (.ref a_TooLate) = some false
  em_Clash_Clash : PySem.W.exmOne K (.ref a_Clash) (.ref a_Clash) = some true
  em_Clash_NoHand : PySem.W.exmOne K (.ref a_Clash) (.ref a_NoHand) = some false
  em_NoHand_TreeError : PySem.W.exmOne K (.ref a_NoHand) (.ref a_TreeError) = some true
  em_NoHand_NoMove : PySem.W.exmOne K (.ref a_NoHand) (.ref a_NoMove) = some false
  em_NoHand_TooLate : PySem.W.exmOne K (.ref a_NoHand) (.ref a_TooLate) = some false
  em_NoHand_Clash : PySem.W.exmOne K (.ref a_NoHand) (.ref a_Clash) = some false
  em_NoHand_NoHand : PySem.W.exmOne K (.ref a_NoHand) (.ref a_NoHand) = some true
  t_GREATEST : Tok
  c_GREATEST : mg "GREATEST" = some (.int 1000000000000000000000000000000000000000000000000000000000000 t_GREATEST)
/-! ### short readings -/
theorem isi {K : PySem.W.Frag} {H : Hp} {x : V} {t n : String} {b : Bool} {Q : VK} (ty : TyX K H x (.type t)) (e : kitB t n = some b) (q : Q (.bl b) H) : rIsi K [x, .ty n] H Q := ⟨x, .ty n, .type t, .type n, b, rfl, .ty n, ty, kit_ty e, q⟩
theorem kbb : kitB "bool" "bool" = some true := by decide +kernel
theorem kbi : kitB "bool" "int" = some true := by decide +kernel
theorem kii : kitB "int" "int" = some true := by decide +kernel
theorem kib : kitB "int" "bool" = some false := by decide +kernel
theorem kll : kitB "list" "list" = some true := by decide +kernel
theorem ktt : kitB "tuple" "tuple" = some true := by decide +kernel
theorem kdd : kitB "dict" "dict" = some true := by decide +kernel
theorem kss : kitB "str" "str" = some true := by decide +kernel
theorem same_upd {H : Hp} {p : Addr} {o : HO} (h : H p = none) : Same H (upd H p o) := fun b x e => by
  rw [upd_ne (ne_of_none e h)]
  exact e
/-- a change at an object that is new since H -/
theorem same_set {H H' : Hp} {p : Addr} {o : HO} (s : Same H H') (h : H p = none) : Same H (upd H' p o) := fun b x e => by
  rw [upd_ne (ne_of_none e h)]
  exact s b x e
theorem same_seqT {K : PySem.W.Frag} {H H' : Hp} {a : Addr} {xs : List V} (e : Same H H') (h : SqT K H a xs) : SqT K H' a xs := by
  rcases h with (h | ⟨o, h⟩) | h
  · exact .inl (.inl (e _ _ h))
  · exact .inl (.inr ⟨o, e _ _ h⟩)
  · exact .inr h
theorem p60 : (10 : Int) ^ (Int.toNat 60) = 1000000000000000000000000000000000000000000000000000000000000 := by decide +kernel
theorem ite_ne {x y : V} {A B : Prop} (e : x = y) (h : B) : if (!decide (x = y)) = true then A else B := by
  rw [decide_eq_true e]
  exact iteF h
theorem ite_eq {x y : V} {A B : Prop} (e : x = y) (h : A) : if decide (x = y) = true then A else B := by
  rw [decide_eq_true e]
  exact iteT h
local macro_rules | `(tactic| walk_at "rd1") => `(tactic| first
  | refine ⟨_, rfl, ?_⟩
  | refine ⟨_, _, rfl, rfl, ?_⟩
  | refine ⟨rfl, ?_⟩
  | refine ⟨_, _, rfl, ?_⟩
  | refine ⟨⟨_, rfl⟩, ?_⟩
  | refine ⟨(by first | decide | omega : (_ : Int) < _), ?_⟩
  | refine ⟨(by first | decide | omega : (_ : Int) ≤ _), ?_⟩
  | refine ⟨(by first | exact Nat.le_of_ble_eq_true rfl | decide | omega : (_ : Nat) ≤ _), ?_⟩
  | refine ⟨(by first | exact ⟨by decide, by decide⟩ | exact ⟨by omega, by omega⟩ : CDiv _ _), ?_⟩
  | refine ⟨(by first | exact .inr ⟨by decide, by decide⟩ | exact .inl ⟨by decide, by decide⟩ | exact .inr ⟨by omega, by omega⟩ | exact .inl ⟨by omega, by omega⟩ : CMul _ _), ?_⟩
  | refine ⟨(by exact ⟨by decide, by decide, by decide⟩ : CPow _ _), ?_⟩
  | refine ⟨(by assumption : (_ : Prop)), ?_⟩
  | refine ⟨_, _, _, rfl, by assumption, by first | decide | omega, ?_⟩
  | refine ⟨_, _, rfl, by assumption, ?_⟩
  | refine ⟨_, _, _, _, _, rfl, .ty _, .base (.int _), kit_ty kii, ?_⟩
  | refine ⟨_, _, _, _, _, rfl, .ty _, .base (.int _), kit_ty kib, ?_⟩
  | refine ⟨_, _, _, _, _, rfl, .ty _, .base (.bl _), kit_ty kbb, ?_⟩
  | refine ⟨_, _, _, _, _, rfl, .ty _, .base (.bl _), kit_ty kbi, ?_⟩
  | refine ⟨_, _, _, _, _, rfl, .ty _, .base (.str _), kit_ty kss, ?_⟩
  | refine ⟨_, _, _, _, _, rfl, .ty _, .base (.lst (by assumption)), kit_ty kll, ?_⟩
  | refine ⟨_, _, _, _, _, rfl, .ty _, .base (.tup (by assumption)), kit_ty ktt, ?_⟩
  | refine ⟨_, _, _, _, _, rfl, .ty _, .base (.dK (by assumption)), kit_ty kdd, ?_⟩
  | refine ⟨_, _, _, _, rfl, rfl, by assumption, by first | exact atI_nat (j := 0) rfl | exact atI_nat (j := 1) rfl | exact atI_nat (j := 2) rfl | exact atI_nat (j := 3) rfl, ?_⟩
  | refine ⟨_, _, _, _, rfl, rfl, by assumption, by assumption, ?_⟩
  | refine ⟨_, _, _, rfl, ?_⟩
  | (with_reducible show @ite Prop _ _ _ _; first | refine iteF ?_ | refine iteT ?_ | refine ite_ne rfl ?_ | refine ite_eq rfl ?_))
local macro_rules | `(tactic| walk_at "nm") => `(tactic| try dsimp only [List.set_cons_zero, List.set_cons_succ])
local macro_rules | `(tactic| walk_at "rd") => `(tactic| ((repeat (walk_at "rd1")); walk_at "nm"))
local macro_rules | `(tactic| walk_at "rq") => `(tactic| repeat (walk_at "rd1"))
/-! ### trees of numbers -/
def kvT (t : List (Int × Int)) : List (Key × V) := t.map fun p => (Sum.inl p.1, V.int p.2)
def look (t : List (Int × Int)) (k : Int) : Option Int := (t.find? fun p => decide (p.1 = k)).map (·.2)
def putT (t : List (Int × Int)) (k v : Int) : List (Int × Int) :=
  if (t.any fun p => decide (p.1 = k)) = true then t.map (fun p => if p.1 = k then (p.1, v) else p) else t ++ [(k, v)]
theorem look_nil (k : Int) : look [] k = none := rfl
theorem look_cons (p : Int × Int) (t : List (Int × Int)) (k : Int) : look (p :: t) k = if p.1 = k then some p.2 else look t k := by
  unfold look
  rw [List.find?_cons]
  by_cases h : p.1 = k
  · rw [decide_eq_true h, if_pos h]
    rfl
  · rw [decide_eq_false h, if_neg h]
theorem kvT_length (t : List (Int × Int)) : (kvT t).length = t.length := List.length_map ..
theorem valV_kvT (k : Int) : ∀ t : List (Int × Int), valV (kvT t) (Sum.inl k : Key) = (look t k).map V.int
  | [] => rfl
  | p :: t => by
    rw [look_cons]
    by_cases h : p.1 = k
    · rw [if_pos h]
      exact valV_pos (p := ((Sum.inl p.1 : Key), V.int p.2)) (congrArg Sum.inl h)
    · rw [if_neg h, ← valV_kvT k t]
      exact valV_neg (p := ((Sum.inl p.1 : Key), V.int p.2)) (fun z => h (Sum.inl.inj z))
theorem any_kvT (k : Int) (t : List (Int × Int)) : ((kvT t).any fun kv => decide (kv.1 = (Sum.inl k : Key))) = t.any fun p => decide (p.1 = k) := by
  induction t with
  | nil => rfl
  | cons p t ih =>
    show (decide ((Sum.inl p.1 : Key) = Sum.inl k) || (kvT t).any fun kv => decide (kv.1 = (Sum.inl k : Key))) = (decide (p.1 = k) || t.any fun p => decide (p.1 = k))
    rw [ih]
    by_cases h : p.1 = k
    · rw [decide_eq_true h, decide_eq_true (congrArg Sum.inl h)]
    · rw [decide_eq_false h, decide_eq_false (fun z => h (Sum.inl.inj z))]
theorem putK_kvT (t : List (Int × Int)) (k v : Int) : putK (kvT t) (Sum.inl k : Key) (V.int v) = kvT (putT t k v) := by
  unfold putK putT
  rw [any_kvT]
  by_cases h : (t.any fun p => decide (p.1 = k)) = true
  · rw [if_pos h, if_pos h]
    unfold kvT
    rw [List.map_map, List.map_map]
    refine List.map_congr_left fun p _ => ?_
    show (if (Sum.inl p.1 : Key) = Sum.inl k then ((Sum.inl p.1 : Key), V.int v) else ((Sum.inl p.1 : Key), V.int p.2)) = (Sum.inl (if p.1 = k then (p.1, v) else p).1, V.int (if p.1 = k then (p.1, v) else p).2)
    by_cases e : p.1 = k
    · rw [if_pos (congrArg Sum.inl e), if_pos e]
    · rw [if_neg (fun z => e (Sum.inl.inj z)), if_neg e]
  · rw [if_neg h, if_neg h]
    unfold kvT
    rw [List.map_append]
    rfl
theorem look_any (k : Int) : ∀ t : List (Int × Int), (t.any fun p => decide (p.1 = k)) = (look t k).isSome
  | [] => rfl
  | p :: t => by
    show (decide (p.1 = k) || t.any fun p => decide (p.1 = k)) = _
    rw [look_any k t, look_cons]
    by_cases h : p.1 = k
    · rw [decide_eq_true h, if_pos h]
      rfl
    · rw [decide_eq_false h, if_neg h, Bool.false_or]
theorem look_map (k j v : Int) : ∀ t : List (Int × Int), look (t.map fun p => if p.1 = k then (p.1, v) else p) j = (look t j).map fun x => if j = k then v else x
  | [] => rfl
  | p :: t => by
    rw [List.map_cons, look_cons, look_cons, look_map k j v t]
    by_cases h : p.1 = k
    · rw [if_pos h]
      by_cases e : p.1 = j
      · rw [if_pos e, if_pos e, Option.map_some, if_pos (e.symm.trans h)]
      · rw [if_neg e, if_neg e]
    · rw [if_neg h]
      by_cases e : p.1 = j
      · rw [if_pos e, if_pos e, Option.map_some, if_neg (fun z => h (e.trans z))]
      · rw [if_neg e, if_neg e]
theorem look_snoc (k j v : Int) : ∀ t : List (Int × Int), look t k = none → look (t ++ [(k, v)]) j = if j = k then some v else look t j
  | [], _ => by
    show look [(k, v)] j = _
    rw [look_cons, look_nil]
    by_cases e : k = j
    · rw [if_pos e, if_pos e.symm]
    · rw [if_neg e, if_neg (fun z => e z.symm)]
  | p :: t, h => by
    rw [look_cons] at h
    by_cases h1 : p.1 = k
    · rw [if_pos h1] at h
      cases h
    · rw [if_neg h1] at h
      rw [List.cons_append, look_cons, look_cons, look_snoc k j v t h]
      by_cases e : p.1 = j
      · rw [if_pos e, if_pos e, if_neg (fun z => h1 (e.trans z))]
      · rw [if_neg e, if_neg e]
theorem look_putT (t : List (Int × Int)) (k j v : Int) : look (putT t k v) j = if j = k then some v else look t j := by
  unfold putT
  by_cases h : (t.any fun p => decide (p.1 = k)) = true
  · rw [if_pos h, look_map]
    by_cases e : j = k
    · subst e
      rw [look_any] at h
      cases q : look t j with
      | none =>
        rw [q] at h
        cases h
      | some x =>
        rw [Option.map_some, if_pos rfl, if_pos rfl]
    · rw [if_neg e]
      cases look t j with
      | none => rfl
      | some x => rw [Option.map_some, if_neg e]
  · rw [if_neg h]
    refine look_snoc k j v t ?_
    rw [look_any] at h
    cases q : look t k with
    | none => rfl
    | some x =>
      rw [q] at h
      exact absurd rfl h
theorem keys_putT (t : List (Int × Int)) (k v : Int) : (putT t k v).map (·.1) = if (look t k).isSome = true then t.map (·.1) else t.map (·.1) ++ [k] := by
  unfold putT
  rw [look_any]
  by_cases h : (look t k).isSome = true
  · rw [if_pos h, if_pos h, List.map_map]
    refine List.map_congr_left fun p _ => ?_
    show (if p.1 = k then (p.1, v) else p).1 = p.1
    by_cases e : p.1 = k
    · rw [if_pos e]
    · rw [if_neg e]
  · rw [if_neg h, if_neg h, List.map_append]
    rfl
theorem look_mem {t : List (Int × Int)} {k v : Int} (h : look t k = some v) : (k, v) ∈ t := by
  induction t with
  | nil => cases h
  | cons p t ih =>
    rw [look_cons] at h
    by_cases e : p.1 = k
    · rw [if_pos e] at h
      cases h
      subst e
      exact List.mem_cons_self ..
    · rw [if_neg e] at h
      exact List.mem_cons_of_mem _ (ih h)
theorem mem_look {t : List (Int × Int)} {k v : Int} (hn : (t.map (·.1)).Nodup) (h : (k, v) ∈ t) : look t k = some v := by
  induction t with
  | nil => cases h
  | cons p t ih =>
    rw [look_cons]
    rw [List.map_cons, List.nodup_cons] at hn
    rcases List.mem_cons.mp h with e | e
    · subst e
      rw [if_pos rfl]
    · by_cases c : p.1 = k
      · exact absurd (List.mem_map.mpr ⟨(k, v), e, c.symm⟩) hn.1
      · rw [if_neg c]
        exact ih hn.2 e
theorem look_keys {t : List (Int × Int)} {k : Int} : k ∈ t.map (·.1) ↔ (look t k).isSome = true := by
  rw [← look_any, List.any_eq_true, List.mem_map]
  constructor
  · rintro ⟨p, hp, e⟩
    exact ⟨p, hp, decide_eq_true e⟩
  · rintro ⟨p, hp, e⟩
    exact ⟨p, hp, of_decide_eq_true e⟩
theorem nd_putT {t : List (Int × Int)} (k v : Int) (hn : (t.map (·.1)).Nodup) : ((putT t k v).map (·.1)).Nodup := by
  rw [keys_putT]
  by_cases h : (look t k).isSome = true
  · rw [if_pos h]
    exact hn
  · rw [if_neg h]
    refine List.nodup_append.mpr ⟨hn, List.nodup_cons.mpr ⟨fun z => (nomatch z), List.nodup_nil⟩, fun a ha b hb => ?_⟩
    rw [List.mem_singleton.mp hb]
    intro e
    subst e
    exact h (look_keys.mp ha)
theorem putT_length (t : List (Int × Int)) (k v : Int) : (putT t k v).length ≤ t.length + 1 := by
  unfold putT
  by_cases h : (t.any fun p => decide (p.1 = k)) = true
  · rw [if_pos h, List.length_map]
    omega
  · rw [if_neg h, List.length_append]
    exact Nat.le_refl _
/-- the way up -/
inductive Way (t : List (Int × Int)) : Int → List Int → Prop where
  | stop {f : Int} (h : look t f = none) : Way t f [f]
  | step {f u : Int} {l : List Int} (h : look t f = some u) (w : Way t u l) : Way t f (f :: l)
theorem Way.head {t : List (Int × Int)} {f : Int} {l : List Int} (w : Way t f l) : ∃ r, l = f :: r := by
  cases w with
  | stop h => exact ⟨_, rfl⟩
  | step h w => exact ⟨_, rfl⟩
theorem Way.det {t : List (Int × Int)} {f : Int} {l l' : List Int} (w : Way t f l) (w' : Way t f l') : l = l' := by
  induction w generalizing l' with
  | stop h =>
    cases w' with
    | stop _ => rfl
    | step h' _ =>
      rw [h] at h'
      cases h'
  | step h _ ih =>
    cases w' with
    | stop h' =>
      rw [h] at h'
      cases h'
    | step h' w' =>
      rw [h] at h'
      cases h'
      rw [ih w']
/-! ### trees that come of moves -/
structure Mv where
  t : Int
  h : Int
  f : Int
  u : Int
deriving DecidableEq
def upN (t : List (Int × Int)) : Nat → Int → List Int
  | 0, x => [x]
  | n + 1, x => match look t x with
    | none => [x]
    | some u => x :: upN t n u
/-- the way up, of a tree without a ring -/
def wayOf (t : List (Int × Int)) (x : Int) : List Int := upN t t.length x
theorem upN_of {t : List (Int × Int)} {x : Int} {l : List Int} (w : Way t x l) : ∀ {n : Nat}, l.length ≤ n + 1 → upN t n x = l := by
  induction w with
  | @stop f h =>
    intro n _
    cases n with
    | zero => rfl
    | succ n => rw [upN, h]
  | @step f u l h w ih =>
    intro n hl
    cases n with
    | zero =>
      obtain ⟨r, rfl⟩ := w.head
      simp at hl
    | succ n =>
      rw [upN, h]
      show f :: upN t n u = f :: l
      rw [ih (by rw [List.length_cons] at hl; omega)]
theorem Way.suffix {t : List (Int × Int)} {x y : Int} {l : List Int} (w : Way t x l) (h : y ∈ l) : ∃ l2, Way t y l2 ∧ l2.length ≤ l.length := by
  induction w with
  | stop e =>
    rw [List.mem_singleton.mp h]
    exact ⟨_, .stop e, Nat.le_refl _⟩
  | @step f u r e w ih =>
    rcases List.mem_cons.mp h with rfl | h
    · exact ⟨_, .step e w, Nat.le_refl _⟩
    · obtain ⟨l2, w2, hl⟩ := ih h
      exact ⟨l2, w2, Nat.le_succ_of_le hl⟩
theorem Way.nodup {t : List (Int × Int)} {x : Int} {l : List Int} (w : Way t x l) : l.Nodup := by
  induction w with
  | stop e => exact List.nodup_cons.mpr ⟨fun z => (nomatch z), List.nodup_nil⟩
  | @step f u r e w ih =>
    refine List.nodup_cons.mpr ⟨fun hf => ?_, ih⟩
    obtain ⟨l2, w2, hl⟩ := w.suffix hf
    have := (Way.step e w).det w2
    rw [← this, List.length_cons] at hl
    omega
theorem Way.keys {t : List (Int × Int)} {x : Int} {l : List Int} (w : Way t x l) : l.dropLast ⊆ t.map (·.1) := by
  induction w with
  | stop e => exact fun y hy => nomatch hy
  | @step f u r e w ih =>
    obtain ⟨r2, rfl⟩ := w.head
    intro y hy
    rw [List.dropLast_cons₂] at hy
    rcases List.mem_cons.mp hy with rfl | hy
    · exact look_keys.mpr (by rw [e]; rfl)
    · exact ih hy
theorem Way.small {t : List (Int × Int)} {x : Int} {l : List Int} (w : Way t x l) : l.length ≤ t.length + 1 := by
  have nd : l.dropLast.Nodup := List.Sublist.nodup (List.dropLast_sublist l) w.nodup
  have := List.Nodup.length_le_of_subset nd w.keys
  rw [List.length_dropLast, List.length_map] at this
  omega
theorem Way.eq {t : List (Int × Int)} {x : Int} {l : List Int} (w : Way t x l) : wayOf t x = l := upN_of w w.small
/-- a tree: no folder told twice, no ring -/
structure Fine (t : List (Int × Int)) : Prop where
  nd : (t.map (·.1)).Nodup
  way : ∀ x, Way t x (wayOf t x)
theorem Fine.of {t : List (Int × Int)} (nd : (t.map (·.1)).Nodup) (h : ∀ x, ∃ l, Way t x l) : Fine t := ⟨nd, fun x => by
  obtain ⟨l, w⟩ := h x
  rw [w.eq]
  exact w⟩
theorem Fine.nil : Fine [] := .of List.nodup_nil fun x => ⟨[x], .stop rfl⟩
theorem Fine.small {t : List (Int × Int)} (F : Fine t) (x : Int) : (wayOf t x).length ≤ t.length + 1 := (F.way x).small
theorem Way.avoid {t : List (Int × Int)} {f u x : Int} {l : List Int} (w : Way t x l) (h : f ∉ l) : Way (putT t f u) x l := by
  induction w with
  | @stop y e =>
    refine .stop ?_
    rw [look_putT, if_neg (fun z : y = f => h (z ▸ List.mem_singleton.mpr rfl))]
    exact e
  | @step y v r e w ih =>
    refine .step ?_ (ih fun z => h (List.mem_cons_of_mem _ z))
    rw [look_putT, if_neg (fun z : y = f => h (z ▸ List.mem_cons_self ..))]
    exact e
theorem Fine.put {t : List (Int × Int)} {f u : Int} (F : Fine t) (h : f ∉ wayOf t u) : Fine (putT t f u) := by
  refine .of (nd_putT f u F.nd) fun x => ?_
  have wf : Way (putT t f u) f (f :: wayOf t u) := .step (by rw [look_putT, if_pos rfl]) ((F.way u).avoid h)
  have w := F.way x
  revert w
  generalize wayOf t x = l
  intro w
  induction w with
  | @stop y e =>
    by_cases c : y = f
    · rw [c]
      exact ⟨_, wf⟩
    · refine ⟨[y], .stop ?_⟩
      rw [look_putT, if_neg c]
      exact e
  | @step y v r e w ih =>
    by_cases c : y = f
    · rw [c]
      exact ⟨_, wf⟩
    · obtain ⟨l2, w2⟩ := ih
      refine ⟨y :: l2, .step ?_ w2⟩
      rw [look_putT, if_neg c]
      exact e
def stepT (t : List (Int × Int)) (m : Mv) : List (Int × Int) := if m.f ∈ wayOf t m.u then t else putT t m.f m.u
/-- the part of a list up to the first y -/
def upTo (y : Int) : List Int → List Int
  | [] => []
  | x :: r => if x = y then [x] else x :: upTo y r
def stepW (t : List (Int × Int)) (m : Mv) : List Int := if m.f ∈ wayOf t m.u then upTo m.f (wayOf t m.u) else []
def foldT (t : List (Int × Int)) (ms : List Mv) : List (Int × Int) := ms.foldl stepT t
def stepsT (t : List (Int × Int)) : List Mv → List (List Int)
  | [] => []
  | m :: r => stepW t m :: stepsT (stepT t m) r
theorem Fine.step {t : List (Int × Int)} (F : Fine t) (m : Mv) : Fine (stepT t m) := by
  unfold stepT
  by_cases h : m.f ∈ wayOf t m.u
  · rw [if_pos h]
    exact F
  · rw [if_neg h]
    exact F.put h
theorem Fine.fold {ms : List Mv} : ∀ {t : List (Int × Int)}, Fine t → Fine (foldT t ms) := by
  induction ms with
  | nil => exact fun F => F
  | cons m r ih => exact fun F => ih (F.step m)
theorem stepT_length (t : List (Int × Int)) (m : Mv) : (stepT t m).length ≤ t.length + 1 := by
  unfold stepT
  by_cases h : m.f ∈ wayOf t m.u
  · rw [if_pos h]
    exact Nat.le_succ _
  · rw [if_neg h]
    exact putT_length ..
theorem foldT_length {ms : List Mv} : ∀ {t : List (Int × Int)}, (foldT t ms).length ≤ t.length + ms.length := by
  induction ms with
  | nil => exact fun {t} => Nat.le_refl _
  | cons m r ih =>
    intro t
    have h1 := @ih (stepT t m)
    have h2 := stepT_length t m
    show (foldT (stepT t m) r).length ≤ t.length + (r.length + 1)
    omega
theorem foldT_append (t : List (Int × Int)) (ms ns : List Mv) : foldT t (ms ++ ns) = foldT (foldT t ms) ns := List.foldl_append ..
theorem stepsT_append (ms ns : List Mv) : ∀ t, stepsT t (ms ++ ns) = stepsT t ms ++ stepsT (foldT t ms) ns := by
  induction ms with
  | nil => exact fun t => rfl
  | cons m r ih => exact fun t => congrArg _ (ih (stepT t m))
theorem stepsT_length (ms : List Mv) : ∀ t, (stepsT t ms).length = ms.length := by
  induction ms with
  | nil => exact fun t => rfl
  | cons m r ih => exact fun t => congrArg (· + 1) (ih (stepT t m))
/-! ### the told order -/
def Ahead (x y : Mv) : Prop := x.t < y.t ∨ (x.t = y.t ∧ x.h < y.h)
instance (x y : Mv) : Decidable (Ahead x y) := inferInstanceAs (Decidable (_ ∨ _))
def SameKey (x y : Mv) : Prop := x.t = y.t ∧ x.h = y.h
instance (x y : Mv) : Decidable (SameKey x y) := inferInstanceAs (Decidable (_ ∧ _))
theorem Ahead.not {x y : Mv} (h : Ahead x y) : ¬ Ahead y x := by
  unfold Ahead at *
  omega
theorem Ahead.trans {x y z : Mv} (h : Ahead x y) (g : Ahead y z) : Ahead x z := by
  unfold Ahead at *
  omega
def Rising {α : Type} (k : α → Mv) (l : List α) : Prop := l.Pairwise fun x y => Ahead (k x) (k y)
/-- put into a list in the told order -/
def insM {α : Type} (k : α → Mv) (l : List α) (m : α) : List α := l.takeWhile (fun x => decide (Ahead (k x) (k m))) ++ m :: l.dropWhile (fun x => decide (Ahead (k x) (k m)))
theorem insM_perm {α : Type} (k : α → Mv) (l : List α) (m : α) : (insM k l m).Perm (m :: l) := by
  unfold insM
  refine List.perm_middle.trans (List.Perm.cons _ ?_)
  rw [List.takeWhile_append_dropWhile]
theorem insM_length {α : Type} (k : α → Mv) (l : List α) (m : α) : (insM k l m).length = l.length + 1 := (insM_perm k l m).length_eq
theorem all_taken {α : Type} {p : α → Bool} {x : α} : ∀ {l : List α}, x ∈ l.takeWhile p → p x = true
  | [], h => nomatch h
  | y :: l, h => by
    rw [List.takeWhile_cons] at h
    cases e : p y with
    | false =>
      rw [e] at h
      exact nomatch h
    | true =>
      rw [e] at h
      rcases List.mem_cons.mp h with rfl | h
      · exact e
      · exact all_taken h
theorem Rising.insM {α : Type} {k : α → Mv} {l : List α} {m : α} (r : Rising k l) (h : ∀ x ∈ l, ¬ SameKey (k x) (k m)) : Rising k (insM k l m) := by
  unfold Tm.insM Rising at *
  have hsplit : l.takeWhile (fun x => decide (Ahead (k x) (k m))) ++ l.dropWhile (fun x => decide (Ahead (k x) (k m))) = l := List.takeWhile_append_dropWhile
  have r2 := r
  rw [← hsplit, List.pairwise_append] at r2
  obtain ⟨r3, r4, r5⟩ := r2
  have hd : ∀ y ∈ l.dropWhile (fun x => decide (Ahead (k x) (k m))), Ahead (k m) (k y) := by
    cases e : l.dropWhile (fun x => decide (Ahead (k x) (k m))) with
    | nil => exact fun y hy => nomatch hy
    | cons z zs =>
      have hz : ¬ Ahead (k z) (k m) := by
        have := List.head?_dropWhile_not (fun x => decide (Ahead (k x) (k m))) l
        rw [e] at this
        simpa using this
      have hl : z ∈ l := by
        rw [← hsplit, e]
        exact List.mem_append_right _ (List.mem_cons_self ..)
      have a1 : Ahead (k m) (k z) := by
        have := h z hl
        unfold Ahead SameKey at *
        omega
      rw [e] at r4
      intro y hy
      rcases List.mem_cons.mp hy with rfl | hy
      · exact a1
      · exact a1.trans ((List.pairwise_cons.mp r4).1 y hy)
  have ht : ∀ y ∈ l.takeWhile (fun x => decide (Ahead (k x) (k m))), Ahead (k y) (k m) := fun y hy => of_decide_eq_true (all_taken (p := fun x => decide (Ahead (k x) (k m))) hy)
  refine List.pairwise_append.mpr ⟨r3, List.pairwise_cons.mpr ⟨hd, r4⟩, fun a ha b hb => ?_⟩
  rcases List.mem_cons.mp hb with rfl | hb
  · exact ht a ha
  · exact r5 a ha b hb
theorem Rising.uniq {α : Type} {k : α → Mv} {l m : List α} (r : Rising k l) (s : Rising k m) (p : l.Perm m) : l = m :=
  List.Perm.eq_of_pairwise (le := fun x y => Ahead (k x) (k y)) (fun a b _ _ h1 h2 => (h1.not h2).elim) r s p
theorem Rising.map {α β : Type} {k : β → Mv} {f : α → β} {l : List α} (r : Rising (k ∘ f) l) : Rising k (l.map f) := List.pairwise_map.mpr r
theorem insM_map {α β : Type} (k : β → Mv) (f : α → β) (l : List α) (m : α) : (insM (k ∘ f) l m).map f = insM k (l.map f) (f m) := by
  unfold insM
  rw [List.map_append, List.map_cons, List.takeWhile_map, List.dropWhile_map]
  rfl
theorem upTo_at {f : Int} : ∀ {l : List Int}, f ∈ l → ∃ j : Nat, j < l.length ∧ l[j]? = some f ∧ (∀ m, m < j → l[m]? ≠ some f) ∧ upTo f l = l.take (j + 1)
  | [], h => nomatch h
  | x :: r, h => by
    by_cases c : x = f
    · subst c
      exact ⟨0, Nat.zero_lt_succ _, rfl, (fun m hm => nomatch hm), by rw [upTo, if_pos rfl]; rfl⟩
    · rcases List.mem_cons.mp h with e | h
      · exact absurd e.symm c
      · obtain ⟨j, h1, h2, h3, h4⟩ := upTo_at h
        refine ⟨j + 1, Nat.succ_lt_succ h1, h2, fun m hm => ?_, by rw [upTo, if_neg c, h4]; rfl⟩
        cases m with
        | zero => exact fun e => c (Option.some.inj e)
        | succ m => exact h3 m (by omega)
theorem upTo_sub {f : Int} {l : List Int} (h : f ∈ l) : (upTo f l).length ≤ l.length := by
  obtain ⟨j, h1, _, _, h4⟩ := upTo_at h
  rw [h4, List.length_take]
  omega
theorem Rising.keys {α : Type} {k : α → Mv} {l : List α} (r : Rising k l) : l.Pairwise fun x y => ¬ SameKey (k x) (k y) := r.imp fun {x y} h e => by
  have h : (k x).t < (k y).t ∨ ((k x).t = (k y).t ∧ (k x).h < (k y).h) := h
  have e1 := e.1
  have e2 := e.2
  omega
theorem stepW_small {t : List (Int × Int)} (F : Fine t) (m : Mv) : (stepW t m).length ≤ t.length + 1 := by
  unfold stepW
  split
  · rename_i c
    exact Nat.le_trans (upTo_sub c) (F.small _)
  · exact Nat.zero_le _
theorem stepsT_small {ms : List Mv} : ∀ {t : List (Int × Int)}, Fine t → ∀ w ∈ stepsT t ms, w.length ≤ t.length + ms.length + 1 := by
  induction ms with
  | nil => exact fun _ w hw => nomatch hw
  | cons m r ih =>
    intro t F w hw
    rcases List.mem_cons.mp hw with rfl | hw
    · have := stepW_small F m
      rw [List.length_cons]
      omega
    · have h1 := ih (F.step m) w hw
      have h2 := stepT_length t m
      rw [List.length_cons]
      omega
/-! ### moves and lists of them as data -/
def intD (l : List Int) : List PyData := l.map PyData.int
def mvD (m : Mv) : PyData := .tuple [.int m.t, .int m.h, .int m.f, .int m.u]
/-- data that can be compared: of a depth -/
def Flat (n : Nat) (d : PyData) : Prop := d.canLay0 = true ∧ d.depth ≤ n
theorem Flat.shaped {n : Nat} {d : PyData} (h : Flat n d) (hn : n ≤ 64) : SeqAt.shaped d = true := by
  unfold SeqAt.shaped
  rw [h.1, decide_eq_true (Nat.le_trans h.2 hn)]
  rfl
theorem Flat.all {n : Nat} {ds : List PyData} (h : ∀ d ∈ ds, Flat n d) : PyData.canLayAll0 ds = true ∧ PyData.depthAll ds ≤ n := by
  induction ds with
  | nil => exact ⟨rfl, by simp [PyData.depthAll]⟩
  | cons d ds ih =>
    obtain ⟨h1, h2⟩ := h d (List.mem_cons_self ..)
    obtain ⟨h3, h4⟩ := ih fun x hx => h x (List.mem_cons_of_mem _ hx)
    refine ⟨by rw [PyData.canLayAll0, h1, h3]; rfl, ?_⟩
    simp only [PyData.depthAll]
    omega
theorem Flat.list {n : Nat} {ds : List PyData} (h : ∀ d ∈ ds, Flat n d) : Flat (n + 1) (.list ds) := by
  obtain ⟨h1, h2⟩ := Flat.all h
  refine ⟨by simp only [PyData.canLay0]; exact h1, ?_⟩
  simp only [PyData.depth]
  omega
theorem Flat.tuple {n : Nat} {ds : List PyData} (h : ∀ d ∈ ds, Flat n d) : Flat (n + 1) (.tuple ds) := by
  obtain ⟨h1, h2⟩ := Flat.all h
  refine ⟨by simp only [PyData.canLay0]; exact h1, ?_⟩
  simp only [PyData.depth]
  omega
theorem Flat.int (i : Int) : Flat 1 (.int i) := ⟨by simp [PyData.canLay0], by simp [PyData.depth]⟩
theorem Flat.mono {n m : Nat} {d : PyData} (h : Flat n d) (e : n ≤ m) : Flat m d := ⟨h.1, Nat.le_trans h.2 e⟩
theorem Flat.intD (l : List Int) : ∀ d ∈ Tm.intD l, Flat 1 d := fun d hd => by
  obtain ⟨i, _, rfl⟩ := List.mem_map.mp hd
  exact .int i
theorem mvD_flat (m : Mv) : Flat 2 (mvD m) := .tuple (Flat.intD [m.t, m.h, m.f, m.u])
theorem mvsD_flat (ms : List Mv) : Flat 3 (.list (ms.map mvD)) := .list fun d hd => by
  obtain ⟨m, _, rfl⟩ := List.mem_map.mp hd
  exact mvD_flat m
theorem mvD_eqv (x y : Mv) : PyData.eqv (mvD x) (mvD y) = decide (x = y) := by
  cases x
  cases y
  simp only [mvD, PyData.eqv, PyData.eqvAll, Mv.mk.injEq, Bool.and_true]
  rw [Bool.eq_iff_iff]
  simp
theorem Flat.refl {n : Nat} {d : PyData} (h : Flat n d) : PyData.eqv d d = true := SeqAt.eqv_refl d h.1
/-! ### sorted of a dict's keys: ints falling; pairs of ints rising -/
section
variable {X : Cx}
/-- what is collected of a dict all of whose keys are ints -/
theorem got_ints {A : Around} {pins : List (Addr × Obj)} {σ : L2.St} {H : Hp} {s : Shared} {E : Value → Shared → Prop} {R : List Value → Shared → Prop} {a : Addr} {kvs : List (Key × V)} {ks : List Int}
    (hA : A.handled = none) (I : Inv X pins σ H s) (hd : Rd H a (.dK kvs)) (hks : kvs.map (·.1) = ks.map Sum.inl)
    (h : ∀ (g : Heap) (tk : Nat) (vs : List Value), (∀ b o, s.heap.get? b = some o → g.get? b = some o) → IntsAre vs ks → vs.length ≤ sizeLine → R vs { s with heap := g, toks := tk }) :
    wpAny (model X.prog X.w) A (collect (.ref a)) R E s := by
  obtain ⟨lz, ls, es, rel, dd⟩ := dk_rd I.hok hd
  obtain ⟨ep, at_⟩ := dd.dictAt
  have ek : es.map (·.1) = ks.map Sum.inl := rel.keys.symm.trans hks
  have el : es.length = ks.length := by simpa using congrArg List.length ek
  have ez : es.length ≤ sizeLine := by rw [← rel.length]; exact lz
  refine PySem.W.kdu_collect (PySem.W.kdl_dict (knd := mixKind X.prog X.w) (kvs := es) (ep := ep) ls) hA at_ ez fun g tk acc hk it => ?_
  have al : acc.toList.length = ks.length := (Array.length_toList ..).trans (it.1.trans el)
  refine h g tk acc.toList hk (ints_each al fun j v ej => ?_) (by rw [al, ← el]; exact ez)
  obtain ⟨k, x, h1, h2⟩ := it.2 j v (by rw [← Array.getElem?_toList]; exact ej)
  have h3 : (es.map (·.1))[j]? = some k := by rw [List.getElem?_map, h1]; rfl
  rw [ek, List.getElem?_map] at h3
  cases h4 : ks[j]? with
  | none =>
    rw [h4] at h3
    cases h3
  | some y =>
    rw [h4] at h3
    have h5 : Sum.inl y = k := Option.some.inj h3
    subst h5
    rcases keyIs_shape (show keyIs (Sum.inl y) v = true from h2) with ⟨i, t, e1, e2⟩ | ⟨z, t, e1, e2⟩
    · cases e1
      exact ⟨y, t, rfl, e2⟩
    · cases e1
def rSortedDR : List V → List V → Hp → VK → Prop := fun xs zs H Q => ∃ (a : Addr) (kvs : List (Key × V)) (ks : List Int), xs = [.ref a] ∧ zs = [.bl true] ∧ Rd H a (.dK kvs) ∧ kvs.map (·.1) = ks.map Sum.inl ∧
  ∀ (ys : List Int) (p : Addr), ys.Perm ks → ys.Pairwise (fun x y => y ≤ x) → H p = none → Q (.ref p) (upd H p (.lst (ys.map V.int)))
theorem cr_sortedDR (hcalm : X.calm = true) : CallRK X (.builtin "sorted") [Str.ofString "reverse"] rSortedDR := by
  intro pins s σ H xs zs us ws Q I rx rz q
  obtain ⟨a, kvs, ks, rfl, rfl, hd, hks, q⟩ := q
  obtain rfl := Vals.ref1 rx
  obtain ⟨w1, rfl, e1⟩ := vals1 rz
  obtain rfl : w1 = Value.bool true := e1
  refine call_function_entry_kw kind_sorted plain_sorted entry_sorted (args_sorted_rev _ _) ?_
  unfold Builtin.«sorted»
  refine wpAny_bind (m := checkCount "sorted" 1 1 _) (wpAny_pure ?_)
  refine wpAny_bind (got_ints (I.ok.hd hcalm) I hd hks fun g tk vs keep hi hz => ?_)
  refine wpAny_bind (wpAny_newList ?_ hz)
  have hL : (g.push (seqObj "list" vs.toArray 0)).get? g.objs.size = some (seqObj "list" vs.toArray 0) := Heap.get?_push_size _ rfl
  show wpAny _ _ _ _ _ { s with heap := g.push (seqObj "list" vs.toArray 0), toks := tk }
  refine wpAny_bind (wpAny_holding (wpAny_call_entry_kw slot_list_sort ⟨_, hL, rfl⟩ entry_list_sort ?_ (args_list_sort_rev _ _)))
  refine SrtR.list_sort_ordR (b := true) SrtO.swo_int hL hz (fun h2 => SrtO.ints_sortable hi h2) fun out o1 o2 => ⟨_, rfl, ?_⟩
  obtain ⟨ys, k1, k2, k3⟩ := SrtR.ints_outR (b := true) hi o1 o2
  have I1 : Inv X pins σ H { s with heap := g, toks := tk } := I.kept keep
  obtain ⟨ep, hat⟩ := sortedHeap_at (vs := vs) (out := if true = true then out.toArray.reverse else out.toArray) hL
  have e0 : ((if true = true then out.toArray.reverse else out.toArray).toList).toArray = (if true = true then out.toArray.reverse else out.toArray) := by rw [Array.toArray_toList]
  have hlen : (ys.map V.int).length ≤ sizeLine := by
    rw [List.length_map, k2.length_eq, ← hi.length]
    exact hz
  refine wpAny_pure ⟨_, rfl, .ref g.objs.size, upd H g.objs.size (.lst (ys.map V.int)), I1.laid (t' := tk) (fun b u e => ?_) (Nat.le_refl _) ⟨hlen, _, ep, vals_of_ints k1, by rw [e0]; exact hat⟩, rfl, q ys _ k2 k3 (I1.hok.fresh (Nat.le_refl _))⟩
  have hb : b < g.objs.size := Heap.lt_size e
  rw [sortedHeap_old (Nat.ne_of_lt hb) (by rw [size_push']; exact Nat.lt_succ_of_lt hb)]
  exact Heap.get?_push_of_some _ e
/-- the two ints of the tuple at an address -/
def pairAt (H : Hp) (t : Addr) : Int × Int := match H t with
  | some (.tup [.int i, .int j]) => (i, j)
  | _ => (0, 0)
def pairOf (H : Hp) (v : Value) : Int × Int := match v with
  | .ref t => pairAt H t
  | _ => (0, 0)
def key2 (p : Int × Int) : List Key := [Sum.inl p.1, Sum.inl p.2]
def Pair2 (H : Hp) (b : Addr) (p : Int × Int) : Prop := H b = some (.tup [.int p.1, .int p.2])
theorem pairAt_of {H : Hp} {b : Addr} {p : Int × Int} (h : Pair2 H b p) : pairAt H b = p := by
  unfold pairAt
  rw [show H b = some (.tup [.int p.1, .int p.2]) from h]
/-- what is collected of a dict all of whose keys are pairs of ints -/
theorem got_pairs {A : Around} {pins : List (Addr × Obj)} {σ : L2.St} {H : Hp} {s : Shared} {E : Value → Shared → Prop} {R : List Value → Shared → Prop} {a : Addr} {kvs : List (List Key × V)} {ks : List (Int × Int)}
    (hA : A.handled = none) (I : Inv X pins σ H s) (hd : Rd H a (.dT kvs)) (hks : kvs.map (·.1) = ks.map key2)
    (h : ∀ (g : Heap) (tk : Nat) (bs : List Addr), (∀ b o, s.heap.get? b = some o → g.get? b = some o) → bs.map (pairAt H) = ks → (∀ b ∈ bs, Pair2 H b (pairAt H b)) → bs.length ≤ sizeLine → R (bs.map Value.ref) { s with heap := g, toks := tk }) :
    wpAny (model X.prog X.w) A (collect (.ref a)) R E s := by
  obtain ⟨lz, ls, es, pr, o, en, ep, ho, hx, hdt, he, hn⟩ := (show ObjOk X.prog X.w H s.heap a (.dT kvs) from hd.ok I.hok)
  have l1 : en.size = es.length := by
    rw [← Array.length_toList, he, List.length_map]
  have l2 : kvs.length = es.length := Paired.length pr
  refine PySem.W.kdu_collect (kdl_raw ls hx hdt) hA ho (by omega) fun g tk acc hk it => ?_
  have al : acc.toList.length = es.length := (Array.length_toList ..).trans (it.1.trans l1)
  have ea : acc.toList = (es.map fun x => x.2.1).map Value.ref := by
    apply List.ext_getElem?
    intro j
    rw [List.map_map, List.getElem?_map]
    cases hj : acc.toList[j]? with
    | none =>
      have h1 := List.getElem?_eq_none_iff.mp hj
      rw [List.getElem?_eq_none (by omega)]
      rfl
    | some v =>
      obtain ⟨e, h2, h3⟩ := it.2 j v (by rw [← Array.getElem?_toList]; exact hj)
      have h4 : en.toList[j]? = some e := by rw [Array.getElem?_toList]; exact h2
      rw [he, List.getElem?_map] at h4
      cases hb : es[j]? with
      | none =>
        rw [hb] at h4
        cases h4
      | some b =>
        rw [hb] at h4
        have h5 : entryOfKey (tupleKind (mixKind X.prog X.w)) b = e := Option.some.inj h4
        rw [h3, ← h5]
        rfl
  have all : ∀ {l : List (List Key × V)} {m : List (List Key × Addr × Value)} {q : List (Int × Int)}, Paired (fun (p : List Key × V) (q : List Key × Addr × Value) => p.1 = q.1 ∧ H q.2.1 = some (.tup (p.1.map kV)) ∧ RelV p.2 q.2.2) l m → l.map (·.1) = q.map key2 →
      (m.map fun x => x.2.1).map (pairAt H) = q ∧ ∀ b ∈ m.map (fun x => x.2.1), Pair2 H b (pairAt H b) := by
    intro l m q r
    induction r generalizing q with
    | nil =>
      intro e
      cases q with
      | nil => exact ⟨rfl, fun b hb => nomatch hb⟩
      | cons => cases e
    | @cons x y xs ys hq _ ih =>
      intro e
      cases q with
      | nil => cases e
      | cons p q =>
        obtain ⟨e1, e2⟩ := List.cons.inj e
        obtain ⟨i1, i2⟩ := ih e2
        have hp : Pair2 H y.2.1 p := by
          have z := hq.2.1
          rw [show x.1 = key2 p from e1] at z
          exact z
        have ep : pairAt H y.2.1 = p := pairAt_of hp
        refine ⟨?_, fun b hb => ?_⟩
        · show pairAt H y.2.1 :: _ = _
          rw [ep]
          exact congrArg _ i1
        · rcases List.mem_cons.mp hb with rfl | hb
          · show Pair2 H y.2.1 (pairAt H y.2.1)
            rw [ep]
            exact hp
          · exact i2 b hb
  obtain ⟨a1, a2⟩ := all pr hks
  rw [ea]
  exact h g tk _ hk a1 a2 (by rw [List.length_map]; omega)
def rSortedDT : List V → Hp → VK → Prop := fun xs H Q => ∃ (a : Addr) (kvs : List (List Key × V)) (ks : List (Int × Int)), xs = [.ref a] ∧ Rd H a (.dT kvs) ∧ kvs.map (·.1) = ks.map key2 ∧
  ∀ (bs : List Addr) (ps : List (Int × Int)) (p : Addr), ps.Perm ks → ps.Pairwise (fun x y => SrtO.lexB y x = false) → Paired (Pair2 H) bs ps → H p = none → Q (.ref p) (upd H p (.lst (bs.map V.ref)))
theorem vals_refs' : ∀ bs : List Addr, Vals (bs.map V.ref) (bs.map Value.ref)
  | [] => .nil
  | _ :: r => .cons rfl (vals_refs' r)
theorem paired_at {H : Hp} : ∀ {bs : List Addr}, (∀ b ∈ bs, Pair2 H b (pairAt H b)) → Paired (Pair2 H) bs (bs.map (pairAt H))
  | [], _ => .nil
  | _ :: _, h => .cons (h _ (List.mem_cons_self ..)) (paired_at fun b hb => h b (List.mem_cons_of_mem _ hb))
theorem refs_of {vs : List Value} (h : ∀ v ∈ vs, ∃ b, v = Value.ref b) : ∃ bs : List Addr, vs = bs.map Value.ref := by
  induction vs with
  | nil => exact ⟨[], rfl⟩
  | cons v vs ih =>
    obtain ⟨b, rfl⟩ := h v (List.mem_cons_self ..)
    obtain ⟨bs, rfl⟩ := ih fun u hu => h u (List.mem_cons_of_mem _ hu)
    exact ⟨b :: bs, rfl⟩
def addrOf (v : Value) : Addr := match v with
  | .ref b => b
  | _ => 0
theorem addrOf_ref : addrOf ∘ Value.ref = id := funext fun _ => rfl
theorem cr_sortedDT (hcalm : X.calm = true) : CallR X (.builtin "sorted") rSortedDT := by
  intro pins s σ H xs us Q I rx q
  obtain ⟨a, kvs, ks, rfl, hd, hks, q⟩ := q
  obtain rfl := Vals.ref1 rx
  refine Calls.call_function_entry kind_sorted plain_sorted entry_sorted (args_sorted1 _) ?_
  unfold Builtin.«sorted»
  refine wpAny_bind (m := checkCount "sorted" 1 1 _) (wpAny_pure ?_)
  refine wpAny_bind (got_pairs (I.ok.hd hcalm) I hd hks fun g tk bs keep hb hp hz => ?_)
  have hz' : (bs.map Value.ref).length ≤ sizeLine := by rw [List.length_map]; exact hz
  refine wpAny_bind (wpAny_newList ?_ hz')
  have I1 : Inv X pins σ H { s with heap := g, toks := tk } := I.kept keep
  have hL : (g.push (seqObj "list" (bs.map Value.ref).toArray 0)).get? g.objs.size = some (seqObj "list" (bs.map Value.ref).toArray 0) := Heap.get?_push_size _ rfl
  show wpAny _ _ _ _ _ { s with heap := g.push (seqObj "list" (bs.map Value.ref).toArray 0), toks := tk }
  have isP : ∀ v ∈ bs.map Value.ref, Srt.IsPair (g.push (seqObj "list" (bs.map Value.ref).toArray 0)) v (pairOf H v).1 (pairOf H v).2 := by
    intro v hv
    obtain ⟨b, hb', rfl⟩ := List.mem_map.mp hv
    obtain ⟨_, its, r2, o, ho, hc, n, hdt⟩ := I1.hok _ _ (hp b hb')
    obtain ⟨u1, u2, rfl, ri, rj⟩ := vals2 r2
    obtain ⟨t1, rfl⟩ := ri
    obtain ⟨t2, rfl⟩ := rj
    exact ⟨b, o, t1, t2, n, rfl, Heap.get?_push_of_some _ ho, hc, hdt⟩
  refine wpAny_bind (wpAny_holding (wpAny_call_entry slot_list_sort ⟨_, hL, rfl⟩ entry_list_sort ?_ (args_list_sort _)))
  refine SrtO.list_sort_ord (SrtO.swo_lex (pairOf H)) hL hz' (fun h2 => SrtO.pairs_sortableO (by omega) isP fun o e => ?_) fun out o1 o2 => ⟨_, rfl, ?_⟩
  · have e' : some o = some (seqObj "list" (bs.map Value.ref).toArray 0) := e.symm.trans hL
    cases e'
    intro c
    exact absurd (Value.type.inj c) (by decide)
  · obtain ⟨ep, hat⟩ := sortedHeap_at (vs := bs.map Value.ref) (out := out.toArray) hL
    obtain ⟨cs, rfl⟩ := refs_of (vs := out) fun v hv => by
      obtain ⟨b, _, rfl⟩ := List.mem_map.mp (o2.perm.mem_iff.mp hv)
      exact ⟨b, rfl⟩
    have perm : cs.Perm bs := by
      have z := o2.perm.map addrOf
      rw [List.map_map, List.map_map, addrOf_ref, List.map_id, List.map_id] at z
      exact z
    have hlen : (cs.map V.ref).length ≤ sizeLine := by
      rw [List.length_map, perm.length_eq]
      exact hz
    have hpc : ∀ b ∈ cs, Pair2 H b (pairAt H b) := fun b hb => hp b (perm.mem_iff.mp hb)
    have srt : (cs.map (pairAt H)).Pairwise (fun x y => SrtO.lexB y x = false) := by
      have z := List.pairwise_map.mp o1
      exact List.pairwise_map.mpr z
    refine wpAny_pure ⟨_, rfl, .ref g.objs.size, upd H g.objs.size (.lst (cs.map V.ref)), I1.laid (t' := tk) (fun b u e => ?_) (Nat.le_refl _) ⟨hlen, _, ep, vals_refs' cs, hat⟩, rfl,
      q cs _ _ (by rw [← hb]; exact perm.map _) srt (paired_at hpc) (I1.hok.fresh (Nat.le_refl _))⟩
    have hb : b < g.objs.size := Heap.lt_size e
    rw [sortedHeap_old (Nat.ne_of_lt hb) (by rw [size_push']; exact Nat.lt_succ_of_lt hb)]
    exact Heap.get?_push_of_some _ e
end
/-! ### a dict made by a comprehension whose keys are tuples -/
section
variable {X : Cx}
/-- one store of such a comprehension -/
theorem put_into {pins : List (Addr × Obj)} {σ : L2.St} {H H' : Hp} {s : Shared} {E : Value → Shared → Prop} {D : Addr} {y v : V} {u r : Value} {Q : Unit → Shared → Prop} (hu : X.A.units + 1 < cLine)
    (I : Inv X pins σ H s) (g : DPut H D y v H') (ry : RelV y u) (rv : RelV v r) (h : ∀ z, Inv X pins σ H' z → Q () z) : wpAny (model X.prog X.w) X.A (dictSet D u r) Q E s := by
  rcases g with ⟨kvs, k, hD, rfl, hl, rfl⟩ | ⟨kvs, k, b, hD, rfl, hb, hl, rfl⟩
  · exact d_dictSet I hD hl ry rv h
  · obtain rfl : u = Value.ref b := ry
    obtain ⟨lz, ls, es, rel, dd⟩ := dt_of I.hok hD
    have ez : es.length ≤ sizeLine := (Paired.length rel) ▸ lz
    refine wpAny_dictSet_heap (hsz := ez) (show X.A.units < cLine by omega) (key_of I.hok hb) dd fun g d2 sb => h _ ?_
    obtain ⟨o, en, ep, ho, i1, i2, i3, _, i4⟩ := d2
    have hp : (putK kvs k v).length ≤ sizeLine := Nat.le_trans (length_putK kvs k v) hl
    refine d_write I (by rw [hD]; trivial) sb ⟨o, ho⟩ ⟨hp, ls, _, (rel.put k hb rv).keeps fun c ys ec => ?_, o, en, ep, ho, i1, i2, i3, i4⟩
    exact (upd_ne (ne_of ec hD fun z => nomatch z)).trans ec
def tDcT (wi : TI) (g : TG) (tt : TT) (tk tv : TE) (vs : List Nat) : TE := fun σ H Q => wi σ H fun J H1 => ∀ D, H1 D = none → ∃ W : Nat → Nat → Hp → Prop, (∃ m, W 0 m (upd H1 D (.dT []))) ∧ ∀ i m H, W i m H →
  (J.stop i H ∧ Q (.ref D) H) ∨ (J.go i H ∧ ∃ Nx : Hp → Prop, (∀ H', Nx H' → ∃ m', m' < m ∧ W (i + 1) m' H') ∧ ∀ x H', J.yld i H x H' → g x (wipe σ vs) H' fun σ2 H2 => wipe σ2 vs = wipe σ vs ∧ tt σ2 H2 fun b H3 =>
    if b = true then tk σ2 H3 fun y H4 => tv σ2 H4 fun z H5 => ∃ H6, DPut H5 D y z H6 ∧ Nx H6 else Nx H3)
theorem pe_dcT {kx vx tg iter : Expr} {ifs : List Expr} {scope : Scope} {own : List (Str × Nat)} {pos : Pos} {wi : TI} {g : TG} {tt : TT} {tk tv : TE} (calm : X.calm = true) (nd : X.N.Nodup) (src : PI X tg iter wi) (ok : BlkOk X.N X.env.scope scope own)
    (tgt : ∀ (s : Shared) (H : Hp) (C : Addr) (cl : List (Str × Addr)) (fp : List Addr), PG (X.blk s H scope (compEnvC scope cl C X.env) fp) tg g) (cond : ∀ (s : Shared) (H : Hp) (C : Addr) (cl : List (Str × Addr)) (fp : List Addr), PTs (X.blk s H scope (compEnvC scope cl C X.env) fp) ifs tt)
    (key : ∀ (s : Shared) (H : Hp) (C : Addr) (cl : List (Str × Addr)) (fp : List Addr), PE (X.blk s H scope (compEnvC scope cl C X.env) fp) kx tk)
    (val : ∀ (s : Shared) (H : Hp) (C : Addr) (cl : List (Str × Addr)) (fp : List Addr), PE (X.blk s H scope (compEnvC scope cl C X.env) fp) vx tv) (hu : X.A.units + 1 < cLine) (hs : ∀ x, foldedSetIterable iter X.env x = pure x := by intro _; rfl) :
    PE X (.DictComp kx vx [⟨tg, iter, ifs, 0⟩] scope pos) (tDcT wi g tt tk tv (own.map (·.2))) := by
  refine ⟨fun pins s σ H Q I want => ?_⟩
  rw [arm_eval_DictComp]
  have reach : ∀ y ∈ scope.names, y.2 = .free → ∃ c, X.env.cells.lookup y.1 = some c := fun y hy e => (ok.free y hy e).elim (fun k => I.ok.has _ (.inl k)) (fun k => I.ok.has _ (.inr k))
  refine wpAny_comprehension_free (use := none) rfl hs (closure_ok reach) ok.kind (fun y hy e => (ok.uniq y hy).trans (congrArg some e))
    (thn (src.run pins s σ H _ I want) fun _ sA hA => thn hA fun _ sB hB => ?_)
  obtain ⟨it, fp, tn, J, HB, rfl, IB, T, tB, fB, wantB⟩ := hB
  refine wpAny_newObj_type (newEnv_comp ?_)
  obtain ⟨D, eD⟩ : ∃ D, D = sB.heap.objs.size := ⟨_, rfl⟩
  obtain ⟨W, ⟨m0, w0⟩, step⟩ := wantB D (IB.hok.fresh (Nat.le_of_eq eD.symm))
  obtain ⟨sC, eC⟩ : ∃ sC : Shared, sC = { sB with heap := sB.heap.push { cls := .type "dict", data := .dict #[] } } := ⟨_, rfl⟩
  have hC : sC.heap = sB.heap.push { cls := .type "dict", data := .dict #[] } := congrArg Shared.heap eC
  obtain ⟨HC, eHC⟩ : ∃ HC, HC = upd HB D (.dT []) := ⟨_, rfl⟩
  have IC : Inv X pins σ HC sC := by
    rw [eC, eHC]
    refine IB.laid (t' := sB.toks) (fun b o e => Heap.get?_push_of_some _ e) (Nat.le_of_eq eD.symm) ?_
    rw [eD]
    exact dt_empty sB.heap IB.big
  have small : ∀ b ∈ fp, b < sB.heap.objs.size := fun b hb => (T.obj _ _ tB b hb).elim fun _ z => Heap.lt_size z.1
  have fC : ∀ b ∈ fp, FpOk X pins HC b ∧ b < sC.heap.objs.size := fun b hb => by
    have lt := small b hb
    refine ⟨⟨?_, (fB b hb).2⟩, ?_⟩
    · rw [eHC, upd_ne (eD ▸ Nat.ne_of_lt lt)]
      exact (fB b hb).1
    · rw [hC, Heap.size_push]
      exact Nat.lt_succ_of_lt lt
  have tC : tn 0 sC.heap := T.keep _ _ _ tB fun b _ o e => hC ▸ Heap.get?_push_of_some _ e
  have ID := block_start IC ok nd fC
  have none_fp : ∀ b ∈ fp, HC b = none := fun b hb => (fC b hb).1.1
  rw [← eD, ← eC]
  rw [← eHC] at w0
  show codeAny _ _ (.compStart (.DictComp kx vx [⟨tg, iter, ifs, 0⟩] scope pos) 0 (.ref it) (.ref D) (compEnvC scope (cellsFrom (sC.heap.objs.size + 1) scope.names (cloFrom X.env.cells scope.names [])) sC.heap.objs.size X.env)) _ { sC with heap := pushCells (sC.heap.push { cls := .type "dict", data := .dict #[] }) scope.names }
  have pT := tgt sC HC sC.heap.objs.size (cellsFrom (sC.heap.objs.size + 1) scope.names (cloFrom X.env.cells scope.names [])) fp
  have pC := cond sC HC sC.heap.objs.size (cellsFrom (sC.heap.objs.size + 1) scope.names (cloFrom X.env.cells scope.names [])) fp
  have pK := key sC HC sC.heap.objs.size (cellsFrom (sC.heap.objs.size + 1) scope.names (cloFrom X.env.cells scope.names [])) fp
  have pV := val sC HC sC.heap.objs.size (cellsFrom (sC.heap.objs.size + 1) scope.names (cloFrom X.env.cells scope.names [])) fp
  have loc : (compEnvC scope (cellsFrom (sC.heap.objs.size + 1) scope.names (cloFrom X.env.cells scope.names [])) sC.heap.objs.size X.env).locals = sC.heap.objs.size := rfl
  have tD : tn 0 ({ sC with heap := pushCells (sC.heap.push { cls := .type "dict", data := .dict #[] }) scope.names } : Shared).heap := T.keep _ _ _ tC fun b _ o e => pushCells_keeps _ _ _ _ (Heap.get?_push_of_some _ e)
  revert tD ID loc pT pC pK pV
  generalize compEnvC scope (cellsFrom (sC.heap.objs.size + 1) scope.names (cloFrom X.env.cells scope.names [])) sC.heap.objs.size X.env = ce
  generalize ({ sC with heap := pushCells (sC.heap.push { cls := .type "dict", data := .dict #[] }) scope.names } : Shared) = sD at *
  intro ID pT pC pK pV loc tD
  have free : ∀ {σ' : L2.St} {H' : Hp} {s' : Shared}, Inv (X.blk sC HC scope ce fp) [] σ' H' s' → (∀ b ∈ fp, H' b = none) → ∀ b ∈ fp, FpOk (X.blk sC HC scope ce fp) [] H' b := fun I' no b hb =>
    ⟨no b hb, (I'.ok.exf b hb).1, I'.ok.exfs b hb, .inl hb, (I'.ok.exf b hb).2, fun p hp => absurd hp (by rw [List.append_nil]; exact List.not_mem_nil)⟩
  have turns : codeAny (model X.prog X.w) X.A (.compLoop (.DictComp kx vx [⟨tg, iter, ifs, 0⟩] scope pos) 0 (.ref it) (.ref D) ce) (compPost (model X.prog X.w) X.A X.xe none (EP X pins σ Q) (.ref D) sC.heap.objs.size) sD := by
    refine compLoop_anyD (fun n z => ∃ i Hz, Inv (X.blk sC HC scope ce fp) [] (wipe σ (own.map (·.2))) Hz z ∧ tn i z.heap ∧ (∀ b ∈ fp, Hz b = none) ∧ W i n Hz) ?_ m0 ⟨0, HC, ID, tD, none_fp, w0⟩
    rintro n s1 ⟨i, H1, I1, t1, no1, w1⟩
    rcases step i n H1 w1 with ⟨stop, fine⟩ | ⟨go, Nx, less, body⟩
    · refine thnF (T.done (X.blk sC HC scope ce fp) rfl rfl rfl calm i [] s1 _ H1 (fun _ _ => False) I1 (free I1 no1) t1 stop) fun r s2 hr => ?_
      obtain ⟨rfl, I2⟩ := hr
      have I3 : Inv X pins σ H1 s2 := IC.call' (ch := fp) I2.os I2.base I2.hok I2.bare fun b hb => ⟨(fC b hb).1.2.2.2.1, (fC b hb).1.2.1, (fC b hb).1.2.2.2.2.1, (fC b hb).1.2.2.2.2.2⟩
      have empty : H1 sC.heap.objs.size = none := loc ▸ I2.free
      obtain ⟨m, ns, _⟩ := I2.loc
      have ns : s2.heap.Ns sC.heap.objs.size m := loc ▸ ns
      obtain ⟨f0, f1, f2, f3, f4, f5⟩ := IC.fpOk (Nat.le_refl _) empty
      exact ⟨m, ns, fun h'' sb => ⟨.ref D, H1, I3.turned (t' := s2.toks) (fun b o hb e => (sb.2 b hb).trans e) f0 f1 f3 f4 f5, rfl, fine⟩⟩
    · refine thnF (T.item (X.blk sC HC scope ce fp) rfl rfl rfl calm i [] s1 _ H1 (fun _ _ => False) I1 (free I1 no1) t1 go) fun r s2 hr => ?_
      obtain ⟨u, rfl, h2⟩ := hr
      refine thnF h2 fun _ s3 h3 => ?_
      obtain ⟨x, H3, I3, r3, y3, t3, no3⟩ := h3
      have pinned := I3.pinned (free I3 no3) (T.obj _ _ t3)
      refine thnF (pT.run _ s3 _ H3 x u _ pinned r3 (body x H3 y3)) fun _ s4 h4 => ?_
      obtain ⟨σ4, H4, I4, wiped, q4⟩ := h4
      have again : ∀ {z : Shared} {Hz : Hp}, Inv (X.blk sC HC scope ce fp) ([] ++ pinsAt fp s3.heap) σ4 Hz z → Nx Hz → ∃ m, m < n ∧ ∃ i Hz, Inv (X.blk sC HC scope ce fp) [] (wipe σ (own.map (·.2))) Hz z ∧ tn i z.heap ∧ (∀ b ∈ fp, Hz b = none) ∧ W i m Hz := fun {z Hz} Iz nx => by
        obtain ⟨m, lt, wz⟩ := less Hz nx
        have still : ∀ b ∈ fp, ∀ o, s3.heap.get? b = some o → z.heap.get? b = some o ∧ Hz b = none := fun b hb o e =>
          have p := Iz.pin (b, o) (List.mem_append_right _ (List.mem_append_right _ (mem_pinsAt hb e)))
          ⟨p.1, p.2.1⟩
        refine ⟨m, lt, i + 1, Hz, (Iz.unpinned (pins := [])).weak (by rw [← wiped, wipe_length]) (fun j v e => (wipe_some (wiped ▸ e)).1), T.keep _ _ _ t3 fun b hb o e => (still b hb o e).1, fun b hb => ?_, wz⟩
        obtain ⟨o, e, _⟩ := T.obj _ _ t3 b hb
        exact (still b hb o e).2
      refine thnF (pC.run _ s4 σ4 H4 _ I4 q4) fun b s5 h5 => ?_
      obtain ⟨H5, I5, q5⟩ := h5
      cases b with
      | false => exact again I5 q5
      | true =>
        refine thnF (pK.run _ s5 σ4 H5 _ I5 q5) fun ku s6 h6 => ?_
        obtain ⟨ky, H6, I6, r6, q6⟩ := h6
        refine thnF (pV.run _ s6 σ4 H6 _ I6 q6) fun vu s7 h7 => ?_
        obtain ⟨vy, H7, I7, r7, H8, put, nx⟩ := h7
        exact put_into (X := X.blk sC HC scope ce fp) hu I7 put r6 r7 fun z Iz => again Iz nx
  exact codeAny_compStart_dict turns (T.self X.A 0 _ _ _ tD turns)
end
/-! ### an attribute as one of several targets -/
section
variable {X : Cx} {pos : Pos} {f : Str}
def gFld (K : PySem.W.Frag) (to : TE) (f : Str) : TG := fun v σ H Q => to σ H fun x H1 => ∃ a C dx fs, x = .ref a ∧ H1 a = some (.ins C dx fs) ∧ Cls K C ∧ NoAttr K C f ∧ fs.length < 1000 ∧ Q σ (upd H1 a (.ins C dx (putF f v fs)))
theorem pg_fld {o : Expr} {to : TE} (ho : PE X o to) : PG X (.Attribute o f pos) (gFld X.K to f) := by
  refine ⟨fun pins s σ H v u Q I r h => ?_⟩
  rw [show assign (.Attribute o f pos) X.env u = (do
    let ov ← holding [u] (eval o X.env)
    standAt pos.atName
    holding [u, ov] (setAttr ov f u)
    release [u, ov] []) from rfl]
  refine wpAny_bind (wpAny_holding (thn (ho.run pins s σ H _ I h) fun ov s1 h1 => ?_))
  obtain ⟨x, H1, I1, r1, a, C, dx, fs, rfl, ea, c, n, l, q⟩ := h1
  obtain rfl : ov = Value.ref a := r1
  refine wpAny_bind (wpAny_standAt (wpAny_bind (wpAny_holding (setattr_ok I1 ea c n l r fun s2 I2 => ?_))))
  exact wpAny_release ⟨σ, _, I2, q⟩
end
/-! ### rules in a comprehension: the written part told by its name -/
def rLstOf (K : PySem.W.Frag) : List V → Hp → VK → Prop := fun xs H Q => ∃ p ys, xs = [V.ref p] ∧ (SqL K H p ys ∨ SqT K H p ys) ∧ ∀ l, H l = none → Q (.ref l) (upd H l (.lst ys))
theorem call_list_ofK {X : Cx} {K : PySem.W.Frag} (hK : X.K = K) : CallR X (.type "list") (rLstOf K) := hK ▸ call_list_of
def rLenOf (K : PySem.W.Frag) : List V → Hp → VK → Prop := fun xs H Q => ∃ p ys, xs = [V.ref p] ∧ (SqL K H p ys ∨ SqT K H p ys) ∧ Q (.int ((ys.length : Nat) : Int)) H
theorem call_len_seqK {X : Cx} {K : PySem.W.Frag} (hK : X.K = K) : CallR X (.builtin "len") (rLenOf K) := hK ▸ call_len_seq
/-! ### == of two lists whose items are data or dicts -/
def EqL (K : PySem.W.Frag) (H : Hp) (x y : V) : Prop :=
  (∃ d e, Dp K H x d ∧ Dp K H y e ∧ SeqAt.shaped d = true ∧ SeqAt.shaped e = true ∧ PyData.eqv d e = true) ∨
    ∃ a b ks ls, x = .ref a ∧ y = .ref b ∧ H a = some (.dK ks) ∧ H b = some (.dK ls) ∧ ks.length = ls.length ∧ ∀ p ∈ ks, valV ls p.1 = some p.2 ∧ flatB p.2 = true
def rEqMix (K : PySem.W.Frag) : R2 := fun x y H Q => ∃ a b xs ys, x = .ref a ∧ y = .ref b ∧ SqL K H a xs ∧ SqL K H b ys ∧ Paired (EqL K H) xs ys ∧ Q (.bl true) H
theorem op_eqMix {X : Cx} (hu : X.A.units + 66 < cLine) : OpR X (compareOp .Eq) (rEqMix X.K) := by
  intro pins s σ H x y v u Q I rx ry h
  obtain ⟨a, b, xs, ys, ex, ey, ha, hb, hp, q⟩ := h
  refine eqR_run I (A := X.A) (F := EqL X.K H) (by omega) (fun x y v u e r1 r2 => ?_) (.inl ⟨a, b, xs, ys, ex, ey, ha, hb, hp⟩) rx ry _ _ ⟨.bl true, H, I, rfl, q⟩
  rcases e with ⟨d, f, d1, d2, s1, s2, e⟩ | ⟨a, b, ks, ls, rfl, rfl, h1, h2, hl, hv⟩
  · obtain ⟨as, g1⟩ := Dp.reads I d x v d1 r1
    obtain ⟨bs, g2⟩ := Dp.reads I f y u d2 r2
    have z := SeqAt.eqAt_reads d f X.A.in1 s v u as bs g1 g2 (SeqAt.canLay_of_shaped s1) (SeqAt.canLay_of_shaped s2) (SeqAt.room_of_shaped s1 (by show X.A.units + 1 + 64 < cLine; omega))
    rw [e] at z
    exact z.eqP
  · exact eqV_run I 2 X.A.in1 (by show X.A.units + 1 + 2 < cLine; omega) _ _ _ _ (.inr (.inr (.inr ⟨a, b, ks, ls, rfl, rfl, h1, h2, hl, fun p hp => ⟨p.2, (hv p hp).1, .inl ⟨rfl, (hv p hp).2⟩⟩⟩))) r1 r2
def rEqLen (K : PySem.W.Frag) : R2 := fun x y H Q => ∃ a b xs ys, x = .ref a ∧ y = .ref b ∧ SqL K H a xs ∧ SqL K H b ys ∧ xs.length ≠ ys.length ∧ Q (.bl false) H
/-- == of two lists: of unlike lengths, or item by item equal -/
def rEq2 (K : PySem.W.Frag) : R2 := fun x y H Q => rEqMix K x y H Q ∨ rEqLen K x y H Q
theorem Room.u66 {k : Nat} {A : Around} (r : Room k A) : A.units + 66 < cLine := by have := r.un; omega
theorem op_eq2 {X : Cx} (hu : X.A.units + 66 < cLine) : OpR X (compareOp .Eq) (rEq2 X.K) := by
  intro pins s σ H x y v u Q I rx ry h
  rcases h with h | ⟨a, b, xs, ys, rfl, rfl, ha, hb, hl, q⟩
  · exact op_eqMix hu pins s σ H x y v u Q I rx ry h
  · obtain rfl : v = Value.ref a := rx
    obtain rfl : u = Value.ref b := ry
    obtain ⟨us, r1, p1, _⟩ := I.list ha
    obtain ⟨ws, r2, p2, _⟩ := I.list hb
    refine SeqAt.eq_list_lengthsAt p1.isList p2.isList ?_ (by omega) ⟨.bl false, H, I, rfl, q⟩
    rw [List.size_toArray, List.size_toArray, ← r1.length, ← r2.length]
    exact bne_iff_ne.mpr hl
/-! ### rules in a comprehension, a raising method in a try, is of a bool or a text -/
theorem sl_tupK {X : Cx} {K : PySem.W.Frag} (hK : X.K = K) : SlR X (rSlT K) := hK ▸ sl_tup
theorem op_eqDK {X : Cx} {K : PySem.W.Frag} (hK : X.K = K) (hu : X.A.units + 64 < cLine) : OpR X (compareOp .Eq) (rEqD K) := hK ▸ op_eqD hu
theorem op_neDK {X : Cx} {K : PySem.W.Frag} (hK : X.K = K) (hu : X.A.units + 64 < cLine) : OpR X (compareOp .NotEq) (rNeD K) := hK ▸ op_neD hu
def rIsBS : R2 := fun x y H Q => ∃ b : Bool, y = .bl b ∧ ((∃ a : Bool, x = .bl a ∧ Q (.bl (decide (a = b))) H) ∨ ∃ z, x = .str z ∧ Q (.bl false) H)
theorem op_isBlS {X : Cx} : OpR X (compareOp .Is) rIsBS := by
  intro pins s σ H x y v u Q I rx ry h
  obtain ⟨b, rfl, ⟨a, rfl, q⟩ | ⟨z, rfl, q⟩⟩ := h
  · exact op_isBl pins s σ H _ _ v u Q I rx ry ⟨a, b, rfl, rfl, q⟩
  · cases (show u = Value.bool b from ry)
    obtain ⟨t, rfl⟩ := (show ∃ t, v = Value.str z t from rx)
    exact wpAny_is_other rfl (fun z => nomatch z) ⟨.bl false, H, I, rfl, q⟩
theorem kbs : kitB "bool" "str" = some false := by decide +kernel
def tMethX (C : Addr) (m : Str) (sp : Sp) (E : L2.St → XK) (ta : TE) (t : TA) : TE := fun σ H Q => ta σ H fun x H1 => ∃ a dx fs, x = .ref a ∧ H1 a = some (.ins C dx fs) ∧ fs.lookup m = none ∧ t σ H1 fun vs H2 => sp (x :: vs) H2 Q (E σ)
theorem pe_methX {X : Cx} {CX : CXT} {k : Nat} {f C : Addr} {fd : FuncData} {ps : List Str} {sp : Sp} {E : L2.St → XK} {m : Str} {pos apos : Pos} {e o : Expr} {es : List Expr} {ta : TE} {t : TA} {pl : Sem Bool} (he : PE X o ta) (c : Cls X.K C) (hm : Meth X.K C m f) (F : FnOk X.prog X.w X.K X.mg X.base CX k f fd ps sp) (hr : Room k X.A) (hb : Binds X.K fd ps []) (hx : ∀ σ, PassesAt CX X σ (E σ)) (ha : PA X (e :: es) t)
    (hst : starEach (e :: es) X.env = (false, eval e X.env) :: starEach es X.env := by rfl) (hpl : (backTo pos (starEach es X.env)).any (·.1) = false := by rfl)
    (ht : eval (.Call (.Attribute o m apos) (e :: es) [] pos) X.env = (do
      let ov ← eval o X.env
      standAt apos.atName
      let (f, first) ← holding [ov] (getMethod ov m pl)
      callWith pos f first (backTo pos (starEach (e :: es) X.env)) (backToKw pos (keywordEach [] X.env))) := by rfl) :
    PE X (.Call (.Attribute o m apos) (e :: es) [] pos) (tMethX C m sp E ta t) := by
  refine ⟨fun pins s σ H Q I h => ?_⟩
  refine PySem.W.methodCall_KW (pl := pl) (thn (he.run pins s σ H _ I h) fun u s1 ⟨x, H1, I1, rx, a, dx, fs, ex, ea, l, q⟩ => ?_) ht
  subst ex
  obtain rfl : u = Value.ref a := rx
  refine getmeth_ok I1 ea c hm l ?_
  refine PySem.W.callWith_K (first := [.ref a]) (h₀ := X.base) I.ok.mod.kin hm.kp (thn (ha.run pos pins s1 σ H1 _ I1 q) fun us s2 ⟨vs, H2, I2, r, q2⟩ => ⟨I2.kIn, ?_⟩) hst hpl
  exact run_fnS (us := .ref a :: us) (vs := .ref a :: vs) F hr hb (hx σ) I2 (.cons rfl r) q2
/-! ### an own class made in a try; isinstance of an error against several classes; != of lists or dicts -/
theorem kit_exm {K : PySem.W.Frag} {cls c : Addr} {b : Bool} (h : PySem.W.exmOne K (.ref cls) (.ref c) = some b) (hs : PySem.W.exmOne K (.ref c) (.ref c) = some true) : PySem.W.kitOne K (.ref cls) (.ref c) = some b := by
  unfold PySem.W.kitOne
  by_cases e : cls = c
  · subst e
    rw [hs] at h
    cases h
    rw [if_pos (by simp)]
  · rw [if_neg (by
      intro z
      exact e (Value.ref.inj (eq_of_beq z)))]
    unfold PySem.W.exmOne at h
    split at h
    · exact h
    · cases h
def rIsET (K : PySem.W.Frag) (D a : Addr) : List V → Hp → VK → Prop := fun xs H Q => ∃ (tp : Addr) (cs : List V) (us : List Value) (b : Bool), xs = [.ref a, .ref tp] ∧ H tp = some (.tup cs) ∧ Paired ClsV cs us ∧ PySem.W.kitAny K (.ref D) us = some b ∧ Q (.bl b) H
theorem call_isET {X : Cx} {a D : Addr} {oe : Obj} {pn : List (Addr × Obj)} (C : ExcC X.K D) (hz : Zc (.ref D) none oe) (hf : ∃ vs, oe.data = .fields vs) : CallR (X.suite a ((a, oe) :: pn)) (.builtin "isinstance") (rIsET X.K D a) := by
  intro pins s σ H xs us Q I r h
  obtain ⟨tp, cs, ws, b, rfl, hT, k, e, q⟩ := h
  obtain ⟨u1, u2, rfl, r1, r2⟩ := vals2 r
  cases (show u1 = Value.ref a from r1)
  cases (show u2 = Value.ref tp from r2)
  obtain ⟨hget, _⟩ := I.pin (a, oe) (List.mem_append.mpr (.inl List.mem_cons_self))
  obtain ⟨vs, hv⟩ := hf
  have J : PySem.W.InstAt s.heap a oe D none := by
    obtain ⟨oc, od, oda, osl⟩ := oe
    obtain ⟨h1, h2⟩ := hz
    dsimp only at h1 h2 hv
    subst h1 h2 hv
    exact ⟨hget, rfl, rfl, trivial⟩
  obtain ⟨_, its, rv, o, h1, h2, n, h3⟩ := (show ObjOk X.prog X.w H s.heap tp (.tup cs) from I.hok tp _ hT)
  have e3 := ClsV.all k rv
  subst e3
  obtain ⟨oc, od, dt, sl⟩ := o
  simp only at h2 h3
  subst h2 h3
  exact PySem.W.kia_tup (PySem.W.handS_kitx_exc C.hg C.hk C.hs C.hd C.ha C.hn C.ht C.hm) I.kIn J h1 e (fun z => nomatch z) fun tk => ⟨.bl b, H, I.kept (t' := tk) fun _ _ z => z, rfl, q⟩
/-- what a making may let out, at the slots -/
def tMakeX (C : Addr) (sp : Sp) (E : L2.St → XK) (t : TA) : TE := fun σ H Q => t σ H fun vs H1 => ∀ x dx, H1 x = none → H1 dx = none → dx ≠ x →
  sp (.ref x :: vs) (upd (upd H1 dx (.own x)) x (.ins C dx [])) (fun v H2 => v = .non ∧ Q (.ref x) H2) (E σ)
theorem run_makeX {X : Cx} {CX : CXT} {k : Nat} {f C : Addr} {fd : FuncData} {ps : List Str} {sp : Sp} {E : XK} {pins : List (Addr × Obj)} {σ : L2.St} {H : Hp} {s : Shared} {Q : VK} {us : List Value} {vs : List V} (M : Mk X.K C f) (F : FnOk X.prog X.w X.K X.mg X.base CX k f fd ps sp) (hr : Room (k + 1) X.A) (hb : Binds X.K fd ps [])
    (hx : PassesAt CX X σ E) (I : Inv X pins σ H s) (r : Vals vs us)
    (h : ∀ x dx, H x = none → H dx = none → dx ≠ x → sp (.ref x :: vs) (upd (upd H dx (.own x)) x (.ins C dx [])) (fun v H2 => v = .non ∧ Q (.ref x) H2) E) :
    wpAny (model X.prog X.w) X.A (call (.ref C) us) (EP X pins σ Q) X.xe s := by
  have hq := h (s.heap.objs.size + 1) s.heap.objs.size (I.hok.fresh (Nat.le_succ _)) (I.hok.fresh (Nat.le_refl _)) (Nat.ne_of_lt (Nat.lt_succ_self _))
  have I2 := Inv.made (C := C) I
  have r2 : Vals (V.ref (s.heap.objs.size + 1) :: vs) (Value.ref (s.heap.objs.size + 1) :: us) := .cons rfl r
  have hl : (Value.ref (s.heap.objs.size + 1) :: us ++ []).length = ps.length := by
    have e := r2.length
    rw [F.len _ _ _ _ hq] at e
    rw [List.append_nil]
    exact e.symm
  have b := hb _ (Value.ref (s.heap.objs.size + 1) :: us) I2.kIn hl
  rw [List.append_nil] at b
  refine wpAny_call (make_map (f := f) I.kIn M.makes M.init (beq_iff_eq.mp M.fn) (codeAny_mono (F.run _ X.stack _ _ ⟨Value.ref (s.heap.objs.size + 1) :: us, []⟩ (Value.ref (s.heap.objs.size + 1) :: us) _ _ E (hr.make C us [])
    (I2.env0.make C us []) b r2 hq) fun r s' hq' => ?_))
  cases r with
  | error e => exact hx pins _ _ e s' I2 hq'
  | ok fl =>
    cases fl with
    | ret u =>
      obtain ⟨v, H', I3, rv, ev, q3⟩ := I2.after hq'
      subst ev
      exact ⟨rv, ⟨V.ref (s.heap.objs.size + 1), H', I3, rfl, q3⟩⟩
    | next => exact False.elim hq'
    | brk => exact False.elim hq'
    | cont => exact False.elim hq'
theorem pe_makeX {X : Cx} {CX : CXT} {k : Nat} {f C : Addr} {fd : FuncData} {ps : List Str} {sp : Sp} {E : L2.St → XK} {x : Str} {p pos : Pos} {e : Expr} {es : List Expr} {t : TA} (M : Mk X.K C f) (F : FnOk X.prog X.w X.K X.mg X.base CX k f fd ps sp) (hr : Room (k + 1) X.A) (hg : Gl X x) (hm : X.mg x = some (.ref C)) (hb : Binds X.K fd ps []) (hx : ∀ σ, PassesAt CX X σ (E σ))
    (ha : PA X (e :: es) t) (hdb : (x == ("__debug__" : Str)) = false := by decide) (he : starEach (e :: es) X.env = (false, eval e X.env) :: starEach es X.env := by rfl) (hpl : (backTo pos (starEach es X.env)).any (·.1) = false := by rfl) :
    PE X (.Call (.Name x p) (e :: es) [] pos) (tMakeX C sp E t) := by
  refine ⟨fun pins s σ H Q I h => ?_⟩
  refine wpAny_Call_Name_kw (ld_glob I hg hm ?_ hdb)
  refine PySem.W.callWith_K (h₀ := X.base) I.ok.mod.kin M.kp (thn (ha.run pos pins s σ H _ I h) fun us s1 ⟨vs, H1, I1, r, q⟩ => ⟨I1.kIn, ?_⟩) he hpl
  exact run_makeX M F hr hb (hx σ) I1 r q
/-- != of data that are the same, or of dicts that are -/
def rNeAny (K : PySem.W.Frag) : R2 := fun x y H Q => rNeD K x y H Q ∨ rNeDA x y H Q
theorem op_neAny {X : Cx} (hu : X.A.units + 66 < cLine) : OpR X (compareOp .NotEq) (rNeAny X.K) := by
  intro pins s σ H x y v u Q I rx ry h
  rcases h with h | h
  · exact op_neD (by omega) pins s σ H x y v u Q I rx ry h
  · exact op_ne_dictA (by omega) pins s σ H x y v u Q I rx ry h
section
variable {P : Program} {w : World} {K : PySem.W.Frag} {mg : Str → Option Value} {base : Heap}
/-! ### _law_cell_at -/
def cellOf (ns : List Int) (k : Nat) : Int := ns.getD k 0
def sp_law_cell_at (K : PySem.W.Frag) : Sp := fun vs H Q _ => ∃ (a : Addr) (ns : List Int) (k : Int), vs = [.ref a, .int k] ∧ SqL K H a (ns.map V.int) ∧ 0 ≤ k ∧ Q (.int (cellOf ns k.toNat)) H
theorem ok_law_cell_at (T : Tx K mg) : FnOk P w K mg base CX0 1 T.a_law_cell_at T.d_law_cell_at ["_law_script", "_law_k"] (sp_law_cell_at K) := by
  refine T.F_law_cell_at.ok sc_law_cell_at (fun vs H Q E h => ?_) (fun cdv A outer s H vs Q E hr h => ?_)
  · obtain ⟨a, ns, k, rfl, _⟩ := h
    rfl
  · obtain ⟨a, ns, k, rfl, hS, hk, q⟩ := h
    obtain ⟨k, rfl⟩ := Int.eq_ofNat_of_zero_le hk
    refine ⟨_, pss_cons (ps_if (pt_cmpR op_lt (pv 1) (pe_callB call_len_seq (by rfl) T.m_len PySem.boot_len (pa_cons (pv 0) pa_nil)) (nomark _)) (pss_one (ps_ret (pe_ix ix_list (pv 0) (pv 1) (fun _ _ => rfl)))) pss_nil)
      (pss_one (ps_ret pe_int)), ?_⟩
    refine ⟨_, rfl, .ref a, rfl, a, _, rfl, .inl hS, _, _, rfl, rfl, _, rfl, ite2 (fun e => ?_) (fun e => ?_)⟩
    · have e1 := of_decide_eq_true e
      rw [List.length_map] at e1
      have h1 : k < ns.length := by omega
      refine ⟨_, rfl, _, rfl, a, _, _, _, rfl, rfl, hS, atI_nat (j := k) (v := .int ns[k]) (by rw [List.getElem?_map, List.getElem?_eq_getElem h1]; rfl), ?_⟩
      have e2 : cellOf ns k = ns[k] := by
        unfold cellOf
        rw [List.getD_eq_getElem?_getD, List.getElem?_eq_getElem h1]
        rfl
      have q' : Q (.int (cellOf ns k)) H := q
      rw [e2] at q'
      exact q'
    · have e1 : ¬ ((k : Int) < ((ns.map V.int).length : Nat)) := fun z => e (decide_eq_true z)
      rw [List.length_map] at e1
      have h1 : ns.length ≤ k := by omega
      have e2 : cellOf ns k = 0 := by
        unfold cellOf
        rw [List.getD_eq_getElem?_getD, List.getElem?_eq_none h1]
        rfl
      have q' : Q (.int (cellOf ns k)) H := q
      rw [e2] at q'
      exact q'
/-! ### values of a kind that is known -/
inductive Kd (H : Hp) : V → Prop where
  | int (i : Int) : Kd H (.int i)
  | bl (b : Bool) : Kd H (.bl b)
  | str (z : Str) : Kd H (.str z)
  | non : Kd H .non
  | lst {a : Addr} {xs : List V} (e : H a = some (.lst xs)) : Kd H (.ref a)
  | tup {a : Addr} {xs : List V} (e : H a = some (.tup xs)) : Kd H (.ref a)
  | dK {a : Addr} {kvs : List (Key × V)} (e : H a = some (.dK kvs)) : Kd H (.ref a)
theorem Kd.same {H H' : Hp} {v : V} (s : Same H H') (k : Kd H v) : Kd H' v := by
  cases k with
  | int i => exact .int i
  | bl b => exact .bl b
  | str z => exact .str z
  | non => exact .non
  | lst e => exact .lst (s _ _ e)
  | tup e => exact .tup (s _ _ e)
  | dK e => exact .dK (s _ _ e)
theorem Kd.set {H : Hp} {v : V} {p : Addr} {xs ys : List V} (h : H p = some (.lst xs)) (k : Kd H v) : Kd (upd H p (.lst ys)) v := by
  cases k with
  | int i => exact .int i
  | bl b => exact .bl b
  | str z => exact .str z
  | non => exact .non
  | @lst a zs e =>
    by_cases c : a = p
    · subst c
      exact .lst upd_same
    · exact .lst (by rw [upd_ne c]; exact e)
  | @tup a zs e => exact .tup (by rw [upd_ne (ne_of e h (fun z => nomatch z))]; exact e)
  | @dK a kvs e => exact .dK (by rw [upd_ne (ne_of e h (fun z => nomatch z))]; exact e)
theorem klb : kitB "list" "bool" = some false := by decide +kernel
theorem kli : kitB "list" "int" = some false := by decide +kernel
theorem klt : kitB "list" "tuple" = some false := by decide +kernel
theorem ktb : kitB "tuple" "bool" = some false := by decide +kernel
theorem kti : kitB "tuple" "int" = some false := by decide +kernel
theorem kdb : kitB "dict" "bool" = some false := by decide +kernel
theorem kdi : kitB "dict" "int" = some false := by decide +kernel
theorem kdt : kitB "dict" "tuple" = some false := by decide +kernel
theorem ksb : kitB "str" "bool" = some false := by decide +kernel
theorem ksi : kitB "str" "int" = some false := by decide +kernel
theorem kst : kitB "str" "tuple" = some false := by decide +kernel
theorem knb : kitB "NoneType" "bool" = some false := by decide +kernel
theorem kni : kitB "NoneType" "int" = some false := by decide +kernel
theorem knt : kitB "NoneType" "tuple" = some false := by decide +kernel
theorem kit' : kitB "int" "tuple" = some false := by decide +kernel
theorem kbt : kitB "bool" "tuple" = some false := by decide +kernel
/-- its answer to isinstance(v, bool), isinstance(v, int) -/
def isB : V → Bool
  | .bl _ => true
  | _ => false
def isI : V → Bool
  | .bl _ => true
  | .int _ => true
  | _ => false
theorem Kd.ty {K : PySem.W.Frag} {H : Hp} {v : V} (k : Kd H v) : ∃ t, TyX K H v (.type t) ∧ kitB t "bool" = some (isB v) ∧ kitB t "int" = some (isI v) := by
  cases k with
  | int i => exact ⟨_, .base (.int _), kib, kii⟩
  | bl b => exact ⟨_, .base (.bl _), kbb, kbi⟩
  | str z => exact ⟨_, .base (.str _), ksb, ksi⟩
  | non => exact ⟨_, .base .non, knb, kni⟩
  | lst e => exact ⟨_, .base (.lst e), klb, kli⟩
  | tup e => exact ⟨_, .base (.tup e), ktb, kti⟩
  | dK e => exact ⟨_, .base (.dK e), kdb, kdi⟩
/-- a tuple, or none -/
def noTup (H : Hp) (v : V) : Prop := (∃ i, v = .int i) ∨ (∃ b, v = .bl b) ∨ (∃ z, v = .str z) ∨ v = .non ∨ (∃ a xs, v = .ref a ∧ H a = some (.lst xs)) ∨ (∃ a kvs, v = .ref a ∧ H a = some (.dK kvs))
theorem noTup.ty {K : PySem.W.Frag} {H : Hp} {v : V} (k : noTup H v) : ∃ t, TyX K H v (.type t) ∧ kitB t "tuple" = some false := by
  rcases k with ⟨i, rfl⟩ | ⟨b, rfl⟩ | ⟨z, rfl⟩ | rfl | ⟨a, xs, rfl, e⟩ | ⟨a, kvs, rfl, e⟩
  · exact ⟨_, .base (.int _), kit'⟩
  · exact ⟨_, .base (.bl _), kbt⟩
  · exact ⟨_, .base (.str _), kst⟩
  · exact ⟨_, .base .non, knt⟩
  · exact ⟨_, .base (.lst e), klt⟩
  · exact ⟨_, .base (.dK e), kdt⟩
abbrev G60 : Int := 1000000000000000000000000000000000000000000000000000000000000
/-- a whole number from the least to the greatest -/
def numB (l : Int) : V → Bool
  | .int i => decide (l ≤ i) && decide (i ≤ G60)
  | _ => false
theorem numB_lo {l x : Int} (h : x < l) : numB l (.int x) = false := by
  show (decide (l ≤ x) && decide (x ≤ G60)) = false
  rw [decide_eq_false (show ¬ l ≤ x by omega), Bool.false_and]
theorem numB_hi {l x : Int} (h : G60 < x) : numB l (.int x) = false := by
  show (decide (l ≤ x) && decide (x ≤ G60)) = false
  rw [decide_eq_false (show ¬ x ≤ G60 from fun z => absurd h (Int.not_lt.mpr z)), Bool.and_false]
theorem numB_in {l x : Int} (h : ¬ x < l) (h' : ¬ G60 < x) : numB l (.int x) = true := by
  show (decide (l ≤ x) && decide (x ≤ G60)) = true
  rw [decide_eq_true (Int.not_lt.mp h), decide_eq_true (Int.not_lt.mp h')]
  rfl
/-! ### is_number -/
def sp_is_number (K : PySem.W.Frag) : Sp := fun vs H Q _ => ∃ (v : V) (l : Int), vs = [v, .int l] ∧ Kd H v ∧ Q (.bl (numB l v)) H
theorem ok_is_number (T : Tx K mg) : FnOk P w K mg base CX0 1 T.a_is_number T.d_is_number ["thing", "least"] (sp_is_number K) := by
  refine T.F_is_number.ok sc_is_number (fun vs H Q E h => ?_) (fun cdv A outer s H vs Q E hr h => ?_)
  · obtain ⟨v, l, rfl, _⟩ := h
    rfl
  · obtain ⟨v, l, rfl, kd, q⟩ := h
    refine ⟨_, pss_cons (ps_if (PW.pt (pw_or (pt_val (pe_callB call_isi (by rfl) T.m_isinstance (by decide +kernel) (pa_cons (pv 0) (pa_cons (pe_bltn (v := .ty "bool") (by rfl) T.m_bool (by decide +kernel) rfl) pa_nil)))) (pw_or1 (pt_not (pt_val (pe_callB call_isi (by rfl) T.m_isinstance (by decide +kernel) (pa_cons (pv 0) (pa_cons (pe_bltn (v := .ty "int") (by rfl) T.m_int (by decide +kernel) rfl) pa_nil)))))))) (pss_one (ps_ret pe_bl)) pss_nil)
      (pss_one (ps_ret (pe_chain op_le op_le (pv 1) (pv 0) (pe_glob (v := .int 1000000000000000000000000000000000000000000000000000000000000) rfl T.c_GREATEST ⟨_, rfl⟩)))), ?_⟩
    refine ⟨_, rfl, ?_⟩
    obtain ⟨t, ty, hb, hi⟩ := kd.ty (K := K)
    refine ⟨_, _, _, _, _, rfl, .ty _, ty, kit_ty hb, ?_⟩
    refine ⟨_, rfl, ?_⟩
    refine ite2 (fun e => ?_) (fun e => ?_)
    · cases kd <;> first | exact q | cases e
    · refine ⟨_, rfl, ?_⟩
      refine ⟨_, _, _, _, _, rfl, .ty _, ty, kit_ty hi, ?_⟩
      refine ⟨_, rfl, ?_⟩
      cases kd with
      | int i =>
        refine iteF ?_
        walk_at "rd"
        refine ite2 (fun e1 => ?_) (fun e1 => ?_)
        · walk_at "rd"
          have h1 : l ≤ i := of_decide_eq_true e1
          have q' : Q (.bl (decide (l ≤ i) && decide (i ≤ G60))) H := q
          rw [decide_eq_true h1, Bool.true_and] at q'
          exact q'
        · have h1 : ¬ l ≤ i := fun z => e1 (decide_eq_true z)
          have q' : Q (.bl (decide (l ≤ i) && decide (i ≤ G60))) H := q
          rw [decide_eq_false h1, Bool.false_and] at q'
          exact q'
      | bl b => exact absurd rfl e
      | _ => exact iteT q
/-! ### is_move -/
def moveB (a b c d : V) : Bool := (numB 1 a && numB 0 b) && (numB 1 c && numB 0 d)
def sp_is_move (K : PySem.W.Frag) : Sp := fun vs H Q _ => ∃ v : V, vs = [v] ∧
  ((∃ p a b c d, v = .ref p ∧ H p = some (.tup [a, b, c, d]) ∧ Kd H a ∧ Kd H b ∧ Kd H c ∧ Kd H d ∧ Q (.bl (moveB a b c d)) H) ∨
   (((∃ p xs, v = .ref p ∧ H p = some (.tup xs) ∧ xs.length ≠ 4) ∨ noTup H v) ∧ Q (.bl false) H))
theorem ok_is_move (T : Tx K mg) : FnOk P w K mg base CX0 2 T.a_is_move T.d_is_move ["thing"] (sp_is_move K) := by
  refine T.F_is_move.ok sc_is_move (fun vs H Q E h => ?_) (fun cdv A outer s H vs Q E hr h => ?_)
  · obtain ⟨v, rfl, _⟩ := h
    rfl
  · obtain ⟨v, rfl, h⟩ := h
    refine ⟨_, pss_cons (ps_if (PW.pt (pw_or (pt_not (pt_val (pe_callB call_isi (by rfl) T.m_isinstance (by decide +kernel) (pa_cons (pv 0) (pa_cons (pe_bltn (v := .ty "tuple") (by rfl) T.m_tuple (by decide +kernel) rfl) pa_nil))))) (pw_or1 (pt_cmpR op_ne (pe_callB call_len_seq (by rfl) T.m_len PySem.boot_len (pa_cons (pv 0) pa_nil)) pe_int (nomark _))))) (pss_one (ps_ret pe_bl)) pss_nil)
      (pss_cons (ps_asg (pv 0) (pg_tup (by rfl) (pgs_cons (pg_name (i := 1) sc_is_move.nd rfl (Or.inl rfl)) (pgs_cons (pg_name (i := 2) sc_is_move.nd rfl (Or.inl rfl)) (pgs_cons (pg_name (i := 3) sc_is_move.nd rfl (Or.inl rfl)) (pgs_cons (pg_name (i := 4) sc_is_move.nd rfl (Or.inl rfl)) pgs_nil))))))
      (pss_cons (ps_if (PW.pt (pw_or (pt_not (pt_val (pe_call (ok_is_number T) (hr.mono (by decide)) (by rfl) T.g_is_number T.F_is_number.kp T.b_is_number .nil pass0 (pa_cons (pv 1) (pa_cons pe_int pa_nil))))) (pw_or1 (pt_not (pt_val (pe_call (ok_is_number T) (hr.mono (by decide)) (by rfl) T.g_is_number T.F_is_number.kp T.b_is_number .nil pass0 (pa_cons (pv 2) (pa_cons pe_int pa_nil)))))))) (pss_one (ps_ret pe_bl)) pss_nil)
      (pss_one (ps_ret (pe_and (pe_call (ok_is_number T) (hr.mono (by decide)) (by rfl) T.g_is_number T.F_is_number.kp T.b_is_number .nil pass0 (pa_cons (pv 3) (pa_cons pe_int pa_nil))) (pe_one (pe_call (ok_is_number T) (hr.mono (by decide)) (by rfl) T.g_is_number T.F_is_number.kp T.b_is_number .nil pass0 (pa_cons (pv 4) (pa_cons pe_int pa_nil))))))))), ?_⟩
    refine ⟨_, rfl, ?_⟩
    rcases h with ⟨p, a, b, c, d, rfl, ht, ka, kb, kc, kd, q⟩ | ⟨⟨p, xs, rfl, ht, hl⟩ | hn, q⟩
    · refine ⟨_, _, _, _, _, rfl, .ty _, .base (.tup ht), kit_ty ktt, ?_⟩
      refine ⟨_, rfl, iteF ?_⟩
      refine ⟨_, rfl, p, _, rfl, .inr (SqT.of ht), rfl, _, rfl, iteF ?_⟩
      refine ⟨_, rfl, p, _, rfl, SqT.of ht, rfl, ?_⟩
      walk_at "rd"
      have q1 : Q (.bl ((numB 1 a && numB 0 b) && (numB 1 c && numB 0 d))) H := q
      cases e1 : numB 1 a with
      | false =>
        rw [e1] at q1
        exact iteT q1
      | true =>
        refine iteF ?_
        walk_at "rd"
        cases e2 : numB 0 b with
        | false =>
          rw [e1, e2] at q1
          exact iteT q1
        | true =>
          refine iteF ?_
          rw [e1, e2] at q1
          walk_at "rd"
          cases e3 : numB 1 c with
          | false =>
            rw [e3] at q1
            exact iteF q1
          | true =>
            rw [e3] at q1
            refine iteT ?_
            walk_at "rd"
            exact q1
    · refine ⟨_, _, _, _, _, rfl, .ty _, .base (.tup ht), kit_ty ktt, ?_⟩
      refine ⟨_, rfl, iteF ?_⟩
      refine ⟨_, rfl, p, _, rfl, .inr (SqT.of ht), rfl, _, rfl, ?_⟩
      refine ite2 (fun _ => q) (fun e => absurd ?_ e)
      show (!decide (V.int xs.length = V.int 4)) = true
      rw [decide_eq_false (fun z => hl (by have := V.int.inj z; omega))]
      rfl
    · obtain ⟨t, ty, ht⟩ := hn.ty (K := K)
      refine ⟨_, _, _, _, _, rfl, .ty _, ty, kit_ty ht, ?_⟩
      exact ⟨_, rfl, iteT q⟩
/-! ### way_up -/
def sp_way_up (K : PySem.W.Frag) : Sp := fun vs H Q _ => ∃ (d : Addr) (t : List (Int × Int)) (f : Int) (l : List Int), vs = [.ref d, .int f] ∧ H d = some (.dK (kvT t)) ∧ Way t f l ∧ l.length ≤ 900 ∧ ∀ H' p, Same H H' → H p = none → H' p = some (.lst (l.map V.int)) → Q (.ref p) H'
set_option maxHeartbeats 1000000 in
theorem ok_way_up (T : Tx K mg) : FnOk P w K mg base CX0 1 T.a_way_up T.d_way_up ["tree", "folder"] (sp_way_up K) := by
  refine T.F_way_up.ok sc_way_up (fun vs H Q E h => ?_) (fun cdv A outer s H vs Q E hr h => ?_)
  · obtain ⟨d, t, f, l, rfl, _⟩ := h
    rfl
  · obtain ⟨d, t, f, l, rfl, hd, hw, hl, q⟩ := h
    have hu := hu_of hr
    refine ⟨_, pss_cons (ps_set (i := 2) sc_way_up.nd rfl (.inl rfl) (pe_lst (pa_cons (pv 1) pa_nil)))
      (pss_cons (ps_while PassesOwn.never (pt_cmp (pc_din hu (pe_ix ix_list (pv 2) (pe_un un_neg pe_int) (fun _ _ => rfl)) (pv 0))) (pss_one (ps_expr (pe_bm PySem.F.plainAttrs_list PySem.F.slot_list_append PySem.F.type_list_append mt_append (pv 2) (pa_cons (pe_dget hu (pv 0) (pe_ix ix_list (pv 2) (pe_un un_neg pe_int) (fun _ _ => rfl)) (fun _ _ => rfl)) pa_nil)))))
      (pss_one (ps_ret (pv 2)))), ?_⟩
    walk_at "rd"
    intro p np
    have s0 := same_upd (o := HO.lst [V.int f]) np
    refine ⟨fun m σ H2 => ∃ pre x l', σ = [some (.ref d), some (.int f), some (.ref p)] ∧ Same H H2 ∧ H2 p = some (.lst ((pre.map V.int) ++ [V.int x])) ∧ Way t x l' ∧ pre ++ l' = l ∧ m = l'.length,
      ⟨_, [], f, l, rfl, s0, upd_same, hw, rfl, rfl⟩, ?_⟩
    rintro m σ H2 ⟨pre, x, l', rfl, s2, hp, hx, el, rfl⟩
    have hd2 := s2 _ _ hd
    refine ⟨_, rfl, _, rfl, p, _, _, _, rfl, rfl, SqL.of hp, atI_last _ _, _, rfl, d, _, rfl, DGet.k (k := Sum.inl x) hd2, _, rfl, ?_⟩
    rw [valV_kvT]
    cases hx with
    | stop h =>
      rw [h]
      refine iteF ?_
      refine ⟨_, rfl, ?_⟩
      refine q _ _ s2 np ?_
      rw [hp, ← el, List.map_append]
      rfl
    | @step _ u r h w =>
      rw [h]
      refine iteT ?_
      refine ⟨fun σ' H' => σ' = [some (.ref d), some (.int f), some (.ref p)] ∧ Same H H' ∧ H' p = some (.lst (((pre ++ [x]).map V.int) ++ [V.int u])), ?_, ?_⟩
      · rintro σ' H' ⟨e, s3, hp'⟩
        refine ⟨r.length, Nat.lt_succ_self _, pre ++ [x], u, r, e, s3, hp', w, ?_, rfl⟩
        rw [← el, List.append_assoc]
        rfl
      · have hlen : pre.length + 1 ≤ 900 := by
          have : (pre ++ x :: r).length = l.length := by rw [el]
          rw [List.length_append, List.length_cons] at this
          omega
        refine ⟨_, rfl, .inl ⟨rfl, _, SqL.of hp⟩, _, rfl, _, rfl, _, rfl, p, _, _, _, rfl, rfl, SqL.of hp, atI_last _ _, d, V.int u, rfl, ?_, p, _, _, rfl, rfl, hp, ?_, ?_⟩
        · have g := DGet.k (k := Sum.inl x) hd2
          rw [valV_kvT, h] at g
          exact g
        · refine small1000 ?_
          rw [List.length_append, List.length_map]
          show pre.length + 1 ≤ 1000
          omega
        · refine ⟨rfl, same_set s2 np, ?_⟩
          rw [upd_same, List.map_append]
          rfl
/-! ### logs -/
def mvV (m : Mv) : List V := [.int m.t, .int m.h, .int m.f, .int m.u]
def MvAt (H : Hp) (a : Addr) (m : Mv) : Prop := H a = some (.tup (mvV m))
def IsMv (m : Mv) : Prop := moveB (.int m.t) (.int m.h) (.int m.f) (.int m.u) = true
theorem IsMv.of {m : Mv} (h1 : 1 ≤ m.t) (h2 : m.t ≤ G60) (h3 : 0 ≤ m.h) (h4 : m.h ≤ G60) (h5 : 1 ≤ m.f) (h6 : m.f ≤ G60) (h7 : 0 ≤ m.u) (h8 : m.u ≤ G60) : IsMv m := by
  unfold IsMv moveB
  rw [numB_in (Int.not_lt.mpr h1) (Int.not_lt.mpr h2), numB_in (Int.not_lt.mpr h3) (Int.not_lt.mpr h4), numB_in (Int.not_lt.mpr h5) (Int.not_lt.mpr h6), numB_in (Int.not_lt.mpr h7) (Int.not_lt.mpr h8)]
  rfl
theorem IsMv.low {t h f u : Int} (h1 : 1 ≤ t) (h2 : t ≤ 1000) (h3 : 0 ≤ h) (h4 : h ≤ 1000) (h5 : 1 ≤ f) (h6 : f ≤ G60) (h7 : 0 ≤ u) (h8 : u ≤ G60) : IsMv ⟨t, h, f, u⟩ :=
  .of h1 (Int.le_trans h2 (by decide)) h3 (Int.le_trans h4 (by decide)) h5 h6 h7 h8
theorem numB_out {l x : Int} (h : numB l (.int x) = true) : l ≤ x ∧ x ≤ G60 := by
  have h : (decide (l ≤ x) && decide (x ≤ G60)) = true := h
  rw [Bool.and_eq_true] at h
  exact ⟨of_decide_eq_true h.1, of_decide_eq_true h.2⟩
theorem IsMv.out {m : Mv} (h : IsMv m) : (1 ≤ m.t ∧ m.t ≤ G60) ∧ (0 ≤ m.h ∧ m.h ≤ G60) ∧ (1 ≤ m.f ∧ m.f ≤ G60) ∧ 0 ≤ m.u ∧ m.u ≤ G60 := by
  unfold IsMv moveB at h
  rw [Bool.and_eq_true, Bool.and_eq_true, Bool.and_eq_true] at h
  exact ⟨numB_out h.1.1, numB_out h.1.2, numB_out h.2.1, numB_out h.2.2⟩
abbrev AM := Addr × Mv
def kvK (l : List AM) : List (List Key × V) := l.map fun p => (key2 (p.2.t, p.2.h), V.ref p.1)
structure LogA where
  l : Addr
  dx : Addr
  d0 : Addr
  dk : Addr
structure LogS where
  since : Int
  base : List (Int × Int)
  kept : List AM
def lf (s : Int) (d0 dk : Addr) : List (Str × V) := [("since", .int s), ("_settled", .ref d0), ("_kept", .ref dk)]
structure LogAt (C : Addr) (H : Hp) (A : LogA) (S : LogS) : Prop where
  ins : H A.l = some (.ins C A.dx (lf S.since A.d0 A.dk))
  dict0 : H A.d0 = some (.dK (kvT S.base))
  dictk : H A.dk = some (.dT (kvK S.kept))
  mv : ∀ p ∈ S.kept, MvAt H p.1 p.2
  fine : Fine S.base
  keys : S.kept.Pairwise fun x y => ¬ SameKey x.2 y.2
def FrL (A : LogA) (H H' : Hp) : Prop := ∀ b o, H b = some o → b ≠ A.l → b ≠ A.dk → H' b = some o
theorem lf_since (s : Int) (d0 dk : Addr) : (lf s d0 dk).lookup ("since" : Str) = some (.int s) := by rfl
theorem lf_settled (s : Int) (d0 dk : Addr) : (lf s d0 dk).lookup ("_settled" : Str) = some (.ref d0) := by rfl
theorem lf_kept (s : Int) (d0 dk : Addr) : (lf s d0 dk).lookup ("_kept" : Str) = some (.ref dk) := by rfl
theorem lf_put_since (s t : Int) (d0 dk : Addr) : putF ("since" : Str) (.int t) (lf s d0 dk) = lf t d0 dk := by rfl
theorem LogAt.same {C : Addr} {H H' : Hp} {A : LogA} {S : LogS} (L : LogAt C H A S) (s : Same H H') : LogAt C H' A S :=
  ⟨s _ _ L.ins, s _ _ L.dict0, s _ _ L.dictk, fun p hp => s _ _ (L.mv p hp), L.fine, L.keys⟩
theorem ahead_lex (x y : Mv) : HT.lexLt [x.t, x.h] [y.t, y.h] = decide (Ahead x y) := by
  rw [HT.lexLt_cons, HT.lexLt_cons, HT.lexLt_nil_nil]
  by_cases h : x.t = y.t
  · rw [if_pos h]
    by_cases g : x.h = y.h
    · rw [if_pos g, decide_eq_false]
      unfold Ahead
      omega
    · rw [if_neg g]
      by_cases k : x.h < y.h
      · rw [decide_eq_true k, decide_eq_true (show Ahead x y from .inr ⟨h, k⟩)]
      · rw [decide_eq_false k, decide_eq_false]
        unfold Ahead
        omega
  · rw [if_neg h]
    by_cases k : x.t < y.t
    · rw [decide_eq_true k, decide_eq_true (show Ahead x y from .inl k)]
    · rw [decide_eq_false k, decide_eq_false]
      unfold Ahead
      omega
theorem cut_not (m : Mv) : ¬ (HT.sIx (mvV m).length 0 none = 0 ∧ HT.sIx (mvV m).length (mvV m).length (some 2) = (mvV m).length) := fun h => absurd h.2 (by
  show ¬ HT.sIx 4 4 (some ((2 : Nat) : Int)) = 4
  rw [HT.sIx_nat]
  decide)
theorem cut_two (m : Mv) : cutV (mvV m) none (some 2) = [.int m.t, .int m.h] := by rfl
theorem cut_nof (m : Mv) : ¬ (HT.sIx (mvV m).length 0 (some 2) = 0 ∧ HT.sIx (mvV m).length (mvV m).length none = (mvV m).length) := fun h => absurd h.1 (by
  show ¬ HT.sIx 4 0 (some ((2 : Nat) : Int)) = 0
  rw [HT.sIx_nat]
  decide)
theorem cut_from (m : Mv) : cutV (mvV m) (some 2) none = [.int m.f, .int m.u] := by rfl
/-- a field read, the written part told by its name -/
theorem pe_fldK {X : Cx} {e : Expr} {f : Str} {pos : Pos} {ta : TE} {K : PySem.W.Frag} (hK : X.K = K) (he : PE X e ta) (hb : attributeBase e f X.env (eval e X.env) = eval e X.env) : PE X (.Attribute e f pos) (tFld K ta f) := hK ▸ pe_fld he hb
theorem MvAt.dp {K : PySem.W.Frag} {H : Hp} {a : Addr} {m : Mv} (h : MvAt H a m) : Dp K H (.ref a) (mvD m) := .tup (SqT.of h) (.cons (.int _) (.cons (.int _) (.cons (.int _) (.cons (.int _) .nil))))
/-- where nothing but lists changed -/
theorem LogAt.lists {C : Addr} {H H' : Hp} {A : LogA} {S : LogS} (L : LogAt C H A S) (k : ∀ b o, H b = some o → (∀ xs, o ≠ .lst xs) → H' b = some o) : LogAt C H' A S :=
  ⟨k _ _ L.ins (fun _ z => nomatch z), k _ _ L.dict0 (fun _ z => nomatch z), k _ _ L.dictk (fun _ z => nomatch z), fun p hp => k _ _ (L.mv p hp) (fun _ z => nomatch z), L.fine, L.keys⟩
theorem iteNF {A B : Prop} {p : Prop} [Decidable p] (e : ¬ p) (h : B) : if decide p = true then A else B := by
  rw [decide_eq_false e]
  exact iteF h
theorem iteNT {A B : Prop} {p : Prop} [Decidable p] (e : p) (h : A) : if decide p = true then A else B := by
  rw [decide_eq_true e]
  exact iteT h
local macro_rules | `(tactic| walk_at "rd1") => `(tactic| first
  | refine ⟨_, _, _, _, _, rfl, by assumption, Tx.cl_Log _, Tx.n_Log_since _, lf_since .., ?_⟩
  | refine ⟨_, _, _, _, _, rfl, by assumption, Tx.cl_Log _, Tx.n_Log_settled _, lf_settled .., ?_⟩
  | refine ⟨_, _, _, _, _, rfl, by assumption, Tx.cl_Log _, Tx.n_Log_kept _, lf_kept .., ?_⟩)
local macro_rules | `(tactic| walk_at "rd1") => `(tactic| refine ⟨.inl ⟨rfl, _, SqL.of (by assumption)⟩, ?_⟩)
/-! ### Log.__init__ -/
def sp_Log_init (T : Tx K mg) : Sp := fun vs H Q _ => ∃ (x dx : Addr), vs = [.ref x] ∧ H x = some (.ins T.o_Log dx []) ∧
  ∀ H' d0 dk, H d0 = none → H dk = none → (∀ b o, H b = some o → b ≠ x → H' b = some o) → LogAt T.o_Log H' ⟨x, dx, d0, dk⟩ ⟨0, [], []⟩ → Q .non H'
theorem ok_Log_init (T : Tx K mg) : FnOk P w K mg base CX0 1 T.a_Log_init T.d_Log_init ["self"] (sp_Log_init T) := by
  refine T.F_Log_init.ok sc_Log_init (fun vs H Q E h => ?_) (fun cdv A outer s H vs Q E hr h => ?_)
  · obtain ⟨x, dx, rfl, _⟩ := h
    rfl
  · obtain ⟨x, dx, rfl, hx, q⟩ := h
    have hu := hu_of hr
    refine ⟨_, pss_cons (ps_fld (pv 0) pe_int rfl)
      (pss_cons (ps_fld (pv 0) pe_dnewK rfl)
      (pss_one (ps_fld (pv 0) pe_dnewT rfl))), ?_⟩
    rw [st_Log_init]
    refine ⟨_, rfl, x, _, dx, _, rfl, hx, T.cl_Log, T.n_Log_since, Nat.zero_lt_succ _, ?_⟩
    intro d0 n0
    have nx0 : x ≠ d0 := fun e => by rw [← e, upd_same] at n0; cases n0
    refine ⟨_, rfl, x, _, dx, _, rfl, (upd_ne nx0).trans upd_same, T.cl_Log, T.n_Log_settled, Nat.succ_lt_succ (Nat.zero_lt_succ _), ?_⟩
    intro dk nk
    have nxk : x ≠ dk := fun e => by rw [← e, upd_same] at nk; cases nk
    have n0k : d0 ≠ dk := fun e => by rw [← e, upd_ne (fun z => nx0 z.symm), upd_same] at nk; cases nk
    refine ⟨_, rfl, x, _, dx, _, rfl, (upd_ne nxk).trans upd_same, T.cl_Log, T.n_Log_kept, Nat.succ_lt_succ (Nat.succ_lt_succ (Nat.zero_lt_succ _)), ?_⟩
    have f0 : H d0 = none := by rw [upd_ne (fun z => nx0 z.symm)] at n0; exact n0
    have fk : H dk = none := by rw [upd_ne (fun z => nxk z.symm), upd_ne (fun z => n0k z.symm), upd_ne (fun z => nxk z.symm)] at nk; exact nk
    refine q _ d0 dk f0 fk (fun b o e c => ?_) ⟨upd_same, ?_, ?_, (fun p hp => nomatch hp), Fine.nil, List.Pairwise.nil⟩
    · rw [upd_ne c, upd_ne (ne_of_none e fk), upd_ne c, upd_ne (ne_of_none e f0), upd_ne c]
      exact e
    · rw [upd_ne (fun z => nx0 z.symm), upd_ne n0k, upd_ne (fun z => nx0 z.symm), upd_same]
      rfl
    · rw [upd_ne (fun z => nxk z.symm), upd_same]
      rfl
/-! ### Log.hear, of what is a move that isn't refused -/
def LogS.has (S : LogS) (m : Mv) : Bool := S.kept.any fun p => decide (SameKey p.2 m)
def LogS.hear (S : LogS) (a : Addr) (m : Mv) : LogS := if S.has m = true then S else { S with kept := S.kept ++ [(a, m)] }
theorem key2_inj {x y : Mv} : key2 (x.t, x.h) = key2 (y.t, y.h) ↔ SameKey x y := by
  constructor
  · intro e
    injection e with e1 e2
    injection e2 with e2 _
    exact ⟨Sum.inl.inj e1, Sum.inl.inj e2⟩
  · rintro ⟨e1, e2⟩
    rw [e1, e2]
theorem valV_kvK (m : Mv) : ∀ l : List AM, valV (kvK l) (key2 (m.t, m.h)) = (l.find? fun p => decide (SameKey p.2 m)).map fun p => V.ref p.1
  | [] => rfl
  | p :: l => by
    rw [List.find?_cons]
    by_cases h : SameKey p.2 m
    · rw [decide_eq_true h]
      exact valV_pos (p := (key2 (p.2.t, p.2.h), V.ref p.1)) (key2_inj.mpr h)
    · rw [decide_eq_false h]
      exact (valV_neg (p := (key2 (p.2.t, p.2.h), V.ref p.1)) fun z => h (key2_inj.mp z)).trans (valV_kvK m l)
theorem kvK_put {l : List AM} {a : Addr} {m : Mv} (h : (l.find? fun p => decide (SameKey p.2 m)) = none) : putK (kvK l) (key2 (m.t, m.h)) (.ref a) = kvK (l ++ [(a, m)]) := by
  rw [putK_new _ (by rw [valV_kvK, h]; rfl)]
  unfold kvK
  rw [List.map_append]
  rfl
theorem LogS.has_find (S : LogS) (m : Mv) : S.has m = (S.kept.find? fun p => decide (SameKey p.2 m)).isSome := by
  rw [List.isSome_find?]
  rfl
/-! ### Log.moves -/
def refsA (ms : List AM) : List V := ms.map fun x => V.ref x.1
def kept2 (l : List AM) : List (Int × Int) := l.map fun p => (p.2.t, p.2.h)
theorem kvK_keys (l : List AM) : (kvK l).map (·.1) = (kept2 l).map key2 := by
  unfold kvK kept2
  rw [List.map_map, List.map_map]
  rfl
def sp_Log_moves (T : Tx K mg) : Sp := fun vs H Q _ => ∃ (A : LogA) (S : LogS), vs = [.ref A.l] ∧ LogAt T.o_Log H A S ∧ S.kept.length ≤ 1000 ∧
  ∀ H' p ms, Same H H' → H p = none → H' p = some (.lst (refsA ms)) → ms.Perm S.kept → Rising (·.2) ms → Q (.ref p) H'
theorem perm_lift {α β : Type} {f : α → β} {l : List α} {ps : List β} (h : ps.Perm (l.map f)) : ∃ ms : List α, ms.Perm l ∧ ms.map f = ps := by
  generalize e : l.map f = qs at h
  induction h generalizing l with
  | nil =>
    cases l with
    | nil => exact ⟨[], .refl _, rfl⟩
    | cons => cases e
  | cons x h ih =>
    cases l with
    | nil => cases e
    | cons a l =>
      obtain ⟨e1, e2⟩ := List.cons.inj e
      obtain ⟨ms, p, q⟩ := ih e2
      exact ⟨a :: ms, p.cons a, by rw [List.map_cons, q, e1]⟩
  | swap x y r =>
    match l, e with
    | a :: b :: l, e =>
      obtain ⟨e1, e2⟩ := List.cons.inj e
      obtain ⟨e3, e4⟩ := List.cons.inj e2
      exact ⟨b :: a :: l, .swap a b l, by rw [List.map_cons, List.map_cons, e1, e3]; exact congrArg _ (congrArg _ e4)⟩
  | trans h1 h2 ih1 ih2 =>
    obtain ⟨ms, p, q⟩ := ih2 e
    obtain ⟨ns, p2, q2⟩ := ih1 q
    exact ⟨ns, p2.trans p, q2⟩
/-- the kept moves, by the order of their keys -/
theorem by_keys {l : List AM} (hk : l.Pairwise fun x y => ¬ SameKey x.2 y.2) {ps : List (Int × Int)} (hp : ps.Perm (kept2 l)) (hs : ps.Pairwise (fun x y => SrtO.lexB y x = false)) : ∃ ms : List AM, ms.Perm l ∧ Rising (·.2) ms ∧ kept2 ms = ps := by
  obtain ⟨ms, h1, h2⟩ := perm_lift (f := fun p : AM => (p.2.t, p.2.h)) hp
  refine ⟨ms, h1, ?_, h2⟩
  have nd : ms.Pairwise fun x y => ¬ SameKey x.2 y.2 := (h1.pairwise_iff fun {x y} h k => h ⟨k.1.symm, k.2.symm⟩).mpr hk
  rw [← h2] at hs
  have hs2 := List.pairwise_map.mp hs
  refine (hs2.and nd).imp fun {x y} h => ?_
  have h3 : ¬ (y.2.t < x.2.t ∨ (y.2.t = x.2.t ∧ y.2.h < x.2.h)) := SrtO.lexB_no.mp h.1
  have h4 := h.2
  unfold SameKey at h4
  show x.2.t < y.2.t ∨ (x.2.t = y.2.t ∧ x.2.h < y.2.h)
  omega
theorem find_key {l : List AM} (hk : l.Pairwise fun x y => ¬ SameKey x.2 y.2) {x : AM} (hx : x ∈ l) : (l.find? fun p => decide (SameKey p.2 x.2)) = some x := by
  induction l with
  | nil => exact nomatch hx
  | cons y l ih =>
    obtain ⟨h1, h2⟩ := List.pairwise_cons.mp hk
    rw [List.find?_cons]
    rcases List.mem_cons.mp hx with rfl | hx
    · rw [decide_eq_true ⟨rfl, rfl⟩]
    · rw [decide_eq_false (h1 x hx)]
      exact ih h2 hx
theorem paired_get {α β : Type} {F : α → β → Prop} : ∀ {l : List α} {m : List β} {i : Nat} {x : α}, Paired F l m → l[i]? = some x → ∃ y, m[i]? = some y ∧ F x y
  | _, _, _, _, .nil, e => by simp at e
  | _, _, 0, _, .cons r _, e => by simp at e; subst e; exact ⟨_, rfl, r⟩
  | _, _, i + 1, x, .cons _ t, e => by
    obtain ⟨y, h1, h2⟩ := paired_get (i := i) (x := x) t (by simpa using e)
    exact ⟨y, by simpa using h1, h2⟩
set_option maxHeartbeats 1000000 in
theorem ok_Log_moves (T : Tx K mg) : FnOk P w K mg base CX0 1 T.a_Log_moves T.d_Log_moves ["self"] (sp_Log_moves T) := by
  refine T.F_Log_moves.ok sc_Log_moves (fun vs H Q E h => ?_) (fun cdv A outer s H vs Q E hr h => ?_)
  · obtain ⟨A, S, rfl, _⟩ := h
    rfl
  · obtain ⟨A, S, rfl, L, hl, q⟩ := h
    have hu := hu_of hr
    refine ⟨_, pss_one (ps_ret (pe_lc (own := [("told", 1)]) (g := gName 1) (tt := tYes) rfl sc_Log_moves.nd (pi_list (pe_callB (cr_sortedDT rfl) (by rfl) T.m_sorted (by decide +kernel) (pa_cons (pe_fld (pv 0) rfl) pa_nil))) (blkOk_by (own := [("told", 1)]) (N := ["self", "told"]) (sc := defScope s_Log_moves) (by decide +kernel)) (fun _ _ _ _ _ => pg_name (i := 1) sc_Log_moves.nd rfl (Or.inl rfl)) (fun _ _ _ _ _ => pts_nil) (fun _ _ _ _ _ => pe_dget hu (pe_fldK (K := K) rfl (pv 0) rfl) (pv 1) (fun _ _ => rfl)))), ?_⟩
    rw [st_Log_moves]
    have hi := L.ins
    walk_at "rq"
    refine ⟨A.dk, kvK S.kept, kept2 S.kept, rfl, .inl L.dictk, kvK_keys _, fun bs ps p hp hs hb np => ?_⟩
    obtain ⟨ms, perm, rise, ek⟩ := by_keys L.keys hp hs
    have s1 := same_upd (o := HO.lst (bs.map V.ref)) np
    have hbl : bs.length = ms.length := by rw [Paired.length hb, ← ek]; exact List.length_map ..
    refine ⟨p, rfl, ⟨_, SqL.of upd_same⟩, fun D nD => ?_⟩
    have s2 := fun o => same_upd (o := o) nD
    refine lc_list (K := K) (a := p) (xs := bs.map V.ref) (fun i H2 => Same (upd H p (.lst (bs.map V.ref))) H2 ∧ H2 D = some (.lst (refsA (ms.take i)))) ⟨s2 _, upd_same⟩ (fun i H2 _ h => SqL.of (h.1 _ _ upd_same)) ?_ ?_
    · rintro i x H2 hi ⟨s3, hD⟩
      rw [List.getElem?_map] at hi
      obtain ⟨b, hbi, rfl⟩ := Option.map_eq_some_iff.mp hi
      obtain ⟨y, hy, hby⟩ := paired_get hb hbi
      rw [← ek] at hy
      unfold kept2 at hy
      rw [List.getElem?_map] at hy
      obtain ⟨z, hz, rfl⟩ := Option.map_eq_some_iff.mp hy
      have il : i < ms.length := (List.getElem?_eq_some_iff.mp hz).1
      have L3 := L.same (s1.trans s3)
      have hb3 : H2 b = some (.tup ((key2 (z.2.t, z.2.h)).map kV)) := (s1.trans s3) _ _ hby
      have g := DGet.t L3.dictk hb3
      have zm : z ∈ S.kept := perm.mem_iff.mp (List.mem_of_getElem? hz)
      rw [valV_kvK, find_key L.keys zm] at g
      have hi3 := L3.ins
      refine ⟨rfl, ?_⟩
      walk_at "rq"
      refine ⟨_, hD, small1000 (by unfold refsA; rw [List.length_map, List.length_take]; have := perm.length_eq; omega), same_set s3 nD, ?_⟩
      rw [upd_same]
      refine congrArg (fun z => some (HO.lst z)) ?_
      unfold refsA
      rw [List.take_add_one, hz, List.map_append]
      rfl
    · rintro H2 ⟨s3, hD⟩
      refine q H2 D ms (s1.trans s3) (by have z := nD; rw [upd_ne (fun e => by rw [e, upd_same] at nD; cases nD)] at z; exact z) ?_ perm rise
      rw [List.length_map, hbl, List.take_length] at hD
      exact hD
/-! ### Log.hear, of anything -/
/-- what is no move -/
def NoMv (H : Hp) (v : V) : Prop := (∃ p a b c d, v = .ref p ∧ H p = some (.tup [a, b, c, d]) ∧ Kd H a ∧ Kd H b ∧ Kd H c ∧ Kd H d ∧ moveB a b c d = false) ∨ (∃ p xs, v = .ref p ∧ H p = some (.tup xs) ∧ xs.length ≠ 4) ∨ noTup H v
def VAt (H : Hp) (v : V) : Option AM → Prop
  | none => NoMv H v
  | some z => v = .ref z.1 ∧ MvAt H z.1 z.2 ∧ IsMv z.2
inductive Out where
  | noMove | tooLate | clash | kept | new
deriving DecidableEq
def isClash (S : LogS) (m : Mv) : Bool := S.kept.any fun p => decide (SameKey p.2 m ∧ p.2 ≠ m)
def outOf (S : LogS) : Option AM → Out
  | none => .noMove
  | some z => if z.2.t < S.since then .tooLate else if isClash S z.2 = true then .clash else if S.has z.2 = true then .kept else .new
def LogS.got (S : LogS) (o : Option AM) : LogS := match outOf S o, o with
  | .new, some z => ⟨S.since, S.base, S.kept ++ [z]⟩
  | _, _ => S
theorem out_late {S : LogS} {a : Addr} {m : Mv} (e : m.t < S.since) : outOf S (some (a, m)) = .tooLate := if_pos e
theorem out_clash {S : LogS} {a : Addr} {m : Mv} (e : ¬ m.t < S.since) (c : isClash S m = true) : outOf S (some (a, m)) = .clash := (if_neg e).trans (if_pos c)
theorem out_kept {S : LogS} {a : Addr} {m : Mv} (e : ¬ m.t < S.since) (c : isClash S m = false) (k : S.has m = true) : outOf S (some (a, m)) = .kept := (if_neg e).trans ((if_neg (by rw [c]; exact Bool.false_ne_true)).trans (if_pos k))
theorem out_new {S : LogS} {a : Addr} {m : Mv} (e : ¬ m.t < S.since) (c : isClash S m = false) (k : ¬ S.has m = true) : outOf S (some (a, m)) = .new := (if_neg e).trans ((if_neg (by rw [c]; exact Bool.false_ne_true)).trans (if_neg k))
theorem got_same {S : LogS} {o : Option AM} (h : outOf S o ≠ .new) : S.got o = S := by
  unfold LogS.got
  split
  · rename_i e
    exact absurd e h
  · rfl
theorem got_new {S : LogS} {z : AM} (h : outOf S (some z) = .new) : S.got (some z) = ⟨S.since, S.base, S.kept ++ [z]⟩ := by
  unfold LogS.got
  rw [h]
/-- what is due of a hearing -/
def dueX (T : Tx K mg) (Q : VK) (E : XK) (H : Hp) : Out → Prop
  | .noMove => E (.ref T.a_NoMove) none H
  | .tooLate => E (.ref T.a_TooLate) none H
  | .clash => E (.ref T.a_Clash) none H
  | .kept => Q (.bl false) H
  | .new => Q (.bl true) H
def sp_Log_hear (T : Tx K mg) : Sp := fun vs H Q E => ∃ (A : LogA) (S : LogS) (v : V) (o : Option AM), vs = [.ref A.l, v] ∧ LogAt T.o_Log H A S ∧ VAt H v o ∧ S.kept.length ≤ 1000 ∧
  ∀ H', FrL A H H' → LogAt T.o_Log H' A (S.got o) → dueX T Q E H' (outOf S o)
theorem FrL.of {A : LogA} {H H' : Hp} (s : Same H H') : FrL A H H' := fun b o h _ _ => s _ _ h
set_option maxHeartbeats 2000000 in
theorem ok_Log_hear (T : Tx K mg) : FnOk P w K mg base (L2.CX P w) 3 T.a_Log_hear T.d_Log_hear ["self", "move"] (sp_Log_hear T) := by
  refine T.F_Log_hear.okX sc_Log_hear (fun vs H Q E h => ?_) (fun cdv A outer s H vs Q E hr h => ?_)
  · obtain ⟨A, S, v, o, rfl, _⟩ := h
    rfl
  · obtain ⟨A, S, v, o, rfl, L, hv, hl, q⟩ := h
    have hu := hu_of hr
    refine ⟨_, pss_cons (ps_if (pt_not (pt_val (pe_call (ok_is_move T) (hr.mono (by decide)) (by rfl) T.g_is_move T.F_is_move.kp T.b_is_move .nil pass0 (pa_cons (pv 1) pa_nil)))) (pss_one (ps_raise rfl (takes_of rfl rfl rfl rfl) (pmk_own PySem.F.excBase_ValueError T.x_NoMove T.gc_NoMove T.kc_NoMove (raises_own T.bc_NoMove T.tc_NoMove) rfl))) pss_nil)
      (pss_cons (ps_set (i := 2) sc_Log_hear.nd rfl (.inl rfl) (pe_tup (pa_cons (pe_ix ix_tup (pv 1) pe_int (fun _ _ => rfl)) (pa_cons (pe_ix ix_tup (pv 1) pe_int (fun _ _ => rfl)) pa_nil))))
      (pss_cons (ps_if (pt_cmpR op_lt (pe_ix ix_tup (pv 1) pe_int (fun _ _ => rfl)) (pe_fld (pv 0) rfl) (nomark _)) (pss_one (ps_raise rfl (takes_of rfl rfl rfl rfl) (pmk_own PySem.F.excBase_ValueError T.x_TooLate T.gc_TooLate T.kc_TooLate (raises_own T.bc_TooLate T.tc_TooLate) rfl))) pss_nil)
      (pss_cons (ps_if (pt_cmp (pc_din hu (pv 2) (pe_fld (pv 0) rfl))) (pss_cons (ps_if (pt_cmpR (op_neD hr.units) (pe_dget hu (pe_fld (pv 0) rfl) (pv 2) (fun _ _ => rfl)) (pv 1) (nomark _)) (pss_one (ps_raise rfl (takes_of rfl rfl rfl rfl) (pmk_own PySem.F.excBase_ValueError T.x_Clash T.gc_Clash T.kc_Clash (raises_own T.bc_Clash T.tc_Clash) rfl))) pss_nil)
      (pss_one (ps_ret pe_bl))) pss_nil)
      (pss_cons (ps_dput hu (pe_fld (pv 0) rfl) (pv 2) (pv 1) rfl)
      (pss_one (ps_ret pe_bl)))))), ?_⟩
    rw [st_Log_hear]
    cases o with
    | none =>
      have q := q H (.of (Same.refl H)) L
      rcases hv with ⟨p, a, b, c, d, rfl, hp, ka, kb, kc, kd, hm⟩ | ⟨p, xs, rfl, hp, hn⟩ | hn
      · refine ⟨_, rfl, _, rfl, .inl ⟨p, _, _, _, _, rfl, hp, ka, kb, kc, kd, ?_⟩⟩
        rw [hm]
        exact ⟨_, rfl, iteT q⟩
      · refine ⟨_, rfl, _, rfl, .inr ⟨.inl ⟨p, _, rfl, hp, hn⟩, ?_⟩⟩
        exact ⟨_, rfl, iteT q⟩
      · refine ⟨_, rfl, _, rfl, .inr ⟨.inr hn, ?_⟩⟩
        exact ⟨_, rfl, iteT q⟩
    | some z =>
      obtain ⟨a, m⟩ := z
      obtain ⟨rfl, ha, hm⟩ := hv
      have ha : MvAt H a m := ha
      have hm : IsMv m := hm
      refine ⟨_, rfl, _, rfl, .inl ⟨a, _, _, _, _, rfl, ha, .int _, .int _, .int _, .int _, ?_⟩⟩
      rw [show moveB (.int m.t) (.int m.h) (.int m.f) (.int m.u) = true from hm]
      refine ⟨_, rfl, iteF ?_⟩
      have hS := SqT.of (K := K) ha
      walk_at "rq"
      intro p np
      have s1 := same_upd (o := HO.tup [V.int m.t, V.int m.h]) np
      have hp : upd H p (HO.tup [V.int m.t, V.int m.h]) p = some (.tup ((key2 (m.t, m.h)).map kV)) := upd_same
      generalize upd H p (HO.tup [V.int m.t, V.int m.h]) = H1 at s1 hp ⊢
      have L1 := L.same s1
      have hS1 := same_seqT s1 hS
      have hi := L1.ins
      have q1 := q H1 (.of s1)
      walk_at "rq"
      refine ite2 (fun e => ?_) (fun e => ?_)
      · have e : m.t < S.since := of_decide_eq_true e
        have eo := out_late (S := S) (a := a) e
        rw [got_same (by rw [eo]; decide), eo] at q1
        exact q1 L1
      have e : ¬ m.t < S.since := fun z => e (decide_eq_true z)
      walk_at "rq"
      refine ⟨_, _, rfl, DGet.t L1.dictk hp, _, rfl, ?_⟩
      rw [valV_kvK, Option.isSome_map, ← LogS.has_find]
      refine ite2 (fun e2 => ?_) (fun e2 => ?_)
      · obtain ⟨b, hb⟩ := Option.isSome_iff_exists.mp ((LogS.has_find S m).symm.trans e2)
        have hm1 := List.mem_of_find?_eq_some hb
        have hk : SameKey b.2 m := by simpa using List.find?_some hb
        have g := DGet.t L1.dictk hp
        rw [valV_kvK, hb] at g
        have sh := (mvD_flat m).shaped (by decide)
        have shb := (mvD_flat b.2).shaped (by decide)
        have only : ∀ x ∈ S.kept, SameKey x.2 m → x = b := fun x hx hkx => by
          have h1 := find_key L.keys hx
          have h2 : (S.kept.find? fun p => decide (SameKey p.2 x.2)) = some b := by
            rw [← hb]
            refine congrFun (congrArg _ (funext fun q => decide_eq_decide.mpr ?_)) _
            unfold SameKey at hkx ⊢
            rw [hkx.1, hkx.2]
          rw [h1] at h2
          exact Option.some.inj h2
        walk_at "rq"
        refine ⟨mvD b.2, mvD m, (L1.mv b hm1).dp, (show MvAt _ a m from s1 _ _ ha).dp, shb, sh, _, rfl, ?_⟩
        rw [mvD_eqv]
        by_cases c : b.2 = m
        · rw [decide_eq_true c]
          have nc : isClash S m = false := by
            cases k : isClash S m with
            | false => rfl
            | true =>
              obtain ⟨x, hx, hkx⟩ := List.any_eq_true.mp k
              have hkx := of_decide_eq_true hkx
              exact absurd (by rw [only x hx hkx.1]; exact c) hkx.2
          have eo := out_kept (S := S) (a := a) e nc e2
          rw [got_same (by rw [eo]; decide), eo] at q1
          exact iteF (q1 L1)
        · rw [decide_eq_false c]
          have yc : isClash S m = true := List.any_eq_true.mpr ⟨b, hm1, decide_eq_true ⟨hk, c⟩⟩
          have eo := out_clash (S := S) (a := a) e yc
          rw [got_same (by rw [eo]; decide), eo] at q1
          exact iteT (q1 L1)
      · have e0 : S.kept.find? (fun p => decide (SameKey p.2 m)) = none := by
          cases c : S.kept.find? (fun p => decide (SameKey p.2 m)) with
          | none => rfl
          | some x => exact absurd (by rw [LogS.has_find, c]; rfl) e2
        have nc : isClash S m = false := by
          cases k : isClash S m with
          | false => rfl
          | true =>
            obtain ⟨x, hx, hkx⟩ := List.any_eq_true.mp k
            have hkx := of_decide_eq_true hkx
            exact absurd (decide_eq_true hkx.1) (by simpa using List.find?_eq_none.mp e0 x hx)
        walk_at "rq"
        refine ⟨_, _, rfl, DPut.t L1.dictk hp (small1000 (by unfold kvK; rw [List.length_map]; omega)), ?_⟩
        rw [kvK_put e0]
        have z := q (upd H1 A.dk (.dT (kvK (S.kept ++ [(a, m)])))) (fun b o e _ c => by rw [upd_ne c]; exact s1 b o e)
        have eo := out_new (S := S) (a := a) e nc e2
        rw [got_new eo, eo] at z
        refine z ⟨?_, ?_, upd_same, fun x hx => ?_, L1.fine, ?_⟩
        · rw [upd_ne (ne_of L1.ins L1.dictk fun z => nomatch z)]
          exact L1.ins
        · rw [upd_ne (ne_of L1.dict0 L1.dictk fun z => nomatch z)]
          exact L1.dict0
        · have hx1 : MvAt H1 x.1 x.2 := by
            rcases List.mem_append.mp hx with hx | hx
            · exact L1.mv x hx
            · rw [List.mem_singleton.mp hx]
              exact s1 _ _ ha
          exact (upd_ne (ne_of hx1 L1.dictk fun z => nomatch z)).trans hx1
        · refine List.pairwise_append.mpr ⟨L1.keys, List.pairwise_singleton .., fun x hx y hy => ?_⟩
          rw [List.mem_singleton.mp hy]
          intro k
          exact absurd (List.find?_eq_none.mp e0 x hx) (by rw [decide_eq_true k]; simp)
/-! ### lists of whole numbers -/
theorem eqV_int (a b : Int) : eqV (.int a) (.int b) = decide (a = b) := by
  show (a == b) = _
  by_cases h : a = b
  · rw [h, decide_eq_true rfl]
    exact beq_self_eq_true b
  · rw [decide_eq_false h]
    exact beq_eq_false_iff_ne.mpr h
theorem inV_ints (f : Int) (l : List Int) : inV (.int f) (l.map V.int) = decide (f ∈ l) := by
  unfold inV
  induction l with
  | nil => rfl
  | cons x l ih =>
    rw [List.map_cons, List.any_cons, ih, eqV_int]
    by_cases h : x = f
    · have m : f ∈ x :: l := by rw [h]; exact List.mem_cons_self ..
      rw [decide_eq_true h, decide_eq_true m]
      rfl
    · rw [decide_eq_false h, Bool.false_or]
      by_cases c : f ∈ l
      · rw [decide_eq_true c, decide_eq_true (List.mem_cons_of_mem _ c)]
      · rw [decide_eq_false c, decide_eq_false (fun z => by rcases List.mem_cons.mp z with e | e; exact h e.symm; exact c e)]
theorem flats (l : List Int) : (l.map V.int).all flatV = true := by
  rw [List.all_eq_true]
  intro v hv
  obtain ⟨i, _, rfl⟩ := List.mem_map.mp hv
  rfl
theorem cut_take (l : List V) (j : Nat) (h : j ≤ l.length) : cutV l none (some (j : Int)) = l.take j := by
  unfold cutV
  rw [HT.sIx_none, HT.sIx_nat, List.drop_zero, Nat.sub_zero, Nat.min_eq_left h]
theorem cut_drop (l : List V) (j : Nat) (h : j ≤ l.length) : cutV l (some (j : Int)) none = l.drop j := by
  unfold cutV
  rw [HT.sIx_none, HT.sIx_nat, Nat.min_eq_left h]
  refine List.take_of_length_le ?_
  rw [List.length_drop]
  omega
theorem at_ints {l : List Int} {j : Nat} {f : Int} (h : l[j]? = some f) : (l.map V.int)[j]? = some (.int f) := by
  rw [List.getElem?_map, h]
  rfl
theorem not_ints {l : List Int} {j : Nat} {f : Int} (h : ∀ m, m < j → l[m]? ≠ some f) : ∀ (m : Nat) (z : V), m < j → (l.map V.int)[m]? = some z → eqV z (.int f) = false := fun m z hm e => by
  rw [List.getElem?_map] at e
  obtain ⟨i, hi, rfl⟩ := Option.map_eq_some_iff.mp e
  rw [eqV_int]
  exact decide_eq_false fun c => h m hm (c ▸ hi)
/-! ### _gone_through -/
structure Row where
  s : Addr
  w : Addr
  m : AM
  way : List Int
def RowAt (H : Hp) (r : Row) : Prop := H r.s = some (.tup [.ref r.m.1, .ref r.w]) ∧ H r.w = some (.lst (r.way.map V.int))
/-- rows that were made behind H0, no way of them in two -/
structure RowsAt (H0 H : Hp) (rows : List Row) (ms : List AM) (ways : List (List Int)) : Prop where
  at_ : ∀ r ∈ rows, RowAt H r
  new : ∀ r ∈ rows, H0 r.w = none ∧ H0 r.s = none
  nd : (rows.map (·.w)).Nodup
  ms : rows.map (·.m) = ms
  ways : rows.map (·.way) = ways
theorem RowsAt.same {H0 H H' : Hp} {rows : List Row} {ms : List AM} {ways : List (List Int)} (R : RowsAt H0 H rows ms ways) (s : Same H H') : RowsAt H0 H' rows ms ways :=
  ⟨fun r hr => ⟨s _ _ (R.at_ r hr).1, s _ _ (R.at_ r hr).2⟩, R.new, R.nd, R.ms, R.ways⟩
def mvs (ms : List AM) : List Mv := ms.map (·.2)
theorem RowsAt.snoc {H0 H H' : Hp} {rows : List Row} {ms : List AM} {ways : List (List Int)} {r : Row} (R : RowsAt H0 H rows ms ways) (s : ∀ x ∈ rows, RowAt H x → RowAt H' x) (hr : RowAt H' r) (h0 : H0 r.w = none) (h1 : H0 r.s = none) (hw : ∀ x ∈ rows, x.w ≠ r.w) :
    RowsAt H0 H' (rows ++ [r]) (ms ++ [r.m]) (ways ++ [r.way]) := by
  refine ⟨fun x hx => ?_, fun x hx => ?_, ?_, by rw [List.map_append, R.ms]; rfl, by rw [List.map_append, R.ways]; rfl⟩
  · rcases List.mem_append.mp hx with hx | hx
    · exact s x hx (R.at_ x hx)
    · rw [List.mem_singleton.mp hx]
      exact hr
  · rcases List.mem_append.mp hx with hx | hx
    · exact R.new x hx
    · rw [List.mem_singleton.mp hx]
      exact ⟨h0, h1⟩
  · rw [List.map_append]
    refine List.nodup_append.mpr ⟨R.nd, List.nodup_cons.mpr ⟨fun z => (nomatch z), List.nodup_nil⟩, fun a ha b hb => ?_⟩
    obtain ⟨x, hx, rfl⟩ := List.mem_map.mp ha
    rw [List.mem_singleton.mp hb]
    exact hw x hx
def sp_gone_through (K : PySem.W.Frag) : Sp := fun vs H Q _ => ∃ (d p : Addr) (t : List (Int × Int)) (ms : List AM), vs = [.ref d, .ref p] ∧ H d = some (.dK (kvT t)) ∧ H p = some (.lst (refsA ms)) ∧ (∀ x ∈ ms, MvAt H x.1 x.2) ∧ Fine t ∧ t.length + ms.length ≤ 800 ∧
  ∀ H' r d' q' rows, Same H H' → H d' = none → H q' = none → H' r = some (.tup [.ref d', .ref q']) → H' d' = some (.dK (kvT (foldT t (mvs ms)))) → H' q' = some (.lst (rows.map fun x => V.ref x.s)) → RowsAt H H' rows ms (stepsT t (mvs ms)) → Q (.ref r) H'
theorem foldT_take {t : List (Int × Int)} {ms : List AM} {i : Nat} {x : AM} (h : ms[i]? = some x) : foldT t (mvs (ms.take (i + 1))) = stepT (foldT t (mvs (ms.take i))) x.2 ∧ stepsT t (mvs (ms.take (i + 1))) = stepsT t (mvs (ms.take i)) ++ [stepW (foldT t (mvs (ms.take i))) x.2] := by
  unfold mvs
  rw [List.take_add_one, h, List.map_append, foldT_append, stepsT_append]
  exact ⟨rfl, rfl⟩
theorem rows_snoc {H0 H2 H6 : Hp} {rows : List Row} {ms : List AM} {ways : List (List Int)} {r : Row} {q' : Addr} {ys : List V} (hq : H2 q' = some (.lst (rows.map fun x => V.ref x.s))) (R : RowsAt H0 H2 rows ms ways)
    (kl : ∀ b xs, H2 b = some (.lst xs) → H6 b = some (.lst xs)) (kt : ∀ b xs, H2 b = some (.tup xs) → H6 b = some (.tup xs)) (hw : H6 r.w = some (.lst (r.way.map V.int))) (hr : H6 r.s = some (.tup [.ref r.m.1, .ref r.w]))
    (nw : H2 r.w = none) (n0 : H0 r.w = none) (n1 : H0 r.s = none) : RowsAt H0 (upd H6 q' (.lst ys)) (rows ++ [r]) (ms ++ [r.m]) (ways ++ [r.way]) := by
  have c0 : r.w ≠ q' := fun e => by rw [e, hq] at nw; cases nw
  refine R.snoc (fun x hx h => ?_) ⟨?_, (upd_ne c0).trans hw⟩ n0 n1 (fun x hx e => ?_)
  · have c : x.w ≠ q' := fun e => by
      have h2 := h.2
      rw [e, hq] at h2
      have m : V.ref x.s ∈ rows.map (fun x => V.ref x.s) := List.mem_map.mpr ⟨x, hx, rfl⟩
      rw [HO.lst.inj (Option.some.inj h2)] at m
      obtain ⟨_, _, z⟩ := List.mem_map.mp m
      cases z
    exact ⟨(upd_ne (ne_of h.1 hq fun z => nomatch z)).trans (kt _ _ h.1), (upd_ne c).trans (kl _ _ h.2)⟩
  · exact (upd_ne (ne_of hr (kl _ _ hq) fun z => nomatch z)).trans hr
  · have := (R.at_ x hx).2
    rw [e, nw] at this
    cases this
set_option maxHeartbeats 2000000 in
theorem ok_gone_through (T : Tx K mg) : FnOk P w K mg base CX0 2 T.a_gone_through T.d_gone_through ["ahead_of_all", "moves"] (sp_gone_through K) := by
  refine T.F_gone_through.ok sc_gone_through (fun vs H Q E h => ?_) (fun cdv A outer s H vs Q E hr h => ?_)
  · obtain ⟨d, p, t, ms, rfl, _⟩ := h
    rfl
  · obtain ⟨d, p, t, ms, rfl, hd, hp, hm, F, hz, q⟩ := h
    have hu := hu_of hr
    refine ⟨_, pss_cons (ps_set (i := 2) sc_gone_through.nd rfl (.inl rfl) (pe_callTy call_dictD (by rfl) T.m_dict (by decide +kernel) (pa_cons (pv 0) pa_nil)))
      (pss_cons (ps_set (i := 3) sc_gone_through.nd rfl (.inl rfl) (pe_lst pa_nil))
      (pss_cons (ps_for PassesOwn.never rfl (pi_list (pv 1)) (pg_name (i := 4) sc_gone_through.nd rfl (Or.inl rfl)) (pss_cons (ps_par (i := 5) (j := 6) (by rfl) sc_gone_through.nd rfl rfl (by decide) rfl rfl (pa_cons (pe_ix ix_tup (pv 4) pe_int (fun _ _ => rfl)) (pa_cons (pe_ix ix_tup (pv 4) pe_int (fun _ _ => rfl)) pa_nil)) (by rfl))
      (pss_cons (ps_set (i := 7) sc_gone_through.nd rfl (.inl rfl) (pe_call (ok_way_up T) (hr.mono (by decide)) (by rfl) T.g_way_up T.F_way_up.kp T.b_way_up .nil pass0 (pa_cons (pv 2) (pa_cons (pv 6) pa_nil))))
      (pss_one (ps_if (pt_cmpR op_in_seq (pv 5) (pv 7) (by rfl)) (pss_one (ps_expr (pe_bm PySem.F.plainAttrs_list PySem.F.slot_list_append PySem.F.type_list_append mt_append (pv 3) (pa_cons (pe_tup (pa_cons (pv 4) (pa_cons (pe_slice sl_list (pv 7) po_none (po_some (pe_op op_add (pe_bm PySem.F.plainAttrs_list PySem.F.slot_list_index PySem.F.type_list_index mt_index (pv 7) (pa_cons (pv 5) pa_nil)) pe_int))) pa_nil))) pa_nil)))) (pss_cons (ps_dput hu (pv 2) (pv 5) (pv 6) rfl)
      (pss_one (ps_expr (pe_bm PySem.F.plainAttrs_list PySem.F.slot_list_append PySem.F.type_list_append mt_append (pv 3) (pa_cons (pe_tup (pa_cons (pv 4) (pa_cons (pe_lst pa_nil) pa_nil))) pa_nil))))))))))
      (pss_one (ps_ret (pe_tup (pa_cons (pv 2) (pa_cons (pv 3) pa_nil))))))), ?_⟩
    rw [st_gone_through]
    refine ⟨_, rfl, d, _, rfl, .inl hd, fun d' nd' => ?_⟩
    have s1 := same_upd (o := HO.dK (kvT t)) nd'
    refine ⟨Nat.zero_le _, fun q' nq' => ?_⟩
    have s2 := s1.trans (same_upd (o := HO.lst []) nq')
    have dq : d' ≠ q' := fun e => by rw [← e, upd_same] at nq'; cases nq'
    have nq : H q' = none := by rw [upd_ne (fun e => dq e.symm)] at nq'; exact nq'
    walk_at "nm"
    refine ⟨_, rfl, p, rfl, ⟨_, SqL.of (s2 _ _ hp)⟩, for_list (K := K) (a := p) (xs := refsA ms) (fun i σ H2 => ∃ v4 v5 v6 v7 rows, σ = [some (.ref d), some (.ref p), some (.ref d'), some (.ref q'), v4, v5, v6, v7] ∧ Same H H2 ∧
        H2 d' = some (.dK (kvT (foldT t (mvs (ms.take i))))) ∧ H2 q' = some (.lst (rows.map fun x => V.ref x.s)) ∧ RowsAt H H2 rows (ms.take i) (stepsT t (mvs (ms.take i))))
      ⟨none, none, none, none, [], rfl, s2, (upd_ne dq).trans upd_same, upd_same, ⟨fun r hr => (nomatch hr), fun r hr => (nomatch hr), List.nodup_nil, rfl, rfl⟩⟩ (fun i σ H2 _ ⟨_, _, _, _, _, _, z, _⟩ => SqL.of (z _ _ hp)) ?_ ?_⟩
    · rintro i x σ H2 hi ⟨v4, v5, v6, v7, rows, rfl, s3, hd3, hq3, R⟩
      unfold refsA at hi
      rw [List.getElem?_map] at hi
      obtain ⟨z, hzi, rfl⟩ := Option.map_eq_some_iff.mp hi
      have il : i < ms.length := (List.getElem?_eq_some_iff.mp hzi).1
      have hz3 : MvAt H2 z.1 z.2 := s3 _ _ (hm z (List.mem_of_getElem? hzi))
      have hS3 := SqT.of (K := K) hz3
      have F3 : Fine (foldT t (mvs (ms.take i))) := F.fold
      have l3 : (foldT t (mvs (ms.take i))).length ≤ t.length + i := Nat.le_trans foldT_length (by unfold mvs; rw [List.length_map, List.length_take]; omega)
      have l4 := F3.small z.2.u
      obtain ⟨e1, e2⟩ := foldT_take (t := t) hzi
      rw [e1, e2, List.take_add_one, hzi]
      revert hd3 R F3 l3 l4
      generalize foldT t (mvs (ms.take i)) = ti
      intro hd3 R F3 l3 l4
      walk_at "rd"
      refine ⟨d', ti, z.2.u, wayOf ti z.2.u, rfl, hd3, F3.way _, by omega, fun H3 pw s4 npw hpw => ?_⟩
      have hq4 := s4 _ _ hq3
      walk_at "rd"
      refine ⟨pw, _, rfl, .inl (SqL.of hpw), rfl, flats _, _, rfl, ?_⟩
      rw [inV_ints]
      refine ite2 (fun c => ?_) (fun c => ?_)
      · have c := of_decide_eq_true c
        obtain ⟨j, j1, j2, j3, j4⟩ := upTo_at c
        refine ⟨_, rfl, .inl ⟨rfl, _, SqL.of hq4⟩, _, rfl, _, rfl, ?_⟩
        refine ⟨_, rfl, .inl ⟨rfl, _, SqL.of hpw⟩, _, rfl, pw, _, _, j, _, rfl, rfl, SqL.of hpw, rfl, flats _, at_ints j2, (eqV_int _ _).trans (decide_eq_true rfl), not_ints j3, _, _, rfl, rfl, _, rfl, pw, _, rfl, SqL.of hpw, fun w2 nw => ?_⟩
        have ew : cutV ((wayOf ti z.2.u).map V.int) none (some ((j : Int) + 1)) = (stepW ti z.2).map V.int := by
          unfold stepW
          rw [if_pos c, j4, List.map_take]
          exact cut_take _ (j + 1) (by rw [List.length_map]; exact j1)
        rw [ew]
        have s5 := same_upd (o := HO.lst ((stepW ti z.2).map V.int)) nw
        refine ⟨small1000 (by show 1 ≤ 1000; omega), fun r2 nr => ?_⟩
        have s6 := same_upd (o := HO.tup [.ref z.1, .ref w2]) nr
        have rl : rows.length = i := by rw [← List.length_map (f := (·.m)) (as := rows), R.ms, List.length_take]; omega
        refine ⟨q', _, _, rfl, rfl, s6 _ _ (s5 _ _ hq4), small1000 (by rw [List.length_map]; omega), ?_⟩
        have s7 := s4.trans (s5.trans s6)
        refine ⟨_, _, _, _, rows ++ [⟨r2, w2, z, stepW ti z.2⟩], rfl, same_set (s3.trans s7) nq, ?_, by rw [upd_same, List.map_append]; rfl,
          rows_snoc (r := ⟨r2, w2, z, stepW ti z.2⟩) hq3 R (fun b xs e => s7 _ _ e) (fun b xs e => s7 _ _ e) (s6 _ _ upd_same) upd_same (s4.free nw) ((s3.trans s4).free nw) ((s3.trans (s4.trans s5)).free nr)⟩
        rw [upd_ne dq, show stepT ti z.2 = ti from if_pos c]
        exact s7 _ _ hd3
      · have c : ¬ z.2.f ∈ wayOf ti z.2.u := fun e => c (decide_eq_true e)
        refine ⟨_, rfl, _, rfl, _, rfl, d', _, rfl, DPut.k (k := Sum.inl z.2.f) (s4 _ _ hd3) (small1000 (by rw [kvT_length]; omega)), ?_⟩
        rw [putK_kvT, show putT ti z.2.f z.2.u = stepT ti z.2 from (if_neg c).symm]
        have kd : ∀ b o, H3 b = some o → b ≠ d' → upd H3 d' (.dK (kvT (stepT ti z.2))) b = some o := fun b o e n => (upd_ne n).trans e
        have hq5 := kd _ _ hq4 fun e => dq e.symm
        refine ⟨_, rfl, .inl ⟨rfl, _, SqL.of hq5⟩, _, rfl, Nat.zero_le _, fun w2 nw => ?_⟩
        have s5 := same_upd (o := HO.lst []) nw
        refine ⟨small1000 (by show 1 ≤ 1000; omega), fun r2 nr => ?_⟩
        have s6 := same_upd (o := HO.tup [.ref z.1, .ref w2]) nr
        have s7 := s5.trans s6
        have rl : rows.length = i := by rw [← List.length_map (f := (·.m)) (as := rows), R.ms, List.length_take]; omega
        refine ⟨q', _, _, rfl, rfl, s7 _ _ hq5, small1000 (by rw [List.length_map]; omega), ?_⟩
        have fw : H3 w2 = none := by rw [upd_ne (fun e => by rw [e, upd_same] at nw; cases nw)] at nw; exact nw
        have fr : H3 r2 = none := by
          have z := s5.free nr
          rw [upd_ne (fun e => by rw [e, upd_same] at z; cases z)] at z
          exact z
        have ew : stepW ti z.2 = [] := if_neg c
        refine ⟨_, _, _, _, rows ++ [⟨r2, w2, z, stepW ti z.2⟩], rfl, same_set (fun b o e => ?_) nq, ?_, by rw [upd_same, List.map_append]; rfl,
          rows_snoc (r := ⟨r2, w2, z, stepW ti z.2⟩) hq3 R (fun b xs e => s7 _ _ (kd _ _ (s4 _ _ e) (ne_of e hd3 fun z => nomatch z))) (fun b xs e => s7 _ _ (kd _ _ (s4 _ _ e) (ne_of e hd3 fun z => nomatch z))) ?_ upd_same (s4.free fw) ((s3.trans s4).free fw) ((s3.trans s4).free fr)⟩
        · exact s7 _ _ (kd _ _ (s4 _ _ (s3 _ _ e)) (ne_of_none e nd'))
        · rw [upd_ne dq]
          exact s7 _ _ upd_same
        · rw [ew]
          exact s6 _ _ upd_same
    · rintro σ H2 ⟨v4, v5, v6, v7, rows, rfl, s3, hd3, hq3, R⟩
      rw [show (refsA ms).length = ms.length from List.length_map .., List.take_length] at *
      walk_at "rd"
      refine fun r nr => ?_
      have s4 := same_upd (o := HO.tup [.ref d', .ref q']) nr
      exact q _ r d' q' rows (s3.trans s4) nd' nq upd_same (s4 _ _ hd3) (s4 _ _ hq3) (R.same s4)
/-! ### Log.tree, Log.steps -/
def Told (S : LogS) (ms : List AM) : Prop := ms.Perm S.kept ∧ Rising (·.2) ms
theorem RowsAt.from {H0 H1 H : Hp} {rows : List Row} {ms : List AM} {ways : List (List Int)} (R : RowsAt H1 H rows ms ways) (s : Same H0 H1) : RowsAt H0 H rows ms ways :=
  ⟨R.at_, fun r hr => ⟨s.free (R.new r hr).1, s.free (R.new r hr).2⟩, R.nd, R.ms, R.ways⟩
def sp_Log_tree (T : Tx K mg) : Sp := fun vs H Q _ => ∃ (A : LogA) (S : LogS), vs = [.ref A.l] ∧ LogAt T.o_Log H A S ∧ S.base.length + S.kept.length ≤ 800 ∧
  ∀ H' p ms, Same H H' → H p = none → H' p = some (.dK (kvT (foldT S.base (mvs ms)))) → Told S ms → Q (.ref p) H'
set_option maxHeartbeats 1000000 in
theorem ok_Log_tree (T : Tx K mg) : FnOk P w K mg base CX0 3 T.a_Log_tree T.d_Log_tree ["self"] (sp_Log_tree T) := by
  refine T.F_Log_tree.ok sc_Log_tree (fun vs H Q E h => ?_) (fun cdv A outer s H vs Q E hr h => ?_)
  · obtain ⟨A, S, rfl, _⟩ := h
    rfl
  · obtain ⟨A, S, rfl, L, hl, q⟩ := h
    refine ⟨_, pss_cons (ps_asg (pe_call (ok_gone_through T) (hr.mono (by decide)) (by rfl) T.g_gone_through T.F_gone_through.kp T.b_gone_through .nil pass0 (pa_cons (pe_fld (pv 0) rfl) (pa_cons (pe_meth0 (pv 0) T.cl_Log T.mt_Log_moves (ok_Log_moves T) (hr.mono (by decide)) T.b_Log_moves .nil pass0) pa_nil))) (pg_tup (by rfl) (pgs_cons (pg_name (i := 1) sc_Log_tree.nd rfl (Or.inl rfl)) (pgs_cons (pg_name (i := 2) sc_Log_tree.nd rfl (Or.inl rfl)) pgs_nil))))
      (pss_one (ps_ret (pv 1))), ?_⟩
    rw [st_Log_tree]
    have hi := L.ins
    walk_at "rq"
    refine ⟨A.l, A.dx, _, rfl, hi, rfl, A, S, rfl, L, by omega, fun H1 p ms s1 np hp perm rise => ?_⟩
    refine ⟨A.d0, p, S.base, ms, rfl, s1 _ _ L.dict0, hp, fun x hx => s1 _ _ (L.mv x (perm.mem_iff.mp hx)), L.fine, by rw [perm.length_eq]; exact hl, fun H2 r d q2 rows s2 nd nq hr2 hd hq R => ?_⟩
    refine ⟨r, _, rfl, SqT.of hr2, rfl, _, _, rfl, _, _, rfl, rfl, _, rfl, ?_⟩
    exact q _ _ ms (s1.trans s2) (s1.free nd) hd ⟨perm, rise⟩
def sp_Log_steps (T : Tx K mg) : Sp := fun vs H Q _ => ∃ (A : LogA) (S : LogS), vs = [.ref A.l] ∧ LogAt T.o_Log H A S ∧ S.base.length + S.kept.length ≤ 800 ∧
  ∀ H' p rows ms, Same H H' → H p = none → H' p = some (.lst (rows.map fun x => V.ref x.s)) → RowsAt H H' rows ms (stepsT S.base (mvs ms)) → Told S ms → Q (.ref p) H'
set_option maxHeartbeats 1000000 in
theorem ok_Log_steps (T : Tx K mg) : FnOk P w K mg base CX0 3 T.a_Log_steps T.d_Log_steps ["self"] (sp_Log_steps T) := by
  refine T.F_Log_steps.ok sc_Log_steps (fun vs H Q E h => ?_) (fun cdv A outer s H vs Q E hr h => ?_)
  · obtain ⟨A, S, rfl, _⟩ := h
    rfl
  · obtain ⟨A, S, rfl, L, hl, q⟩ := h
    refine ⟨_, pss_cons (ps_asg (pe_call (ok_gone_through T) (hr.mono (by decide)) (by rfl) T.g_gone_through T.F_gone_through.kp T.b_gone_through .nil pass0 (pa_cons (pe_fld (pv 0) rfl) (pa_cons (pe_meth0 (pv 0) T.cl_Log T.mt_Log_moves (ok_Log_moves T) (hr.mono (by decide)) T.b_Log_moves .nil pass0) pa_nil))) (pg_tup (by rfl) (pgs_cons (pg_name (i := 1) sc_Log_steps.nd rfl (Or.inl rfl)) (pgs_cons (pg_name (i := 2) sc_Log_steps.nd rfl (Or.inl rfl)) pgs_nil))))
      (pss_one (ps_ret (pv 2))), ?_⟩
    rw [st_Log_steps]
    have hi := L.ins
    walk_at "rq"
    refine ⟨A.l, A.dx, _, rfl, hi, rfl, A, S, rfl, L, by omega, fun H1 p ms s1 np hp perm rise => ?_⟩
    refine ⟨A.d0, p, S.base, ms, rfl, s1 _ _ L.dict0, hp, fun x hx => s1 _ _ (L.mv x (perm.mem_iff.mp hx)), L.fine, by rw [perm.length_eq]; exact hl, fun H2 r d q2 rows s2 nd nq hr2 hd hq R => ?_⟩
    refine ⟨r, _, rfl, SqT.of hr2, rfl, _, _, rfl, _, _, rfl, rfl, _, rfl, ?_⟩
    exact q _ _ rows ms (s1.trans s2) (s1.free nq) hq (R.from s1) ⟨perm, rise⟩
/-! ### Log.settle (under way) -/
theorem lf_put_settled (s : Int) (d0 d1 dk : Addr) : putF ("_settled" : Str) (.ref d1) (lf s d0 dk) = lf s d1 dk := by rfl
theorem lf_put_kept (s : Int) (d0 dk d1 : Addr) : putF ("_kept" : Str) (.ref d1) (lf s d0 dk) = lf s d0 d1 := by rfl
def laterOf (time : Int) (ms : List AM) : List AM := ms.filter fun p => decide (time ≤ p.2.t)
theorem later_snoc {time : Int} {ms : List AM} {i : Nat} {z : AM} (hz : ms[i]? = some z) : laterOf time (ms.take (i + 1)) = laterOf time (ms.take i) ++ (if time ≤ z.2.t then [z] else []) := by
  unfold laterOf
  rw [List.take_add_one, hz, List.filter_append]
  refine congrArg _ ?_
  by_cases c : time ≤ z.2.t
  · rw [if_pos c]
    exact List.filter_cons_of_pos (decide_eq_true c)
  · rw [if_neg c]
    exact List.filter_cons_of_neg (by rw [decide_eq_false c]; exact Bool.false_ne_true)
theorem later_not {time : Int} {ms : List AM} (hk : ms.Pairwise fun x y => ¬ SameKey x.2 y.2) {i : Nat} {z : AM} (hz : ms[i]? = some z) : ∀ x ∈ laterOf time (ms.take i), ¬ SameKey x.2 z.2 := by
  intro x hx
  obtain ⟨n, hn⟩ := List.mem_iff_getElem?.mp (List.mem_filter.mp hx).1
  have h1 := (List.getElem?_eq_some_iff.mp hn).1
  rw [List.length_take] at h1
  rw [List.getElem?_take_of_lt (by omega)] at hn
  obtain ⟨i1, e1⟩ := List.getElem?_eq_some_iff.mp hn
  obtain ⟨i2, e2⟩ := List.getElem?_eq_some_iff.mp hz
  have z := List.pairwise_iff_getElem.mp hk n i i1 i2 (by omega)
  rw [e1, e2] at z
  exact z
/-- a dict comprehension over a locked dict of tuple keys -/
theorem dc_keysT {d : Addr} {o : Obj} {kvs : List (List Key × V)} {g : TG} {tt : TT} {tk tv : TE} {vs : List Nat} {σ : L2.St} {H1 : Hp} {D : Addr} {Qd : Hp → Prop} (Pv : Nat → Hp → Prop) (h0 : Pv 0 (upd H1 D (.dT []))) (hl : ∀ i H, Pv i H → H d = some (.frz o (.dT kvs)))
    (hs : ∀ i k v (q : Addr) H, kvs[i]? = some (k, v) → H q = some (.tup (k.map kV)) → Pv i H → g (.ref q) (wipe σ vs) H fun σ2 H2 => wipe σ2 vs = wipe σ vs ∧ tt σ2 H2 fun b H3 =>
      if b = true then tk σ2 H3 fun y H4 => tv σ2 H4 fun z H5 => ∃ H6, DPut H5 D y z H6 ∧ Pv (i + 1) H6 else Pv (i + 1) H3) (hd : ∀ H, Pv kvs.length H → Qd H) :
    ∃ W : Nat → Nat → Hp → Prop, (∃ m, W 0 m (upd H1 D (.dT []))) ∧ ∀ i m H, W i m H →
      ((Itkt d o kvs).stop i H ∧ Qd H) ∨ ((Itkt d o kvs).go i H ∧ ∃ Nx : Hp → Prop, (∀ H', Nx H' → ∃ m', m' < m ∧ W (i + 1) m' H') ∧ ∀ x H', (Itkt d o kvs).yld i H x H' → g x (wipe σ vs) H' fun σ2 H2 => wipe σ2 vs = wipe σ vs ∧ tt σ2 H2 fun b H3 =>
        if b = true then tk σ2 H3 fun y H4 => tv σ2 H4 fun z H5 => ∃ H6, DPut H5 D y z H6 ∧ Nx H6 else Nx H3) := by
  refine ⟨fun i m H => m = kvs.length - i ∧ i ≤ kvs.length ∧ Pv i H, ⟨kvs.length, by simp, Nat.zero_le _, h0⟩, ?_⟩
  rintro i m H ⟨rfl, hi, p⟩
  have q := hl i H p
  by_cases hlt : i < kvs.length
  · refine .inr ⟨⟨q, hlt⟩, Pv (i + 1), fun H' p' => ⟨kvs.length - (i + 1), by omega, rfl, hlt, p'⟩, fun x H' y => ?_⟩
    obtain ⟨e, k, v, b, ek, rfl, hb⟩ := y
    subst e
    exact hs i k v b _ ek hb p
  · have e : i = kvs.length := by omega
    subst e
    exact .inl ⟨⟨q, Nat.le_refl _⟩, hd H p⟩
def goneOf (time : Int) (ms : List AM) : List AM := ms.filter fun p => decide (p.2.t < time)
theorem gone_snoc {time : Int} {ms : List AM} {i : Nat} {z : AM} (hz : ms[i]? = some z) : goneOf time (ms.take (i + 1)) = goneOf time (ms.take i) ++ (if z.2.t < time then [z] else []) := by
  unfold goneOf
  rw [List.take_add_one, hz, List.filter_append]
  refine congrArg _ ?_
  by_cases c : z.2.t < time
  · rw [if_pos c]
    exact List.filter_cons_of_pos (decide_eq_true c)
  · rw [if_neg c]
    exact List.filter_cons_of_neg (by rw [decide_eq_false c]; exact Bool.false_ne_true)
def LogS.settle (S : LogS) (time : Int) (ms : List AM) : LogS := if time ≤ S.since then S else ⟨time, foldT S.base (mvs (goneOf time ms)), laterOf time S.kept⟩
def sp_Log_settle (T : Tx K mg) : Sp := fun vs H Q _ => ∃ (A : LogA) (S : LogS) (time : Int), vs = [.ref A.l, .int time] ∧ LogAt T.o_Log H A S ∧ S.base.length + S.kept.length ≤ 800 ∧
  ∀ H' d0 dk ms, (S.since < time → Told S ms) → (∀ b o, H b = some o → b ≠ A.l → H' b = some o) → (d0 = A.d0 ∨ H d0 = none) → (dk = A.dk ∨ H dk = none) → LogAt T.o_Log H' ⟨A.l, A.dx, d0, dk⟩ (S.settle time ms) → Q (.int (if time ≤ S.since then 0 else (goneOf time ms).length)) H'
set_option maxHeartbeats 1000000 in
theorem ok_Log_settle (T : Tx K mg) : FnOk P w K mg base CX0 3 T.a_Log_settle T.d_Log_settle ["self", "time"] (sp_Log_settle T) := by
  refine T.F_Log_settle.ok sc_Log_settle (fun vs H Q E h => ?_) (fun cdv A outer s H vs Q E hr h => ?_)
  · obtain ⟨A, S, time, rfl, _⟩ := h
    rfl
  · obtain ⟨A, S, time, rfl, L, hl, q⟩ := h
    have hu := hu_of hr
    refine ⟨_, pss_cons (ps_if (pt_cmpR op_le (pv 1) (pe_fld (pv 0) rfl) (nomark _)) (pss_one (ps_ret pe_int)) pss_nil)
      (pss_cons (ps_setLc (i := 2) (own := [("move", 4)]) (g := gName 4) rfl sc_Log_settle.nd rfl rfl (sw_true rfl rfl rfl (by decide +kernel)) (pi_list (pe_meth0 (pv 0) T.cl_Log T.mt_Log_moves (ok_Log_moves T) (hr.mono (by decide)) T.b_Log_moves .nil pass0)) (blkOk_by (own := [("move", 4)]) (N := ["self", "time", "gone", "_", "move", "told"]) (sc := defScope s_Log_settle) (by decide +kernel)) (fun _ _ _ _ _ => pg_name (i := 4) sc_Log_settle.nd rfl (Or.inl rfl)) (fun _ _ _ _ _ => pts_one (pt_cmpR op_lt (pe_ix (r := rIxT K) ix_tup (pv 4) pe_int (fun _ _ => rfl)) (pv 1) (nomark _))) (fun _ _ _ _ _ => pv 4))
      (pss_cons (ps_asg (pe_call (ok_gone_through T) (hr.mono (by decide)) (by rfl) T.g_gone_through T.F_gone_through.kp T.b_gone_through .nil pass0 (pa_cons (pe_fld (pv 0) rfl) (pa_cons (pv 2) pa_nil))) (pg_tup (by rfl) (pgs_cons (pg_fld (pv 0)) (pgs_cons (pg_name (i := 3) sc_Log_settle.nd rfl (Or.inl rfl)) pgs_nil))))
      (pss_cons (ps_fld (pv 0) (pe_lock (pe_dcT (own := [("told", 5)]) (g := gName 5) rfl sc_Log_settle.nd (pi_keys (pe_fld (pv 0) rfl)) (blkOk_by (own := [("told", 5)]) (N := ["self", "time", "gone", "_", "move", "told"]) (sc := defScope s_Log_settle) (by decide +kernel)) (fun _ _ _ _ _ => pg_name (i := 5) sc_Log_settle.nd rfl (Or.inl rfl)) (fun _ _ _ _ _ => pts_one (pt_cmpR op_ge (pe_ix (r := rIxT K) ix_tup (pv 5) pe_int (fun _ _ => rfl)) (pv 1) (nomark _))) (fun _ _ _ _ _ => pv 5) (fun _ _ _ _ _ => pe_dget hu (pe_fldK (K := K) rfl (pv 0) rfl) (pv 5) (fun _ _ => rfl)) hu)) rfl)
      (pss_cons (ps_fld (pv 0) (pv 1) rfl)
      (pss_one (ps_ret (pe_callB call_len_seq (by rfl) T.m_len PySem.boot_len (pa_cons (pv 2) pa_nil)))))))), ?_⟩
    rw [st_Log_settle]
    have hi := L.ins
    walk_at "rd"
    refine ite2 (fun c => ?_) (fun c => ?_)
    · have c : time ≤ S.since := of_decide_eq_true c
      walk_at "rd"
      have z := q H A.d0 A.dk [] (fun h => by omega) (fun b o h _ => h) (.inl rfl) (.inl rfl) (by unfold LogS.settle; rw [if_pos c]; exact L)
      rw [if_pos c] at z
      exact z
    · have c : ¬ time ≤ S.since := fun z => c (decide_eq_true z)
      walk_at "rq"
      refine ⟨A.l, A.dx, _, rfl, hi, rfl, A, S, rfl, L, by omega, fun H1 mo ms s1 nmo hmo perm rise => ?_⟩
      refine ⟨mo, rfl, ⟨_, SqL.of hmo⟩, fun D nD => ?_⟩
      have sD := fun o => same_upd (o := o) nD
      have lm : ms.length ≤ 800 := by rw [perm.length_eq]; omega
      have hm1 : ∀ x ∈ ms, MvAt H1 x.1 x.2 := fun x hx => s1 _ _ (L.mv x (perm.mem_iff.mp hx))
      refine lc_list (K := K) (a := mo) (xs := refsA ms) (fun i H2 => Same H1 H2 ∧ H2 D = some (.lst (refsA (goneOf time (ms.take i))))) ⟨sD _, upd_same⟩ (fun i H2 _ ⟨z, _⟩ => SqL.of (z _ _ hmo)) ?_ ?_
      · rintro i xr H2 hi ⟨s2, hD⟩
        unfold refsA at hi
        rw [List.getElem?_map] at hi
        obtain ⟨z, hz, rfl⟩ := Option.map_eq_some_iff.mp hi
        have hzS := SqT.of (K := K) (s2 _ _ (hm1 z (List.mem_of_getElem? hz)))
        have il := (List.getElem?_eq_some_iff.mp hz).1
        walk_at "rd"
        rw [gone_snoc hz]
        refine ite2 (fun c => ?_) (fun c => ?_)
        · have c : z.2.t < time := of_decide_eq_true c
          rw [if_pos c]
          walk_at "rd"
          refine ⟨_, hD, small1000 (by have h := List.length_filter_le (fun p : AM => decide (p.2.t < time)) (ms.take i); rw [List.length_take] at h; unfold refsA goneOf; rw [List.length_map]; omega), same_set s2 nD, ?_⟩
          rw [upd_same]
          unfold refsA
          rw [List.map_append]
          rfl
        · have c : ¬ z.2.t < time := fun k => c (decide_eq_true k)
          rw [if_neg c, List.append_nil]
          exact ⟨s2, hD⟩
      · rintro H2 ⟨s2, hD⟩
        rw [show (refsA ms).length = ms.length from List.length_map .., List.take_length] at hD
        have L2' := L.same (s1.trans s2)
        have lg : (goneOf time ms).length ≤ ms.length := List.length_filter_le _ _
        walk_at "rd"
        refine ⟨A.l, T.o_Log, A.dx, _, _, rfl, L2'.ins, T.cl_Log, T.n_Log_settled, lf_settled _ _ _, ?_⟩
        walk_at "rd"
        refine ⟨A.d0, D, S.base, goneOf time ms, rfl, L2'.dict0, hD, fun x hx => s2 _ _ (hm1 x ((List.mem_filter.mp hx).1)), L.fine, by have := perm.length_eq; omega, fun H3 r d q2 rows s3 nd nq hr2 hd3 hq R => ?_⟩
        have hrS := SqT.of (K := K) hr2
        have s13 := s1.trans (s2.trans s3)
        have L3 := L.same s13
        walk_at "rd"
        refine ⟨A.l, T.o_Log, A.dx, _, rfl, L3.ins, T.cl_Log, T.n_Log_settled, by show 3 < 1000; omega, ?_⟩
        walk_at "rd"
        rw [lf_put_settled]
        have hi4 : upd H3 A.l (.ins T.o_Log A.dx (lf S.since d A.dk)) A.l = some (.ins T.o_Log A.dx (lf S.since d A.dk)) := upd_same
        have k4 : ∀ b o, H3 b = some o → b ≠ A.l → upd H3 A.l (.ins T.o_Log A.dx (lf S.since d A.dk)) b = some o := fun b o e n => (upd_ne n).trans e
        generalize upd H3 A.l (.ins T.o_Log A.dx (lf S.since d A.dk)) = H4 at hi4 k4 ⊢
        have hdk4 := k4 _ _ L3.dictk (ne_of L3.dictk L3.ins fun z => nomatch z)
        refine ⟨A.dk, _, hdk4, trivial, fun od => ?_⟩
        have hf5 : upd H4 A.dk (.frz od (.dT (kvK S.kept))) A.dk = some (.frz od (.dT (kvK S.kept))) := upd_same
        have k5 : ∀ b o, H4 b = some o → b ≠ A.dk → upd H4 A.dk (.frz od (.dT (kvK S.kept))) b = some o := fun b o e n => (upd_ne n).trans e
        have n5 : ∀ b, upd H4 A.dk (.frz od (.dT (kvK S.kept))) b = none → b ≠ A.dk ∧ H4 b = none := fun b e => by
          have c : b ≠ A.dk := fun z => by rw [z, upd_same] at e; cases e
          rw [upd_ne c] at e
          exact ⟨c, e⟩
        have hi5 := k5 _ _ hi4 (ne_of hi4 hdk4 fun z => nomatch z)
        generalize upd H4 A.dk (.frz od (.dT (kvK S.kept))) = H5 at hf5 k5 n5 hi5 ⊢
        refine ⟨_, rfl, A.l, T.o_Log, A.dx, _, _, rfl, hi5, T.cl_Log, T.n_Log_kept, lf_kept .., A.dk, od, rfl, .inr ⟨kvK S.kept, hf5, fun E nE => dc_keysT (fun i H6 => Same H5 H6 ∧ H6 E = some (.dT (kvK (laterOf time (S.kept.take i))))) ⟨same_upd nE, upd_same⟩ (fun i H6 z => z.1 _ _ hf5) ?_ ?_⟩⟩
        · rintro i k v qa H6 hki hqa ⟨s6, hE6⟩
          unfold kvK at hki
          rw [List.getElem?_map] at hki
          obtain ⟨z, hz, ez⟩ := Option.map_eq_some_iff.mp hki
          cases ez
          have zm := List.mem_of_getElem? hz
          have hqS := SqT.of (K := K) hqa
          have hi6 := s6 _ _ hi5
          have g : DGet H6 A.dk (.ref qa) (valV (kvK S.kept) (key2 (z.2.t, z.2.h))) := .inr ⟨kvK S.kept, _, qa, .inr ⟨od, s6 _ _ hf5⟩, rfl, hqa, rfl⟩
          rw [valV_kvK, find_key L.keys zm] at g
          have at0 : atI (List.map kV (key2 (z.2.t, z.2.h))) 0 = some (.int z.2.t) := atI_nat (j := 0) rfl
          rw [later_snoc hz]
          walk_at "rd"
          refine ite2 (fun c => ?_) (fun c => ?_)
          · have c : time ≤ z.2.t := of_decide_eq_true c
            rw [if_pos c]
            walk_at "rd"
            have l1 : (laterOf time (S.kept.take i)).length ≤ S.kept.length := by
              have h := List.length_filter_le (fun p : AM => decide (time ≤ p.2.t)) (S.kept.take i)
              rw [List.length_take] at h
              unfold laterOf
              omega
            refine ⟨_, DPut.t hE6 hqa (small1000 (by unfold kvK; rw [List.length_map]; omega)), same_set s6 nE, ?_⟩
            rw [upd_same]
            refine congrArg (fun z => some (HO.dT z)) (kvK_put ?_)
            refine List.find?_eq_none.mpr fun x hx => ?_
            rw [decide_eq_false (later_not L.keys hz x hx)]
            exact Bool.false_ne_true
          · have c : ¬ time ≤ z.2.t := fun k => c (decide_eq_true k)
            rw [if_neg c, List.append_nil]
            exact ⟨s6, hE6⟩
        · rintro H6 ⟨s6, hE6⟩
          rw [show (kvK S.kept).length = S.kept.length from List.length_map .., List.take_length] at hE6
          refine ⟨s6 _ _ hf5, ?_⟩
          obtain ⟨ek, e4⟩ := n5 E nE
          have el : E ≠ A.l := fun z => by rw [z, hi5] at nE; cases nE
          have hi7 : upd H6 A.dk (.dT (kvK S.kept)) A.l = some (.ins T.o_Log A.dx (lf S.since d A.dk)) := (upd_ne (ne_of hi4 hdk4 fun z => nomatch z)).trans (s6 _ _ hi5)
          have k7 : ∀ b o, H3 b = some o → b ≠ A.l → upd H6 A.dk (.dT (kvK S.kept)) b = some o := fun b o e n => by
            by_cases c : b = A.dk
            · subst c
              rw [upd_same, ← e, L3.dictk]
            · rw [upd_ne c]
              exact s6 _ _ (k5 _ _ (k4 _ _ e n) c)
          have hE7 : upd H6 A.dk (.dT (kvK S.kept)) E = some (.dT (kvK (laterOf time S.kept))) := (upd_ne ek).trans hE6
          generalize upd H6 A.dk (.dT (kvK S.kept)) = H7 at hi7 k7 hE7 ⊢
          walk_at "rd"
          refine ⟨A.l, T.o_Log, A.dx, _, rfl, hi7, T.cl_Log, T.n_Log_kept, by show 3 < 1000; omega, ?_⟩
          rw [lf_put_kept]
          have hi8 : upd H7 A.l (.ins T.o_Log A.dx (lf S.since d E)) A.l = some (.ins T.o_Log A.dx (lf S.since d E)) := upd_same
          walk_at "rd"
          refine ⟨A.l, T.o_Log, A.dx, _, rfl, hi8, T.cl_Log, T.n_Log_since, by show 3 < 1000; omega, ?_⟩
          rw [upd_upd, lf_put_since]
          have k9 : ∀ b o, H7 b = some o → b ≠ A.l → upd H7 A.l (.ins T.o_Log A.dx (lf time d E)) b = some o := fun b o e n => (upd_ne n).trans e
          have hi9 : upd H7 A.l (.ins T.o_Log A.dx (lf time d E)) A.l = some (.ins T.o_Log A.dx (lf time d E)) := upd_same
          generalize upd H7 A.l (.ins T.o_Log A.dx (lf time d E)) = H9 at k9 hi9 ⊢
          have k39 : ∀ b o, H3 b = some o → b ≠ A.l → H9 b = some o := fun b o e n => k9 _ _ (k7 _ _ e n) n
          have hD9 := k39 _ _ (s3 _ _ hD) (ne_of (s3 _ _ hD) L3.ins fun z => nomatch z)
          walk_at "rd"
          refine ⟨D, _, rfl, .inl (SqL.of hD9), ?_⟩
          rw [show (refsA (goneOf time ms)).length = (goneOf time ms).length from List.length_map ..]
          have z := q H9 d E ms (fun _ => ⟨perm, rise⟩) (fun b o e n => k39 _ _ (s13 _ _ e) n) (.inr ((s1.trans s2).free nd)) (.inr ?_) ?_
          · rw [if_neg c] at z
            exact z
          · refine Classical.byContradiction fun z => ?_
            obtain ⟨o, ho⟩ := Option.ne_none_iff_exists'.mp z
            have := k4 _ _ (s13 _ _ ho) el
            rw [e4] at this
            cases this
          · unfold LogS.settle
            rw [if_neg c]
            refine ⟨hi9, k39 _ _ hd3 (ne_of hd3 L3.ins fun z => nomatch z), k9 _ _ hE7 el, fun x hx => k39 _ _ (L3.mv x (List.mem_filter.mp hx).1) (ne_of (L3.mv x (List.mem_filter.mp hx).1) L3.ins fun z => nomatch z), L.fine.fold, L.keys.sublist (List.filter_sublist ..)⟩
theorem for_keys {d : Addr} {o : Obj} {kvs : List (Key × V)} {g : TG} {tb : TS} {D : Ends} {σ : L2.St} {H : Hp} (Pv : Nat → L2.St → Hp → Prop) (h0 : Pv 0 σ H) (hl : ∀ i σ H, Pv i σ H → H d = some (.frz o (.dK kvs)))
    (hs : ∀ i k v σ H, kvs[i]? = some (k, v) → Pv i σ H → g (kV k) σ H fun σ2 H2 => tb { D with nx := Pv (i + 1), ct := Pv (i + 1), bk := D.nx } σ2 H2) (hd : ∀ σ H, Pv kvs.length σ H → D.nx σ H) :
    ∃ W : Nat → Nat → L2.St → Hp → Prop, (∃ m, W 0 m σ H) ∧ ∀ i m σ H, W i m σ H →
      ((Itk d o kvs).stop i H ∧ D.nx σ H) ∨ ((Itk d o kvs).go i H ∧ ∃ N : L2.St → Hp → Prop, (∀ σ' H', N σ' H' → ∃ m', m' < m ∧ W (i + 1) m' σ' H') ∧ ∀ x H', (Itk d o kvs).yld i H x H' → g x σ H' fun σ2 H2 => tb { D with nx := N, ct := N, bk := D.nx } σ2 H2) := by
  refine ⟨fun i m σ H => m = kvs.length - i ∧ i ≤ kvs.length ∧ Pv i σ H, ⟨kvs.length, by simp, Nat.zero_le _, h0⟩, ?_⟩
  rintro i m σ H ⟨rfl, hi, p⟩
  have q := hl i σ H p
  by_cases hlt : i < kvs.length
  · refine .inr ⟨⟨q, hlt⟩, Pv (i + 1), fun σ' H' p' => ⟨kvs.length - (i + 1), by omega, rfl, hlt, p'⟩, fun x H' y => ?_⟩
    obtain ⟨e, k, v, ek, rfl⟩ := y
    subst e
    exact hs i k v σ _ ek p
  · have e : i = kvs.length := by omega
    subst e
    exact .inl ⟨⟨q, Nat.le_refl _⟩, hd σ H p⟩
theorem kvT_get {t : List (Int × Int)} {i : Nat} {k : Key} {v : V} (h : (kvT t)[i]? = some (k, v)) : ∃ p, t[i]? = some p ∧ k = .inl p.1 ∧ v = .int p.2 := by
  unfold kvT at h
  rw [List.getElem?_map] at h
  cases e : t[i]? with
  | none =>
    rw [e] at h
    cases h
  | some p =>
    rw [e] at h
    cases h
    exact ⟨p, rfl, rfl, rfl⟩
theorem upd_back {H : Hp} {d : Addr} {o u : HO} (h : H d = some u) : upd (upd H d o) d u = H := by
  rw [upd_upd]
  funext b
  by_cases e : b = d
  · subst e
    rw [upd_same, h]
  · rw [upd_ne e]
/-! ### _law_whole, of a number -/
def sp_law_whole (K : PySem.W.Frag) : Sp := fun vs H Q _ => ∃ i : Int, vs = [.int i] ∧ Q (.bl true) H
theorem ok_law_whole (T : Tx K mg) : FnOk P w K mg base CX0 1 T.a_law_whole T.d_law_whole ["_law_found"] (sp_law_whole K) := by
  refine T.F_law_whole.ok sc_law_whole (fun vs H Q E h => ?_) (fun cdv A outer s H vs Q E hr h => ?_)
  · obtain ⟨i, rfl, _⟩ := h
    rfl
  · obtain ⟨i, rfl, q⟩ := h
    refine ⟨_, pss_one (ps_ret (pe_and (pe_callB call_isi (by rfl) T.m_isinstance (by decide +kernel) (pa_cons (pv 0) (pa_cons (pe_bltn (v := .ty "int") (by rfl) T.m_int (by decide +kernel) rfl) pa_nil))) (pe_one (pe_not (pe_callB call_isi (by rfl) T.m_isinstance (by decide +kernel) (pa_cons (pv 0) (pa_cons (pe_bltn (v := .ty "bool") (by rfl) T.m_bool (by decide +kernel) rfl) pa_nil))))))), ?_⟩
    walk_at "rd"
    exact q
/-! ### _law_same_tree: of two that are the same -/
def sp_law_same_tree (K : PySem.W.Frag) : Sp := fun vs H Q _ => ∃ (a b : Addr) (t u : List (Int × Int)), vs = [.ref a, .ref b] ∧ H a = some (.dK (kvT t)) ∧ H b = some (.dK (kvT u)) ∧ a ≠ b ∧ t.length = u.length ∧ (u.map (·.1)).Nodup ∧ (∀ p ∈ u, look t p.1 = some p.2) ∧ Q (.bl true) H
set_option maxHeartbeats 1000000 in
theorem ok_law_same_tree (T : Tx K mg) : FnOk P w K mg base CX0 2 T.a_law_same_tree T.d_law_same_tree ["_law_found", "_law_due"] (sp_law_same_tree K) := by
  refine T.F_law_same_tree.ok sc_law_same_tree (fun vs H Q E h => ?_) (fun cdv A outer s H vs Q E hr h => ?_)
  · obtain ⟨a, b, t, u, rfl, _⟩ := h
    rfl
  · obtain ⟨a, b, t, u, rfl, ha, hb, hab, hl, hnd, hlk, q⟩ := h
    have hu := hu_of hr
    refine ⟨_, pss_cons (ps_if (PW.pt (pw_or (pt_not (pt_val (pe_callB call_isi (by rfl) T.m_isinstance (by decide +kernel) (pa_cons (pv 0) (pa_cons (pe_bltn (v := .ty "dict") (by rfl) T.m_dict (by decide +kernel) rfl) pa_nil))))) (pw_or1 (pt_cmpR op_ne (pe_callB call_lenD (by rfl) T.m_len PySem.boot_len (pa_cons (pv 0) pa_nil)) (pe_callB call_lenD (by rfl) T.m_len PySem.boot_len (pa_cons (pv 1) pa_nil)) (nomark _))))) (pss_one (ps_ret pe_bl)) pss_nil)
      (pss_cons (ps_lock (ps_for PassesOwn.never rfl (pi_keys (pv 1)) (pg_name (i := 2) sc_law_same_tree.nd rfl (Or.inl rfl)) (pss_one (ps_if (PW.pt (pw_or (pt_cmp (pc_dnotin hu (pv 2) (pv 0))) (pw_or (pt_not (pt_val (pe_call (ok_law_whole T) (hr.mono (by decide)) (by rfl) T.g_law_whole T.F_law_whole.kp T.b_law_whole .nil pass0 (pa_cons (pe_dget hu (pv 0) (pv 2) (fun _ _ => rfl)) pa_nil)))) (pw_or1 (pt_cmpR op_ne (pe_dget hu (pv 0) (pv 2) (fun _ _ => rfl)) (pe_dget hu (pv 1) (pv 2) (fun _ _ => rfl)) (nomark _)))))) (pss_one (ps_ret pe_bl)) pss_nil))))
      (pss_cons (ps_lock (ps_for PassesOwn.never rfl (pi_keys (pv 0)) (pg_name (i := 2) sc_law_same_tree.nd rfl (Or.inl rfl)) (pss_one (ps_if (pt_not (pt_val (pe_call (ok_law_whole T) (hr.mono (by decide)) (by rfl) T.g_law_whole T.F_law_whole.kp T.b_law_whole .nil pass0 (pa_cons (pv 2) pa_nil)))) (pss_one (ps_ret pe_bl)) pss_nil))))
      (pss_one (ps_ret pe_bl)))), ?_⟩
    walk_at "rd"
    rw [kvT_length, kvT_length, hl, decide_eq_true rfl]
    refine iteF ?_
    refine ⟨b, _, hb, trivial, fun od => ?_⟩
    refine ⟨_, rfl, b, od, rfl, .inl ⟨kvT u, upd_same, for_keys (fun i σ H2 => ∃ v2, σ = [some (.ref a), some (.ref b), v2] ∧ H2 = upd H b (.frz od (.dK (kvT u)))) ⟨none, rfl, rfl⟩ (fun i σ H2 ⟨_, _, e⟩ => by rw [e, upd_same]) ?_ ?_⟩⟩
    · rintro i k v σ H2 hi ⟨v2, rfl, rfl⟩
      obtain ⟨p, hp, rfl, rfl⟩ := kvT_get hi
      have hk := hlk p (List.mem_of_getElem? hp)
      have ha2 : (upd H b (.frz od (.dK (kvT u)))) a = some (.dK (kvT t)) := by rw [upd_ne hab]; exact ha
      have g := DGet.k (k := Sum.inl p.1) ha2
      rw [valV_kvT, hk] at g
      have g2 : DGet (upd H b (.frz od (.dK (kvT u)))) b (kV (Sum.inl p.1)) ((look u p.1).map V.int) := .inl ⟨kvT u, Sum.inl p.1, .inr ⟨od, upd_same⟩, rfl, (valV_kvT p.1 u).symm⟩
      rw [mem_look hnd (List.mem_of_getElem? hp)] at g2
      refine ⟨_, rfl, _, rfl, a, _, rfl, g, _, rfl, ?_⟩
      walk_at "rd"
    · rintro σ H2 ⟨v2, rfl, rfl⟩
      refine ⟨upd_same, ?_⟩
      rw [upd_back hb]
      refine ⟨a, _, ha, trivial, fun oe => ?_⟩
      refine ⟨_, rfl, a, oe, rfl, .inl ⟨kvT t, upd_same, for_keys (fun i σ H2 => ∃ v2, σ = [some (.ref a), some (.ref b), v2] ∧ H2 = upd H a (.frz oe (.dK (kvT t)))) ⟨_, rfl, rfl⟩ (fun i σ H2 ⟨_, _, e⟩ => by rw [e, upd_same]) ?_ ?_⟩⟩
      · rintro i k v σ H2 hi ⟨v2, rfl, rfl⟩
        obtain ⟨p, hp, rfl, rfl⟩ := kvT_get hi
        walk_at "rd"
      · rintro σ H2 ⟨v2, rfl, rfl⟩
        refine ⟨upd_same, ?_⟩
        rw [upd_back ha]
        exact q
/-! ### _law_name -/
def someL : List Int := [1, 1000000000, 100000000000000000000, 1000000000000000000000000000000000, 100000000000000000000000000000000000000000000000, 1000000000000000000000000000000000000000000000000000000000]
abbrev N60 : Int := 1000000000000000000000000000000000000000000000000000000000000
def nameOf (c k : Int) : Int :=
  if c % 4 = 1 then N60 - k
  else if c % 4 = 2 then 1 + (c / 24 + k * someL.getD (c / 4 % 6).toNat 0) % N60
  else if c % 4 = 3 then 1 + 7 * k
  else if c / 224 % 2 = 1 ∧ k % 2 = 1 then N60 - k
  else 1 + k
theorem nameOf_pos {c k : Int} (h0 : 0 ≤ k) (h1 : k ≤ 200) : 1 ≤ nameOf c k := by
  unfold nameOf
  split
  · show 1 ≤ (1000000000000000000000000000000000000000000000000000000000000 : Int) - k
    omega
  · split
    · have := Int.emod_nonneg (c / 24 + k * someL.getD (c / 4 % 6).toNat 0) (show N60 ≠ 0 by decide)
      omega
    · split
      · omega
      · split
        · show 1 ≤ (1000000000000000000000000000000000000000000000000000000000000 : Int) - k
          omega
        · omega
theorem nameOf_le {c k : Int} (h0 : 0 ≤ k) (h1 : k ≤ 200) : nameOf c k ≤ N60 := by
  unfold nameOf
  split
  · show (1000000000000000000000000000000000000000000000000000000000000 : Int) - k ≤ 1000000000000000000000000000000000000000000000000000000000000
    omega
  · split
    · have := Int.emod_lt_of_pos (c / 24 + k * someL.getD (c / 4 % 6).toNat 0) (show (0 : Int) < N60 by decide)
      omega
    · split
      · show 1 + 7 * k ≤ 1000000000000000000000000000000000000000000000000000000000000
        omega
      · split
        · show (1000000000000000000000000000000000000000000000000000000000000 : Int) - k ≤ 1000000000000000000000000000000000000000000000000000000000000
          omega
        · show 1 + k ≤ 1000000000000000000000000000000000000000000000000000000000000
          omega
theorem someL_cases {j : Int} (h0 : 0 ≤ j) (h1 : j < 6) : someL.getD j.toNat 0 = 1 ∨ someL.getD j.toNat 0 = 1000000000 ∨ someL.getD j.toNat 0 = 100000000000000000000 ∨ someL.getD j.toNat 0 = 1000000000000000000000000000000000 ∨ someL.getD j.toNat 0 = 100000000000000000000000000000000000000000000000 ∨ someL.getD j.toNat 0 = 1000000000000000000000000000000000000000000000000000000000 := by
  have h : j = 0 ∨ j = 1 ∨ j = 2 ∨ j = 3 ∨ j = 4 ∨ j = 5 := by omega
  rcases h with rfl | rfl | rfl | rfl | rfl | rfl
  · exact .inl rfl
  · exact .inr (.inl rfl)
  · exact .inr (.inr (.inl rfl))
  · exact .inr (.inr (.inr (.inl rfl)))
  · exact .inr (.inr (.inr (.inr (.inl rfl))))
  · exact .inr (.inr (.inr (.inr (.inr rfl))))
theorem nameOf_inj {c k j : Int} (h0 : 0 ≤ k) (h1 : k ≤ 200) (g0 : 0 ≤ j) (g1 : j ≤ 200) (e : nameOf c k = nameOf c j) : k = j := by
  unfold nameOf at e
  by_cases c1 : c % 4 = 1
  · rw [if_pos c1, if_pos c1] at e
    omega
  rw [if_neg c1, if_neg c1] at e
  by_cases c2 : c % 4 = 2
  · rw [if_pos c2, if_pos c2] at e
    have hs := someL_cases (j := c / 4 % 6) (by omega) (by omega)
    have e' : (c / 24 + k * someL.getD (c / 4 % 6).toNat 0) % (1000000000000000000000000000000000000000000000000000000000000 : Int) = (c / 24 + j * someL.getD (c / 4 % 6).toNat 0) % 1000000000000000000000000000000000000000000000000000000000000 := by
      exact Int.add_left_cancel (a := 1) e
    generalize c / 24 = a at e'
    rcases hs with hs | hs | hs | hs | hs | hs <;> rw [hs] at e' <;> omega
  rw [if_neg c2, if_neg c2] at e
  by_cases c3 : c % 4 = 3
  · rw [if_pos c3, if_pos c3] at e
    omega
  rw [if_neg c3, if_neg c3] at e
  have hN : N60 = 1000000000000000000000000000000000000000000000000000000000000 := rfl
  by_cases ck : c / 224 % 2 = 1 ∧ k % 2 = 1
  · rw [if_pos ck] at e
    by_cases cj : c / 224 % 2 = 1 ∧ j % 2 = 1
    · rw [if_pos cj] at e
      omega
    · rw [if_neg cj] at e
      omega
  · rw [if_neg ck] at e
    by_cases cj : c / 224 % 2 = 1 ∧ j % 2 = 1
    · rw [if_pos cj] at e
      omega
    · rw [if_neg cj] at e
      omega
theorem p9 : (10 : Int) ^ Int.toNat 9 = 1000000000 := by decide +kernel
theorem p20 : (10 : Int) ^ Int.toNat 20 = 100000000000000000000 := by decide +kernel
theorem p33 : (10 : Int) ^ Int.toNat 33 = 1000000000000000000000000000000000 := by decide +kernel
theorem p47 : (10 : Int) ^ Int.toNat 47 = 100000000000000000000000000000000000000000000000 := by decide +kernel
theorem p57 : (10 : Int) ^ Int.toNat 57 = 1000000000000000000000000000000000000000000000000000000000 := by decide +kernel
def sp_law_name (K : PySem.W.Frag) : Sp := fun vs H Q _ => ∃ k c : Int, vs = [.int k, .int c] ∧ 0 ≤ k ∧ k ≤ 200 ∧ ∀ H', Same H H' → Q (.int (nameOf c k)) H'
set_option maxHeartbeats 1000000 in
theorem ok_law_name (T : Tx K mg) : FnOk P w K mg base CX0 1 T.a_law_name T.d_law_name ["_law_k", "_law_cell"] (sp_law_name K) := by
  refine T.F_law_name.ok sc_law_name (fun vs H Q E h => ?_) (fun cdv A outer s H vs Q E hr h => ?_)
  · obtain ⟨k, c, rfl, _⟩ := h
    rfl
  · obtain ⟨k, c, rfl, h0, h1, q⟩ := h
    have hp := p60
    refine ⟨_, pss_cons (ps_if (pt_cmpR op_eq (pe_op op_mod (pv 1) pe_int) pe_int (nomark _)) (pss_one (ps_ret (pe_op op_sub (pe_op op_pow pe_int pe_int) (pv 0)))) pss_nil)
      (pss_cons (ps_if (pt_cmpR op_eq (pe_op op_mod (pv 1) pe_int) pe_int (nomark _)) (pss_cons (ps_set (i := 2) sc_law_name.nd rfl (.inl rfl) (pe_lst (pa_cons pe_int (pa_cons (pe_op op_pow pe_int pe_int) (pa_cons (pe_op op_pow pe_int pe_int) (pa_cons (pe_op op_pow pe_int pe_int) (pa_cons (pe_op op_pow pe_int pe_int) (pa_cons (pe_op op_pow pe_int pe_int) pa_nil))))))))
      (pss_one (ps_ret (pe_op op_add pe_int (pe_op op_mod (pe_op op_add (pe_op op_fdiv (pv 1) pe_int) (pe_op op_mul (pv 0) (pe_ix ix_list (pv 2) (pe_op op_mod (pe_op op_fdiv (pv 1) pe_int) pe_int) (fun _ _ => rfl)))) (pe_op op_pow pe_int pe_int)))))) pss_nil)
      (pss_cons (ps_if (pt_cmpR op_eq (pe_op op_mod (pv 1) pe_int) pe_int (nomark _)) (pss_one (ps_ret (pe_op op_add pe_int (pe_op op_mul pe_int (pv 0))))) pss_nil)
      (pss_cons (ps_if (PW.pt (pw_and (pt_cmpR op_eq (pe_op op_mod (pe_op op_fdiv (pv 1) pe_int) pe_int) pe_int (nomark _)) (pw_and1 (pt_cmpR op_eq (pe_op op_mod (pv 0) pe_int) pe_int (nomark _))))) (pss_one (ps_ret (pe_op op_sub (pe_op op_pow pe_int pe_int) (pv 0)))) pss_nil)
      (pss_one (ps_ret (pe_op op_add pe_int (pv 0))))))), ?_⟩
    walk_at "rd"
    refine ite2 (fun c1 => ?_) (fun c1 => ?_)
    · walk_at "rd"
      have c1 := V.int.inj (of_decide_eq_true c1)
      have z := q H (Same.refl H)
      unfold nameOf at z
      rw [if_pos c1] at z
      exact z
    have c1 : ¬ c % 4 = 1 := fun z => c1 (decide_eq_true (congrArg V.int z))
    walk_at "rd"
    refine ite2 (fun c2 => ?_) (fun c2 => ?_)
    · have c2 : c % 4 = 2 := V.int.inj (of_decide_eq_true c2)
      walk_at "rd"
      intro p np
      have s1 := fun o => same_upd (o := o) np
      walk_at "rd"
      have hat : atI [V.int 1, V.int (10 ^ Int.toNat 9), V.int (10 ^ Int.toNat 20), V.int (10 ^ Int.toNat 33), V.int (10 ^ Int.toNat 47), V.int (10 ^ Int.toNat 57)] (c / 4 % 6) = some (V.int (someL.getD (c / 4 % 6).toNat 0)) := by
        have h : c / 4 % 6 = 0 ∨ c / 4 % 6 = 1 ∨ c / 4 % 6 = 2 ∨ c / 4 % 6 = 3 ∨ c / 4 % 6 = 4 ∨ c / 4 % 6 = 5 := by omega
        rcases h with h | h | h | h | h | h <;> rw [h]
        · exact atI_nat (j := 0) rfl
        · exact atI_nat (j := 1) (congrArg (fun z => some (V.int z)) p9)
        · exact atI_nat (j := 2) (congrArg (fun z => some (V.int z)) p20)
        · exact atI_nat (j := 3) (congrArg (fun z => some (V.int z)) p33)
        · exact atI_nat (j := 4) (congrArg (fun z => some (V.int z)) p47)
        · exact atI_nat (j := 5) (congrArg (fun z => some (V.int z)) p57)
      refine ⟨_, _, _, _, rfl, rfl, SqL.of upd_same, hat, ?_⟩
      walk_at "rd"
      have en : nameOf c k = 1 + (c / 24 + k * someL.getD (c / 4 % 6).toNat 0) % N60 := by
        unfold nameOf
        rw [if_neg c1, if_pos c2]
      rw [hp]
      show Q (V.int (1 + (c / 24 + k * someL.getD (c / 4 % 6).toNat 0) % N60)) _
      rw [← en]
      exact q _ (s1 _)
    have c2 : ¬ c % 4 = 2 := fun z => c2 (decide_eq_true (congrArg V.int z))
    walk_at "rd"
    refine ite2 (fun c3 => ?_) (fun c3 => ?_)
    · have c3 : c % 4 = 3 := V.int.inj (of_decide_eq_true c3)
      walk_at "rd"
      have z := q H (Same.refl H)
      unfold nameOf at z
      rw [if_neg c1, if_neg c2, if_pos c3] at z
      exact z
    have c3 : ¬ c % 4 = 3 := fun z => c3 (decide_eq_true (congrArg V.int z))
    walk_at "rd"
    have z := q H (Same.refl H)
    unfold nameOf at z
    rw [if_neg c1, if_neg c2, if_neg c3] at z
    refine ite2 (fun c4 => ?_) (fun c4 => ?_)
    · have c4 : c / 224 % 2 = 1 := V.int.inj (of_decide_eq_true c4)
      walk_at "rd"
      refine ite2 (fun c5 => ?_) (fun c5 => ?_)
      · have c5 : k % 2 = 1 := V.int.inj (of_decide_eq_true c5)
        walk_at "rd"
        rw [if_pos ⟨c4, c5⟩] at z
        rw [hp]
        exact z
      · have c5 : ¬ k % 2 = 1 := fun z => c5 (decide_eq_true (congrArg V.int z))
        walk_at "rd"
        rw [if_neg (fun z => c5 z.2)] at z
        exact z
    · have c4 : ¬ c / 224 % 2 = 1 := fun z => c4 (decide_eq_true (congrArg V.int z))
      walk_at "rd"
      rw [if_neg (fun z => c4 z.1)] at z
      exact z
/-! ### _law_way -/
def sp_law_way (K : PySem.W.Frag) : Sp := fun vs H Q _ => ∃ (d : Addr) (t : List (Int × Int)) (f : Int) (l : List Int), vs = [.ref d, .int f] ∧ H d = some (.dK (kvT t)) ∧ Way t f l ∧ l.length ≤ 900 ∧ ∀ H' p, Same H H' → H p = none → H' p = some (.lst (l.map V.int)) → Q (.ref p) H'
set_option maxHeartbeats 1000000 in
theorem ok_law_way (T : Tx K mg) : FnOk P w K mg base CX0 1 T.a_law_way T.d_law_way ["_law_tree", "_law_folder"] (sp_law_way K) := by
  refine T.F_law_way.ok sc_law_way (fun vs H Q E h => ?_) (fun cdv A outer s H vs Q E hr h => ?_)
  · obtain ⟨d, t, f, l, rfl, _⟩ := h
    rfl
  · obtain ⟨d, t, f, l, rfl, hd, hw, hl, q⟩ := h
    have hu := hu_of hr
    refine ⟨_, pss_cons (ps_set (i := 2) sc_law_way.nd rfl (.inl rfl) (pe_lst (pa_cons (pv 1) pa_nil)))
      (pss_cons (ps_while PassesOwn.never (pt_cmp (pc_din hu (pe_ix ix_list (pv 2) (pe_un un_neg pe_int) (fun _ _ => rfl)) (pv 0))) (pss_one (ps_expr (pe_bm PySem.F.plainAttrs_list PySem.F.slot_list_append PySem.F.type_list_append mt_append (pv 2) (pa_cons (pe_dget hu (pv 0) (pe_ix ix_list (pv 2) (pe_un un_neg pe_int) (fun _ _ => rfl)) (fun _ _ => rfl)) pa_nil)))))
      (pss_one (ps_ret (pv 2)))), ?_⟩
    walk_at "rd"
    intro p np
    have s0 := same_upd (o := HO.lst [V.int f]) np
    refine ⟨fun m σ H2 => ∃ pre x l', σ = [some (.ref d), some (.int f), some (.ref p)] ∧ Same H H2 ∧ H2 p = some (.lst ((pre.map V.int) ++ [V.int x])) ∧ Way t x l' ∧ pre ++ l' = l ∧ m = l'.length,
      ⟨_, [], f, l, rfl, s0, upd_same, hw, rfl, rfl⟩, ?_⟩
    rintro m σ H2 ⟨pre, x, l', rfl, s2, hp, hx, el, rfl⟩
    have hd2 := s2 _ _ hd
    refine ⟨_, rfl, _, rfl, p, _, _, _, rfl, rfl, SqL.of hp, atI_last _ _, _, rfl, d, _, rfl, DGet.k (k := Sum.inl x) hd2, _, rfl, ?_⟩
    rw [valV_kvT]
    cases hx with
    | stop h =>
      rw [h]
      refine iteF ?_
      refine ⟨_, rfl, ?_⟩
      refine q _ _ s2 np ?_
      rw [hp, ← el, List.map_append]
      rfl
    | @step _ u r h w =>
      rw [h]
      refine iteT ?_
      refine ⟨fun σ' H' => σ' = [some (.ref d), some (.int f), some (.ref p)] ∧ Same H H' ∧ H' p = some (.lst (((pre ++ [x]).map V.int) ++ [V.int u])), ?_, ?_⟩
      · rintro σ' H' ⟨e, s3, hp'⟩
        refine ⟨r.length, Nat.lt_succ_self _, pre ++ [x], u, r, e, s3, hp', w, ?_, rfl⟩
        rw [← el, List.append_assoc]
        rfl
      · have hlen : pre.length + 1 ≤ 900 := by
          have : (pre ++ x :: r).length = l.length := by rw [el]
          rw [List.length_append, List.length_cons] at this
          omega
        refine ⟨_, rfl, .inl ⟨rfl, _, SqL.of hp⟩, _, rfl, _, rfl, _, rfl, p, _, _, _, rfl, rfl, SqL.of hp, atI_last _ _, d, V.int u, rfl, ?_, p, _, _, rfl, rfl, hp, ?_, ?_⟩
        · have g := DGet.k (k := Sum.inl x) hd2
          rw [valV_kvT, h] at g
          exact g
        · refine small1000 ?_
          rw [List.length_append, List.length_map]
          show pre.length + 1 ≤ 1000
          omega
        · refine ⟨rfl, same_set s2 np, ?_⟩
          rw [upd_same, List.map_append]
          rfl
/-! ### _law_told -/
theorem while_split {α : Type} {p : α → Bool} : ∀ {l : List α} {j : Nat}, j ≤ l.length → (∀ i x, i < j → l[i]? = some x → p x = true) → (∀ x, l[j]? = some x → p x = false) → l.takeWhile p = l.take j ∧ l.dropWhile p = l.drop j
  | [], j, hj, _, _ => by
    rw [show j = 0 from Nat.le_zero.mp hj]
    exact ⟨rfl, rfl⟩
  | x :: l, 0, _, _, h2 => by
    have e := h2 x rfl
    rw [List.takeWhile_cons, List.dropWhile_cons, e]
    exact ⟨rfl, rfl⟩
  | x :: l, j + 1, hj, h1, h2 => by
    have e := h1 0 x (Nat.zero_lt_succ _) rfl
    obtain ⟨e1, e2⟩ := while_split (l := l) (j := j) (Nat.le_of_succ_le_succ hj) (fun i y hi hy => h1 (i + 1) y (Nat.succ_lt_succ hi) hy) (fun y hy => h2 y hy)
    rw [List.takeWhile_cons, List.dropWhile_cons, e, if_pos rfl, if_pos rfl, e1, e2]
    exact ⟨rfl, rfl⟩
def sp_law_told (K : PySem.W.Frag) : Sp := fun vs H Q _ => ∃ (p a : Addr) (ms : List AM) (m : Mv), vs = [.ref p, .ref a] ∧ H p = some (.lst (refsA ms)) ∧ (∀ x ∈ ms, MvAt H x.1 x.2) ∧ MvAt H a m ∧ ms.length ≤ 900 ∧
  ∀ H' r, Same H H' → H r = none → H' r = some (.lst (refsA (insM (·.2) ms (a, m)))) → Q (.ref r) H'
set_option maxHeartbeats 2000000 in
theorem ok_law_told (T : Tx K mg) : FnOk P w K mg base CX0 1 T.a_law_told T.d_law_told ["_law_moves", "_law_move"] (sp_law_told K) := by
  refine T.F_law_told.ok sc_law_told (fun vs H Q E h => ?_) (fun cdv A outer s H vs Q E hr h => ?_)
  · obtain ⟨p, a, ms, m, rfl, _⟩ := h
    rfl
  · obtain ⟨p, a, ms, m, rfl, hp, hm, ha, hl, q⟩ := h
    refine ⟨_, pss_cons (ps_set (i := 2) sc_law_told.nd rfl (.inl rfl) pe_int)
      (pss_cons (ps_while PassesOwn.never (PW.pt (pw_and (pt_cmpR op_lt (pv 2) (pe_callB call_len_seq (by rfl) T.m_len PySem.boot_len (pa_cons (pv 0) pa_nil)) (nomark _)) (pw_and1 (pt_cmpR (op_ltT hr.units0) (pe_slice sl_tup (pe_ix ix_list (pv 0) (pv 2) (fun _ _ => rfl)) po_none (po_some pe_int)) (pe_slice sl_tup (pv 1) po_none (po_some pe_int)) (nomark _))))) (pss_one (ps_set (i := 2) sc_law_told.nd rfl (.inl rfl) (pe_op op_add (pv 2) pe_int))))
      (pss_one (ps_ret (pe_op op_cat (pe_op op_cat (pe_slice sl_list (pv 0) po_none (po_some (pv 2))) (pe_lst (pa_cons (pv 1) pa_nil))) (pe_slice sl_list (pv 0) (po_some (pv 2)) po_none))))), ?_⟩
    rw [st_law_told]
    walk_at "rd"
    have el : (refsA ms).length = ms.length := List.length_map ..
    refine ⟨fun k σ H2 => ∃ j : Nat, σ = [some (.ref p), some (.ref a), some (.int j)] ∧ Same H H2 ∧ j ≤ ms.length ∧ k = ms.length - j ∧ ∀ i x, i < j → ms[i]? = some x → Ahead x.2 m, ⟨_, 0, rfl, Same.refl H, Nat.zero_le _, rfl, fun i x hi => nomatch hi⟩, ?_⟩
    rintro k σ H2 ⟨j, rfl, s2, hj, rfl, pre⟩
    have hp2 := s2 _ _ hp
    have ha2 : MvAt H2 a m := s2 _ _ ha
    have hpS := SqL.of (K := K) hp2
    have haS := SqT.of (K := K) ha2
    by_cases hlt : j < ms.length
    · have hx := List.getElem?_eq_getElem hlt
      have hmx : MvAt H2 ms[j].1 ms[j].2 := s2 _ _ (hm _ (List.getElem_mem hlt))
      generalize ms[j] = x at hx hmx
      have hxS := SqT.of (K := K) hmx
      have at1 : atI (refsA ms) (j : Int) = some (.ref x.1) := atI_nat (by unfold refsA; rw [List.getElem?_map, hx]; rfl)
      walk_at "rd"
      refine ⟨p, _, rfl, .inl hpS, _, _, rfl, rfl, _, rfl, ?_⟩
      rw [el]
      refine iteNT (by omega) ?_
      walk_at "rd"
      refine ⟨cut_not x.2, fun b1 n1 => ?_⟩
      rw [cut_two]
      have s3 := same_upd (o := HO.tup [V.int x.2.t, V.int x.2.h]) n1
      have t1 := upd_same (H := H2) (a := b1) (o := HO.tup [V.int x.2.t, V.int x.2.h])
      generalize upd H2 b1 (HO.tup [V.int x.2.t, V.int x.2.h]) = H3 at s3 t1 ⊢
      have haS3 := SqT.of (K := K) (s3 _ _ ha2)
      walk_at "rd"
      refine ⟨cut_not m, fun b2 n2 => ?_⟩
      rw [cut_two]
      have s4 := same_upd (o := HO.tup [V.int m.t, V.int m.h]) n2
      have t2 := upd_same (H := H3) (a := b2) (o := HO.tup [V.int m.t, V.int m.h])
      generalize upd H3 b2 (HO.tup [V.int m.t, V.int m.h]) = H4 at s4 t2 ⊢
      have s5 := s3.trans s4
      refine ⟨b1, b2, [x.2.t, x.2.h], [m.t, m.h], rfl, rfl, SqT.of (s4 _ _ t1), SqT.of t2, _, rfl, ?_⟩
      rw [ahead_lex]
      refine ite2 (fun e => ?_) (fun e => ?_)
      · have e := of_decide_eq_true e
        refine ⟨fun σ' H' => σ' = [some (.ref p), some (.ref a), some (.int ((j : Int) + 1))] ∧ Same H2 H', ?_, ?_⟩
        · rintro σ' H' ⟨rfl, s6⟩
          refine ⟨_, ?_, j + 1, rfl, s2.trans s6, hlt, rfl, fun i y hi hy => ?_⟩
          · omega
          · by_cases c : i = j
            · subst c
              rw [hx] at hy
              cases hy
              exact e
            · exact pre i y (by omega) hy
        · walk_at "rd"
          exact s5
      · have post : ∀ y, ms[j]? = some y → ¬ Ahead y.2 m := fun y hy => by
          rw [hx] at hy
          cases hy
          exact fun z => e (decide_eq_true z)
        have hp5 := s5 _ _ hp2
        have hpZ := SqL.of (K := K) hp5
        walk_at "rd"
        intro c1 nc1
        rw [cut_take _ j (by rw [el]; exact hj)]
        have r1 := same_upd (o := HO.lst ((refsA ms).take j)) nc1
        have t1 := upd_same (H := H4) (a := c1) (o := HO.lst ((refsA ms).take j))
        generalize upd H4 c1 (.lst ((refsA ms).take j)) = G1 at r1 t1 ⊢
        walk_at "rd"
        refine fun c2 nc2 => ?_
        have r2 := same_upd (o := HO.lst [V.ref a]) nc2
        have t2 := upd_same (H := G1) (a := c2) (o := HO.lst [V.ref a])
        generalize upd G1 c2 (.lst [V.ref a]) = G2 at r2 t2 ⊢
        refine ⟨_, _, _, _, rfl, rfl, r2 _ _ t1, t2, Nat.le_of_lt (small1000 (by rw [List.length_take, el]; show min j ms.length + 1 ≤ 1000; omega)), fun c3 nc3 => ?_⟩
        have r3 := same_upd (o := HO.lst ((refsA ms).take j ++ [V.ref a])) nc3
        have t3 := upd_same (H := G2) (a := c3) (o := HO.lst ((refsA ms).take j ++ [V.ref a]))
        generalize upd G2 c3 (.lst ((refsA ms).take j ++ [V.ref a])) = G3 at r3 t3 ⊢
        have hpY := SqL.of (K := K) (r3 _ _ (r2 _ _ (r1 _ _ hp5)))
        walk_at "rd"
        intro c4 nc4
        rw [cut_drop _ j (by rw [el]; exact hj)]
        have r4 := same_upd (o := HO.lst ((refsA ms).drop j)) nc4
        have t4 := upd_same (H := G3) (a := c4) (o := HO.lst ((refsA ms).drop j))
        generalize upd G3 c4 (.lst ((refsA ms).drop j)) = G4 at r4 t4 ⊢
        refine ⟨_, _, _, _, rfl, rfl, r4 _ _ t3, t4, Nat.le_of_lt (small1000 (by rw [List.length_append, List.length_take, List.length_drop, el]; show min j ms.length + 1 + (ms.length - j) ≤ 1000; omega)), fun c5 nc5 => ?_⟩
        have r5 := (s2.trans (s5.trans (r1.trans (r2.trans (r3.trans r4)))))
        refine q _ c5 (r5.trans (same_upd nc5)) (r5.free nc5) ?_
        rw [upd_same]
        refine congrArg (fun z => some (HO.lst z)) ?_
        obtain ⟨e1, e2⟩ := while_split (p := fun x : AM => decide (Ahead x.2 m)) hj (fun i x hi hx => decide_eq_true (pre i x hi hx)) (fun x hx => decide_eq_false (post x hx))
        unfold refsA insM
        rw [e1, e2, List.map_append, List.map_cons, List.map_take, List.map_drop, List.append_assoc]
        rfl
    · have post : ∀ y, ms[j]? = some y → ¬ Ahead y.2 m := fun y hy => by
        rw [List.getElem?_eq_none (by omega)] at hy
        cases hy
      have s5 := Same.refl H2
      walk_at "rd"
      refine ⟨p, _, rfl, .inl hpS, _, _, rfl, rfl, _, rfl, ?_⟩
      rw [el]
      refine iteNF (by omega) ?_
      refine iteF ?_
      have hp5 := s5 _ _ hp2
      have hpZ := SqL.of (K := K) hp5
      walk_at "rd"
      intro c1 nc1
      rw [cut_take _ j (by rw [el]; exact hj)]
      have r1 := same_upd (o := HO.lst ((refsA ms).take j)) nc1
      have t1 := upd_same (H := H2) (a := c1) (o := HO.lst ((refsA ms).take j))
      generalize upd H2 c1 (.lst ((refsA ms).take j)) = G1 at r1 t1 ⊢
      walk_at "rd"
      refine fun c2 nc2 => ?_
      have r2 := same_upd (o := HO.lst [V.ref a]) nc2
      have t2 := upd_same (H := G1) (a := c2) (o := HO.lst [V.ref a])
      generalize upd G1 c2 (.lst [V.ref a]) = G2 at r2 t2 ⊢
      refine ⟨_, _, _, _, rfl, rfl, r2 _ _ t1, t2, Nat.le_of_lt (small1000 (by rw [List.length_take, el]; show min j ms.length + 1 ≤ 1000; omega)), fun c3 nc3 => ?_⟩
      have r3 := same_upd (o := HO.lst ((refsA ms).take j ++ [V.ref a])) nc3
      have t3 := upd_same (H := G2) (a := c3) (o := HO.lst ((refsA ms).take j ++ [V.ref a]))
      generalize upd G2 c3 (.lst ((refsA ms).take j ++ [V.ref a])) = G3 at r3 t3 ⊢
      have hpY := SqL.of (K := K) (r3 _ _ (r2 _ _ (r1 _ _ hp5)))
      walk_at "rd"
      intro c4 nc4
      rw [cut_drop _ j (by rw [el]; exact hj)]
      have r4 := same_upd (o := HO.lst ((refsA ms).drop j)) nc4
      have t4 := upd_same (H := G3) (a := c4) (o := HO.lst ((refsA ms).drop j))
      generalize upd G3 c4 (.lst ((refsA ms).drop j)) = G4 at r4 t4 ⊢
      refine ⟨_, _, _, _, rfl, rfl, r4 _ _ t3, t4, Nat.le_of_lt (small1000 (by rw [List.length_append, List.length_take, List.length_drop, el]; show min j ms.length + 1 + (ms.length - j) ≤ 1000; omega)), fun c5 nc5 => ?_⟩
      have r5 := (s2.trans (s5.trans (r1.trans (r2.trans (r3.trans r4)))))
      refine q _ c5 (r5.trans (same_upd nc5)) (r5.free nc5) ?_
      rw [upd_same]
      refine congrArg (fun z => some (HO.lst z)) ?_
      obtain ⟨e1, e2⟩ := while_split (p := fun x : AM => decide (Ahead x.2 m)) hj (fun i x hi hx => decide_eq_true (pre i x hi hx)) (fun x hx => decide_eq_false (post x hx))
      unfold refsA insM
      rw [e1, e2, List.map_append, List.map_cons, List.map_take, List.map_drop, List.append_assoc]
      rfl
def sp_law_same_move (K : PySem.W.Frag) : Sp := fun vs H Q _ => ∃ (p q : Addr) (xs : List Int), vs = [.ref p, .ref q] ∧ H p = some (.tup (xs.map V.int)) ∧ H q = some (.tup (xs.map V.int)) ∧ xs.length = 4 ∧ Q (.bl true) H
set_option maxHeartbeats 1000000 in
theorem ok_law_same_move (T : Tx K mg) : FnOk P w K mg base CX0 2 T.a_law_same_move T.d_law_same_move ["_law_found", "_law_due"] (sp_law_same_move K) := by
  refine T.F_law_same_move.ok sc_law_same_move (fun vs H Q E h => ?_) (fun cdv A outer s H vs Q E hr h => ?_)
  · obtain ⟨p, q, xs, rfl, _⟩ := h
    rfl
  · obtain ⟨a, b, l, rfl, ha, hb, hl, q⟩ := h
    refine ⟨_, pss_cons (ps_if (PW.pt (pw_or (pt_not (pt_val (pe_callB call_isi (by rfl) T.m_isinstance (by decide +kernel) (pa_cons (pv 0) (pa_cons (pe_bltn (v := .ty "tuple") (by rfl) T.m_tuple (by decide +kernel) rfl) pa_nil))))) (pw_or1 (pt_cmpR op_ne (pe_callB call_len_seq (by rfl) T.m_len PySem.boot_len (pa_cons (pv 0) pa_nil)) pe_int (nomark _))))) (pss_one (ps_ret pe_bl)) pss_nil)
      (pss_cons (ps_for PassesOwn.never rfl (pi_range1 (by rfl) T.m_range (pa_cons pe_int pa_nil)) (pg_name (i := 2) sc_law_same_move.nd rfl (Or.inl rfl)) (pss_one (ps_if (PW.pt (pw_or (pt_not (pt_val (pe_call (ok_law_whole T) (hr.mono (by decide)) (by rfl) T.g_law_whole T.F_law_whole.kp T.b_law_whole .nil pass0 (pa_cons (pe_ix ix_tup (pv 0) (pv 2) (fun _ _ => rfl)) pa_nil)))) (pw_or1 (pt_cmpR op_ne (pe_ix ix_tup (pv 0) (pv 2) (fun _ _ => rfl)) (pe_ix ix_tup (pv 1) (pv 2) (fun _ _ => rfl)) (nomark _))))) (pss_one (ps_ret pe_bl)) pss_nil)))
      (pss_one (ps_ret pe_bl))), ?_⟩
    rw [st_law_same_move]
    walk_at "rd"
    refine ⟨a, _, rfl, .inr (SqT.of ha), rfl, _, rfl, ?_⟩
    rw [List.length_map, hl]
    refine ite_ne rfl ?_
    refine ⟨4, rfl, by decide, by decide, for_range (n := 4) (fun i σ H2 => ∃ v2, σ = [some (.ref a), some (.ref b), v2] ∧ H2 = H) ⟨none, rfl, rfl⟩ ?_ ?_⟩
    · rintro i σ H2 hi ⟨v2, rfl, rfl⟩
      rw [Int.zero_add]
      have g : (l.map V.int)[i]? = some (.int l[i]) := by
        rw [List.getElem?_map, List.getElem?_eq_getElem (by omega)]
        rfl
      have at1 := atI_nat g
      walk_at "rd"
      refine ⟨a, _, _, _, rfl, rfl, SqT.of ha, at1, ?_⟩
      walk_at "rd"
      refine ⟨a, _, _, _, rfl, rfl, SqT.of ha, at1, ?_⟩
      walk_at "rd"
      refine ⟨b, _, _, _, rfl, rfl, SqT.of hb, at1, ?_⟩
      walk_at "rd"
    · rintro σ H2 ⟨v2, rfl, rfl⟩
      exact q
/-- Log() -/
theorem new_log (T : Tx K mg) {H : Hp} {x dx : Addr} (nx : H x = none) (ndx : H dx = none) (ne : dx ≠ x) {Qv : VK} {E : XK}
    (k : ∀ H' (A : LogA), Same H H' → A.l = x → H A.l = none → H A.d0 = none → H A.dk = none → LogAt T.o_Log H' A ⟨0, [], []⟩ → Qv .non H') : sp_Log_init T [.ref x] (upd (upd H dx (.own x)) x (.ins T.o_Log dx [])) Qv E := by
  have s0 : Same H (upd (upd H dx (.own x)) x (.ins T.o_Log dx [])) := (same_upd ndx).trans (same_upd (by rw [upd_ne ne.symm]; exact nx))
  refine ⟨x, dx, rfl, upd_same, fun H' d0 dk f0 fk keep L => k H' ⟨x, dx, d0, dk⟩ (fun b o e => keep b o (s0 _ _ e) (ne_of_none e nx)) rfl nx (s0.free f0) (s0.free fk) L⟩
/-! ### _law_deeds, _law_far, _law_gap, _law_hand -/
theorem p59 : (10 : Int) ^ Int.toNat 59 = 100000000000000000000000000000000000000000000000000000000000 := by decide +kernel
theorem p98 : (10 : Int) ^ Int.toNat 60 - 2 * 10 ^ Int.toNat 6 = 999999999999999999999999999999999999999999999999999998000000 := by decide +kernel
theorem p200 : (10 : Int) ^ Int.toNat 60 - 200 = 999999999999999999999999999999999999999999999999999999999800 := by decide +kernel
theorem p1000 : (10 : Int) ^ Int.toNat 60 - 1000 = 999999999999999999999999999999999999999999999999999999999000 := by decide +kernel
theorem p30 : (10 : Int) ^ Int.toNat 30 = 1000000000000000000000000000000 := by decide +kernel
theorem p6 : (10 : Int) ^ Int.toNat 6 = 1000000 := by decide +kernel
theorem p7 : (10 : Int) ^ Int.toNat 7 = 10000000 := by decide +kernel
def DeedsOk (n : Nat) (ds : List Int) : Prop := ds.length ≤ n ∧ ∀ d ∈ ds, 0 ≤ d ∧ d < 2147483647
def sp_law_deeds (K : PySem.W.Frag) : Sp := fun vs H Q _ => ∃ (a : Addr) (ns : List Int) (few many : Nat), vs = [.ref a, .int few, .int many] ∧ SqL K H a (ns.map V.int) ∧ ns.length ≤ 63 ∧ few ≤ 90 ∧
  ∀ H' p ds, Same H H' → H p = none → H' p = some (.lst (ds.map V.int)) → DeedsOk few ds → Q (.ref p) H'
set_option maxHeartbeats 1000000 in
theorem ok_law_deeds (T : Tx K mg) : FnOk P w K mg base CX0 1 T.a_law_deeds T.d_law_deeds ["_law_script", "_law_few", "_law_many"] (sp_law_deeds K) := by
  refine T.F_law_deeds.ok sc_law_deeds (fun vs H Q E h => ?_) (fun cdv A outer s H vs Q E hr h => ?_)
  · obtain ⟨a, ns, few, many, rfl, _⟩ := h
    rfl
  · obtain ⟨a, ns, few, many, rfl, hS, hl, hf, q⟩ := h
    refine ⟨_, pss_cons (ps_set (i := 3) sc_law_deeds.nd rfl (.inl rfl) (pv 1))
      (pss_cons (ps_if (pt_cmpR op_gt (pe_callB call_len_seq (by rfl) T.m_len PySem.boot_len (pa_cons (pv 0) pa_nil)) pe_int (nomark _)) (pss_one (ps_set (i := 3) sc_law_deeds.nd rfl (.inl rfl) (pv 2))) pss_nil)
      (pss_one (ps_ret (pe_lc (own := [("_law_k", 4)]) (g := gName 4) (tt := tYes) rfl sc_law_deeds.nd (pi_range2 (by rfl) T.m_range (pa_cons pe_int (pa_cons (pe_callB (call_min2 rfl) (by rfl) T.m_min (by decide +kernel) (pa_cons (pe_callB call_len_seq (by rfl) T.m_len PySem.boot_len (pa_cons (pv 0) pa_nil)) (pa_cons (pe_op op_add pe_int (pv 3)) pa_nil))) pa_nil))) (blkOk_by (own := [("_law_k", 4)]) (N := ["_law_script", "_law_few", "_law_many", "_law_count", "_law_k"]) (sc := defScope s_law_deeds) (by decide +kernel)) (fun _ _ _ _ _ => pg_name (i := 4) sc_law_deeds.nd rfl (Or.inl rfl)) (fun _ _ _ _ _ => pts_nil) (fun _ _ _ _ _ => pe_op op_mod (pe_op op_mul (pe_op op_add (pe_ix (r := rIxL K) ix_list (pv 0) (pv 4) (fun _ _ => rfl)) (pe_op op_mul pe_int (pv 4))) pe_int) pe_int))))), ?_⟩
    rw [st_law_deeds]
    walk_at "rd"
    refine ⟨a, _, rfl, .inl hS, ?_⟩
    walk_at "rd"
    rw [List.length_map]
    refine iteNF (by omega) ?_
    refine ⟨_, rfl, a, _, rfl, .inl hS, _, rfl, _, _, rfl, rfl, _, _, rfl, 2, _, rfl, ?_⟩
    rw [List.length_map]
    obtain ⟨m, hm, hm2, hm3⟩ : ∃ m : Nat, (if (2 + (few : Int)) < (ns.length : Int) then (2 + (few : Int)) else (ns.length : Int)) = (m : Int) ∧ m ≤ ns.length ∧ m - 2 ≤ few := by
      by_cases c : (2 + (few : Int)) < (ns.length : Int)
      · exact ⟨2 + few, by rw [if_pos c]; rfl, by omega, by omega⟩
      · exact ⟨ns.length, if_neg c, Nat.le_refl _, by omega⟩
    rw [hm]
    refine ⟨⟨by decide, by decide, by omega, by omega⟩, fun D nD => ?_⟩
    have en : ((m : Int) - 2).toNat = m - 2 := by omega
    rw [en]
    have sD := fun o => same_upd (o := o) nD
    refine lc_range (lo := 2) (n := m - 2) (fun i H2 => ∃ ds : List Int, Same H H2 ∧ H2 D = some (.lst (ds.map V.int)) ∧ ds.length = i ∧ ∀ d ∈ ds, 0 ≤ d ∧ d < 2147483647) ⟨[], sD _, upd_same, rfl, fun d hd => nomatch hd⟩ ?_ ?_
    · rintro i H2 hi ⟨ds, s2, hD, el, hb⟩
      have hi2 : i + 2 < ns.length := by omega
      have at1 : (ns.map V.int)[i + 2]? = some (.int ns[i + 2]) := by rw [List.getElem?_map, List.getElem?_eq_getElem hi2]; rfl
      have at2 : atI (ns.map V.int) (2 + (i : Int)) = some (.int ns[i + 2]) := by
        rw [show (2 : Int) + i = ((i + 2 : Nat) : Int) by omega]
        exact atI_nat at1
      refine ⟨rfl, ?_⟩
      refine ⟨_, rfl, _, rfl, a, _, _, _, rfl, rfl, s2.seq hS, at2, ?_⟩
      refine ⟨_, rfl, _, _, rfl, rfl, .inl ⟨by decide, by decide⟩, ?_⟩
      refine ⟨_, _, rfl, rfl, _, _, rfl, rfl, .inr ⟨by decide, by decide⟩, ?_⟩
      refine ⟨_, _, rfl, rfl, (show (0 : Int) < 2147483647 by decide), ?_⟩
      refine ⟨_, hD, small1000 (by rw [List.length_map]; omega), ds ++ [(ns[i + 2] + 7919 * (2 + (i : Int))) * 48271 % 2147483647], same_set s2 nD, ?_, by rw [List.length_append, el]; rfl, fun d hd => ?_⟩
      · rw [upd_same, List.map_append]
        rfl
      · rcases List.mem_append.mp hd with hd | hd
        · exact hb d hd
        · rw [List.mem_singleton.mp hd]
          exact ⟨Int.emod_nonneg _ (by decide), Int.emod_lt_of_pos _ (by decide)⟩
    · rintro H2 ⟨ds, s2, hD, el, hb⟩
      exact q H2 D ds s2 nD hD ⟨by omega, hb⟩
/-! ### rows of steps: changed, copied, as data -/
theorem RowsAt.len {H0 H : Hp} {rows : List Row} {ms : List AM} {ways : List (List Int)} (R : RowsAt H0 H rows ms ways) : rows.length = ms.length := by
  rw [← R.ms, List.length_map]
theorem RowsAt.frame {H0 H H' : Hp} {rows : List Row} {ms : List AM} {ways : List (List Int)} (R : RowsAt H0 H rows ms ways) (kt : ∀ b xs, H b = some (.tup xs) → H' b = some (.tup xs)) (kl : ∀ r ∈ rows, H' r.w = H r.w) : RowsAt H0 H' rows ms ways :=
  ⟨fun r hr => ⟨kt _ _ (R.at_ r hr).1, (kl r hr).trans (R.at_ r hr).2⟩, R.new, R.nd, R.ms, R.ways⟩
/-- a way of a row gets one more -/
theorem RowsAt.bump {H0 H : Hp} {rows : List Row} {ms : List AM} {ways : List (List Int)} (R : RowsAt H0 H rows ms ways) {i : Nat} {r : Row} (hi : rows[i]? = some r) {l : List Int} :
    RowsAt H0 (upd H r.w (.lst (l.map V.int))) (rows.set i { r with way := l }) ms (ways.set i l) := by
  have il := (List.getElem?_eq_some_iff.mp hi).1
  have hr := R.at_ r (List.mem_of_getElem? hi)
  have kt : ∀ b xs, H b = some (.tup xs) → upd H r.w (.lst (l.map V.int)) b = some (.tup xs) := fun b xs e => (upd_ne (ne_of e hr.2 fun z => nomatch z)).trans e
  have mw : (rows.set i { r with way := l }).map (·.w) = rows.map (·.w) := by
    apply List.ext_getElem?
    intro j
    rw [List.getElem?_map, List.getElem?_map, List.getElem?_set]
    by_cases c : i = j
    · subst c
      rw [if_pos rfl, if_pos il, hi]
      rfl
    · rw [if_neg c]
  refine ⟨fun x hx => ?_, fun x hx => ?_, by rw [mw]; exact R.nd, ?_, ?_⟩
  · obtain ⟨j, hj⟩ := List.mem_iff_getElem?.mp hx
    rw [List.getElem?_set] at hj
    by_cases c : i = j
    · subst c
      rw [if_pos rfl, if_pos il] at hj
      cases hj
      exact ⟨kt _ _ hr.1, upd_same⟩
    · rw [if_neg c] at hj
      have hx2 := R.at_ x (List.mem_of_getElem? hj)
      have jl := (List.getElem?_eq_some_iff.mp hj).1
      refine ⟨kt _ _ hx2.1, (upd_ne fun e => c ?_).trans hx2.2⟩
      have nd := List.pairwise_iff_getElem.mp R.nd
      have gi : (rows.map (·.w))[i]'(by rw [List.length_map]; exact il) = r.w := by rw [List.getElem_map]; exact congrArg Row.w (List.getElem?_eq_some_iff.mp hi).2
      have gj : (rows.map (·.w))[j]'(by rw [List.length_map]; exact jl) = x.w := by rw [List.getElem_map]; exact congrArg Row.w (List.getElem?_eq_some_iff.mp hj).2
      rcases Nat.lt_trichotomy i j with h | h | h
      · exact absurd (gi.trans (e.symm.trans gj.symm)) (nd i j _ _ h)
      · exact h
      · exact absurd (gj.trans (e.trans gi.symm)) (nd j i _ _ h)
  · obtain ⟨j, hj⟩ := List.mem_iff_getElem?.mp hx
    rw [List.getElem?_set] at hj
    by_cases c : i = j
    · subst c
      rw [if_pos rfl, if_pos il] at hj
      cases hj
      exact R.new r (List.mem_of_getElem? hi)
    · rw [if_neg c] at hj
      exact R.new x (List.mem_of_getElem? hj)
  · rw [← R.ms]
    apply List.ext_getElem?
    intro j
    rw [List.getElem?_map, List.getElem?_map, List.getElem?_set]
    by_cases c : i = j
    · subst c
      rw [if_pos rfl, if_pos il, hi]
      rfl
    · rw [if_neg c]
  · rw [← R.ways, List.map_set]
def rowD (r : Row) : PyData := .tuple [mvD r.m.2, .list (intD r.way)]
theorem intD_dp {K : PySem.W.Frag} {H : Hp} : ∀ l : List Int, DpAll K H (l.map V.int) (intD l)
  | [] => .nil
  | _ :: l => .cons (.int _) (intD_dp l)
theorem rowD_dp {K : PySem.W.Frag} {H : Hp} {r : Row} (h : RowAt H r) (m : MvAt H r.m.1 r.m.2) : Dp K H (.ref r.s) (rowD r) :=
  .tup (SqT.of h.1) (.cons m.dp (.cons (.lst (SqL.of h.2) (intD_dp _)) .nil))
theorem rowsD_dp {K : PySem.W.Frag} {H : Hp} {vs : List V} {ds : List PyData} (hv : DpAll K H vs ds) : ∀ {rows : List Row}, (∀ r ∈ rows, RowAt H r ∧ MvAt H r.m.1 r.m.2) → DpAll K H (rows.map (fun x => V.ref x.s) ++ vs) (rows.map rowD ++ ds)
  | [], _ => hv
  | r :: rows, h => .cons (rowD_dp (h r (List.mem_cons_self ..)).1 (h r (List.mem_cons_self ..)).2) (rowsD_dp hv fun x hx => h x (List.mem_cons_of_mem _ hx))
theorem rowD_flat (r : Row) : Flat 3 (rowD r) := .tuple fun d hd => by
  rcases List.mem_cons.mp hd with rfl | hd
  · exact mvD_flat _
  · rw [List.mem_singleton.mp hd]
    exact .list (Flat.intD _)
theorem rowsD_flat (rows : List Row) : Flat 4 (.list (rows.map rowD ++ [.none])) := .list fun d hd => by
  rcases List.mem_append.mp hd with hd | hd
  · obtain ⟨r, _, rfl⟩ := List.mem_map.mp hd
    exact rowD_flat r
  · rw [List.mem_singleton.mp hd]
    exact ⟨by simp [PyData.canLay0], by simp [PyData.depth]⟩
theorem rowsD_eq {rows rows2 : List Row} (e1 : rows.map (·.m) = rows2.map (·.m)) (e2 : rows.map (·.way) = rows2.map (·.way)) : rows.map rowD = rows2.map rowD := by
  apply List.ext_getElem?
  intro j
  have f1 := congrArg (fun l => l[j]?) e1
  have f2 := congrArg (fun l => l[j]?) e2
  simp only [List.getElem?_map] at f1 f2 ⊢
  cases h : rows[j]? with
  | none =>
    rw [h] at f1
    cases h2 : rows2[j]? with
    | none => rfl
    | some r =>
      rw [h2] at f1
      cases f1
  | some r =>
    rw [h] at f1 f2
    cases h2 : rows2[j]? with
    | none =>
      rw [h2] at f1
      cases f1
    | some r2 =>
      rw [h2] at f1 f2
      have g1 : r.m = r2.m := Option.some.inj f1
      have g2 : r.way = r2.way := Option.some.inj f2
      show some (rowD r) = some (rowD r2)
      unfold rowD
      rw [g1, g2]
theorem RowsAt.small {H0 H : Hp} {rows : List Row} {ms : List AM} {t : List (Int × Int)} (R : RowsAt H0 H rows ms (stepsT t (mvs ms))) (F : Fine t) {r : Row} (hr : r ∈ rows) : r.way.length ≤ t.length + ms.length + 1 := by
  have h : r.way ∈ stepsT t (mvs ms) := by
    rw [← R.ways]
    exact List.mem_map.mpr ⟨r, hr, rfl⟩
  have := stepsT_small F _ h
  unfold mvs at this
  rw [List.length_map] at this
  exact this
theorem set_s {rows : List Row} {i : Nat} {r : Row} (hi : rows[i]? = some r) (l : List Int) : (rows.set i { r with way := l }).map (fun x => V.ref x.s) = rows.map fun x => V.ref x.s := by
  apply List.ext_getElem?
  intro j
  rw [List.getElem?_map, List.getElem?_map, List.getElem?_set]
  by_cases c : i = j
  · subst c
    rw [if_pos rfl, if_pos (List.getElem?_eq_some_iff.mp hi).1, hi]
    rfl
  · rw [if_neg c]
theorem refs_ints {rows : List Row} {vs : List V} {l : List Int} {r : Row} (hr : r ∈ rows) (e : rows.map (fun x => V.ref x.s) ++ vs = l.map V.int) : False := by
  have m : V.ref r.s ∈ rows.map (fun x => V.ref x.s) ++ vs := List.mem_append_left _ (List.mem_map.mpr ⟨r, hr, rfl⟩)
  rw [e] at m
  obtain ⟨_, _, z⟩ := List.mem_map.mp m
  cases z
/-! ### _law_same_moves, _law_same_steps: of two that hold the same -/
def sp_law_same_moves (K : PySem.W.Frag) : Sp := fun vs H Q _ => ∃ (a b : Addr) (xs ys : List AM), vs = [.ref a, .ref b] ∧ H a = some (.lst (refsA xs)) ∧ H b = some (.lst (refsA ys)) ∧ (∀ x ∈ xs, MvAt H x.1 x.2) ∧ (∀ x ∈ ys, MvAt H x.1 x.2) ∧ mvs xs = mvs ys ∧ xs.length ≤ 900 ∧ Q (.bl true) H
set_option maxHeartbeats 1000000 in
theorem ok_law_same_moves (T : Tx K mg) : FnOk P w K mg base CX0 3 T.a_law_same_moves T.d_law_same_moves ["_law_found", "_law_due"] (sp_law_same_moves K) := by
  refine T.F_law_same_moves.ok sc_law_same_moves (fun vs H Q E h => ?_) (fun cdv A outer s H vs Q E hr h => ?_)
  · obtain ⟨a, b, xs, ys, rfl, _⟩ := h
    rfl
  · obtain ⟨a, b, xs, ys, rfl, ha, hb, hx, hy, he, hl, q⟩ := h
    refine ⟨_, pss_cons (ps_if (PW.pt (pw_or (pt_not (pt_val (pe_callB call_isi (by rfl) T.m_isinstance (by decide +kernel) (pa_cons (pv 0) (pa_cons (pe_bltn (v := .ty "list") (by rfl) T.m_list (by decide +kernel) rfl) pa_nil))))) (pw_or1 (pt_cmpR op_ne (pe_callB call_len_seq (by rfl) T.m_len PySem.boot_len (pa_cons (pv 0) pa_nil)) (pe_callB call_len_seq (by rfl) T.m_len PySem.boot_len (pa_cons (pv 1) pa_nil)) (nomark _))))) (pss_one (ps_ret pe_bl)) pss_nil)
      (pss_cons (ps_for PassesOwn.never rfl (pi_range1 (by rfl) T.m_range (pa_cons (pe_callB call_len_seq (by rfl) T.m_len PySem.boot_len (pa_cons (pv 1) pa_nil)) pa_nil)) (pg_name (i := 2) sc_law_same_moves.nd rfl (Or.inl rfl)) (pss_one (ps_if (pt_not (pt_val (pe_call (ok_law_same_move T) (hr.mono (by decide)) (by rfl) T.g_law_same_move T.F_law_same_move.kp T.b_law_same_move .nil pass0 (pa_cons (pe_ix ix_list (pv 0) (pv 2) (fun _ _ => rfl)) (pa_cons (pe_ix ix_list (pv 1) (pv 2) (fun _ _ => rfl)) pa_nil))))) (pss_one (ps_ret pe_bl)) pss_nil)))
      (pss_one (ps_ret pe_bl))), ?_⟩
    rw [st_law_same_moves]
    have haS := SqL.of (K := K) ha
    have hbS := SqL.of (K := K) hb
    have el : xs.length = ys.length := by
      have := congrArg List.length he
      unfold mvs at this
      rw [List.length_map, List.length_map] at this
      exact this
    have lx : (refsA xs).length = ys.length := (List.length_map ..).trans el
    have ly : (refsA ys).length = ys.length := List.length_map ..
    walk_at "rd"
    refine ⟨a, _, rfl, .inl haS, _, rfl, b, _, rfl, .inl hbS, rfl, _, rfl, ?_⟩
    rw [lx, ly]
    refine ite_ne rfl ?_
    refine ⟨_, rfl, b, _, rfl, .inl hbS, ?_⟩
    rw [ly]
    refine ⟨ys.length, rfl, by omega, by omega, for_range (n := ys.length) (fun i σ H2 => ∃ v2, σ = [some (.ref a), some (.ref b), v2] ∧ H2 = H) ⟨none, rfl, rfl⟩ ?_ ?_⟩
    · rintro i σ H2 hi ⟨v2, rfl, rfl⟩
      rw [Int.zero_add]
      obtain ⟨x, hxi⟩ : ∃ x, xs[i]? = some x := ⟨xs[i]'(by omega), List.getElem?_eq_getElem _⟩
      obtain ⟨y, hyi⟩ : ∃ y, ys[i]? = some y := ⟨ys[i], List.getElem?_eq_getElem _⟩
      have e2 : x.2 = y.2 := by
        have z := congrArg (fun l => l[i]?) he
        unfold mvs at z
        simp only [List.getElem?_map, hxi, hyi] at z
        exact Option.some.inj z
      have hx1 := hx x (List.mem_of_getElem? hxi)
      have hy1 := hy y (List.mem_of_getElem? hyi)
      rw [e2] at hx1
      have at1 : atI (refsA xs) (i : Int) = some (.ref x.1) := atI_nat (by unfold refsA; rw [List.getElem?_map, hxi]; rfl)
      have at2 : atI (refsA ys) (i : Int) = some (.ref y.1) := atI_nat (by unfold refsA; rw [List.getElem?_map, hyi]; rfl)
      walk_at "rd"
      refine ⟨x.1, y.1, [y.2.t, y.2.h, y.2.f, y.2.u], rfl, hx1, hy1, rfl, ?_⟩
      walk_at "rd"
    · rintro σ H2 ⟨v2, rfl, rfl⟩
      exact q
/-! ### _law_clash -/
theorem eqv_nil (ds : List PyData) : PyData.eqv (.list ds) (.list []) = ds.isEmpty := by
  cases ds with
  | nil => simp [PyData.eqv, PyData.eqvAll]
  | cons d ds => simp [PyData.eqv, PyData.eqvAll]
theorem keyD_eqv (a b c d : Int) : PyData.eqv (.tuple [.int a, .int b]) (.tuple [.int c, .int d]) = decide (a = c ∧ b = d) := by
  simp only [PyData.eqv, PyData.eqvAll, Bool.and_true]
  rw [Bool.eq_iff_iff]
  simp
theorem VAt.same {H H' : Hp} {v : V} {o : Option AM} (s : Same H H') (h : VAt H v o) : VAt H' v o := by
  cases o with
  | none =>
    rcases h with ⟨p, a, b, c, d, rfl, hp, ka, kb, kc, kd, hm⟩ | ⟨p, xs, rfl, hp, hn⟩ | ⟨i, rfl⟩ | ⟨b, rfl⟩ | ⟨z, rfl⟩ | rfl | ⟨a, xs, rfl, e⟩ | ⟨a, kvs, rfl, e⟩
    · exact .inl ⟨p, a, b, c, d, rfl, s _ _ hp, ka.same s, kb.same s, kc.same s, kd.same s, hm⟩
    · exact .inr (.inl ⟨p, xs, rfl, s _ _ hp, hn⟩)
    · exact .inr (.inr (.inl ⟨i, rfl⟩))
    · exact .inr (.inr (.inr (.inl ⟨b, rfl⟩)))
    · exact .inr (.inr (.inr (.inr (.inl ⟨z, rfl⟩))))
    · exact .inr (.inr (.inr (.inr (.inr (.inl rfl)))))
    · exact .inr (.inr (.inr (.inr (.inr (.inr (.inl ⟨a, xs, rfl, s _ _ e⟩))))))
    · exact .inr (.inr (.inr (.inr (.inr (.inr (.inr ⟨a, kvs, rfl, s _ _ e⟩))))))
  | some z => exact ⟨h.1, s _ _ h.2.1, h.2.2⟩
def clashB (L : List AM) (m : Mv) : Bool := L.any fun x => decide (SameKey x.2 m ∧ x.2 ≠ m)
theorem filter_empty {α : Type} (p : α → Bool) (l : List α) : (l.filter p).isEmpty = !l.any p := by
  induction l with
  | nil => rfl
  | cons x l ih =>
    rw [List.any_cons]
    cases c : p x with
    | true => rw [List.filter_cons_of_pos c]; rfl
    | false => rw [List.filter_cons_of_neg (by rw [c]; exact Bool.false_ne_true), ih]; rfl
theorem filt_snoc {p : AM → Bool} {l : List AM} {i : Nat} {z : AM} (hz : l[i]? = some z) : (l.take (i + 1)).filter p = (l.take i).filter p ++ (if p z = true then [z] else []) := by
  rw [List.take_add_one, hz, List.filter_append]
  refine congrArg _ ?_
  by_cases c : p z = true
  · rw [if_pos c]
    exact List.filter_cons_of_pos c
  · rw [if_neg c]
    exact List.filter_cons_of_neg c
theorem refsA_dp {K : PySem.W.Frag} {H : Hp} : ∀ {ms : List AM}, (∀ x ∈ ms, MvAt H x.1 x.2) → DpAll K H (refsA ms) (ms.map fun x => mvD x.2)
  | [], _ => .nil
  | x :: ms, h => .cons (h x (List.mem_cons_self ..)).dp (refsA_dp fun y hy => h y (List.mem_cons_of_mem _ hy))
theorem mvs_flat (ms : List AM) : Flat 3 (.list (ms.map fun x => mvD x.2)) := .list fun d hd => by
  obtain ⟨r, _, rfl⟩ := List.mem_map.mp hd
  exact mvD_flat _
def sp_law_clash (K : PySem.W.Frag) : Sp := fun vs H Q _ => ∃ (p q : Addr) (L : List AM) (m : Mv), vs = [.ref p, .ref q] ∧ H p = some (.lst (refsA L)) ∧ (∀ x ∈ L, MvAt H x.1 x.2) ∧ MvAt H q m ∧ L.length ≤ 400 ∧
  ∀ H', Same H H' → Q (.bl (clashB L m)) H'
set_option maxHeartbeats 2000000 in
theorem ok_law_clash (T : Tx K mg) : FnOk P w K mg base CX0 1 T.a_law_clash T.d_law_clash ["_law_moves", "_law_move"] (sp_law_clash K) := by
  refine T.F_law_clash.ok sc_law_clash (fun vs H Q E h => ?_) (fun cdv A outer s H vs Q E hr h => ?_)
  · obtain ⟨p, q, L, m, rfl, _⟩ := h
    rfl
  · obtain ⟨p, q, L, m, rfl, hp, hL, hq, hl, qq⟩ := h
    refine ⟨_, pss_one (ps_ret (pe_cmpR (op_neD hr.units) (pe_lc (own := [("_law_one", 2)]) (g := gName 2) rfl sc_law_clash.nd (pi_list (pv 0)) (blkOk_by (own := [("_law_one", 2)]) (N := ["_law_moves", "_law_move", "_law_one"]) (sc := defScope s_law_clash) (by decide +kernel)) (fun _ _ _ _ _ => pg_name (i := 2) sc_law_clash.nd rfl (Or.inl rfl)) (fun _ _ _ _ _ => pts_one (PW.pt (pw_and (pt_cmpR (op_eqDK (K := K) rfl hr.units) (pe_slice (sl_tupK (K := K) rfl) (pv 2) po_none (po_some pe_int)) (pe_slice (sl_tupK (K := K) rfl) (pv 1) po_none (po_some pe_int)) (nomark _)) (pw_and1 (pt_cmpR (op_neDK (K := K) rfl hr.units) (pv 2) (pv 1) (nomark _)))))) (fun _ _ _ _ _ => pv 2)) (pe_lst pa_nil) (nomark _))), ?_⟩
    rw [st_law_clash]
    refine ⟨_, rfl, p, rfl, ⟨_, SqL.of hp⟩, fun D nD => ?_⟩
    have sD := fun o => same_upd (o := o) nD
    refine lc_list (K := K) (a := p) (xs := refsA L) (fun i H2 => Same H H2 ∧ H2 D = some (.lst (refsA ((L.take i).filter fun x => decide (SameKey x.2 m ∧ x.2 ≠ m))))) ⟨sD _, upd_same⟩ (fun i H2 _ ⟨z, _⟩ => SqL.of (z _ _ hp)) ?_ ?_
    · rintro i xr H2 hi ⟨s2, hD⟩
      unfold refsA at hi
      rw [List.getElem?_map] at hi
      obtain ⟨z, hz, rfl⟩ := Option.map_eq_some_iff.mp hi
      have il := (List.getElem?_eq_some_iff.mp hz).1
      have hz2 : MvAt H2 z.1 z.2 := s2 _ _ (hL z (List.mem_of_getElem? hz))
      have hq2 : MvAt H2 q m := s2 _ _ hq
      refine ⟨rfl, ?_⟩
      refine ⟨_, rfl, _, rfl, z.1, mvV z.2, rfl, SqT.of hz2, cut_not z.2, fun b1 n1 => ?_⟩
      rw [cut_two]
      have s3 := same_upd (o := HO.tup [V.int z.2.t, V.int z.2.h]) n1
      have t1 := upd_same (H := H2) (a := b1) (o := HO.tup [V.int z.2.t, V.int z.2.h])
      generalize upd H2 b1 (HO.tup [V.int z.2.t, V.int z.2.h]) = H3 at s3 t1 ⊢
      have hq3 : MvAt H3 q m := s3 _ _ hq2
      refine ⟨_, rfl, _, rfl, q, mvV m, rfl, SqT.of hq3, cut_not m, fun b2 n2 => ?_⟩
      rw [cut_two]
      have s4 := same_upd (o := HO.tup [V.int m.t, V.int m.h]) n2
      have t2 := upd_same (H := H3) (a := b2) (o := HO.tup [V.int m.t, V.int m.h])
      generalize upd H3 b2 (HO.tup [V.int m.t, V.int m.h]) = H4 at s4 t2 ⊢
      have s24 := s3.trans s4
      have hz4 : MvAt H4 z.1 z.2 := s24 _ _ hz2
      have hq4 : MvAt H4 q m := s24 _ _ hq2
      refine ⟨.tuple [.int z.2.t, .int z.2.h], .tuple [.int m.t, .int m.h], .tup (SqT.of (s4 _ _ t1)) (.cons (.int _) (.cons (.int _) .nil)), .tup (SqT.of t2) (.cons (.int _) (.cons (.int _) .nil)), (Flat.tuple (Flat.intD [z.2.t, z.2.h])).shaped (by decide), (Flat.tuple (Flat.intD [m.t, m.h])).shaped (by decide), _, rfl, ?_⟩
      rw [keyD_eqv, filt_snoc hz]
      have hD4 := s24 _ _ hD
      have lf := List.length_filter_le (fun x : AM => decide (SameKey x.2 m ∧ x.2 ≠ m)) (L.take i)
      rw [List.length_take] at lf
      refine ite2 (fun c => ?_) (fun c => ?_)
      · have c : z.2.t = m.t ∧ z.2.h = m.h := of_decide_eq_true c
        refine ⟨_, rfl, _, rfl, mvD z.2, mvD m, hz4.dp, hq4.dp, (mvD_flat z.2).shaped (by decide), (mvD_flat m).shaped (by decide), _, rfl, ?_⟩
        rw [mvD_eqv]
        by_cases e : z.2 = m
        · rw [decide_eq_true e, if_neg (by rw [decide_eq_false (fun k => k.2 e)]; exact Bool.false_ne_true), List.append_nil]
          exact iteF ⟨s2.trans s24, hD4⟩
        · rw [decide_eq_false e, if_pos (decide_eq_true ⟨c, e⟩)]
          refine iteT ⟨_, rfl, ?_⟩
          refine ⟨_, hD4, small1000 (by unfold refsA; rw [List.length_map]; omega), same_set (s2.trans s24) nD, ?_⟩
          rw [upd_same]
          unfold refsA
          rw [List.map_append]
          rfl
      · have c : ¬ (z.2.t = m.t ∧ z.2.h = m.h) := fun k => c (decide_eq_true k)
        rw [if_neg (by rw [decide_eq_false (fun k => c k.1)]; exact Bool.false_ne_true), List.append_nil]
        exact ⟨s2.trans s24, hD4⟩
    · rintro H2 ⟨s2, hD⟩
      rw [show (refsA L).length = L.length from List.length_map .., List.take_length] at hD
      refine ⟨Nat.zero_le _, ?_⟩
      intro e n_e
      have s_e := same_upd (o := HO.lst []) n_e
      have t_e := upd_same (H := H2) (a := e) (o := HO.lst [])
      generalize upd H2 e (HO.lst []) = H3 at s_e t_e ⊢
      have hD3 := s_e _ _ hD
      refine ⟨_, _, .lst (SqL.of hD3) (refsA_dp fun x hx => s_e _ _ (s2 _ _ (hL x (List.mem_filter.mp hx).1))), .lst (SqL.of t_e) .nil, (mvs_flat _).shaped (by decide), (mvs_flat []).shaped (by decide), ?_⟩
      rw [eqv_nil, show ((L.filter fun x : AM => decide (SameKey x.2 m ∧ x.2 ≠ m)).map fun x => mvD x.2).isEmpty = (L.filter fun x : AM => decide (SameKey x.2 m ∧ x.2 ≠ m)).isEmpty by cases L.filter fun x : AM => decide (SameKey x.2 m ∧ x.2 ≠ m) <;> rfl, filter_empty, Bool.not_not]
      exact qq _ (s2.trans s_e)
/-! ### _law_heard, _law_heard_too, _law_refused_by_any -/
def ansV : Out → V
  | .noMove => .str "no move"
  | .tooLate => .str "too late"
  | .clash => .str "clash"
  | .kept => .bl false
  | .new => .bl true
theorem kit_sub {K : PySem.W.Frag} {C : Addr} {T : String} {b : Bool} (hm : PySem.W.kitMeta T = true) (h : PySem.W.subIn K (.ref C) (.type T) = some b) : PySem.W.kitOne K (.ref C) (.type T) = some b := by
  show (if (Value.ref C == Value.type T) = true then some true else (if PySem.W.kitMeta T = true then PySem.W.subIn K (.ref C) (.type T) else none)) = some b
  rw [if_neg (by intro z; cases z), if_pos hm]
  exact h
/-! ### _law_answer -/
def sp_law_answer (K : PySem.W.Frag) : Sp := fun vs H Q _ => ∃ x : Out, vs = [ansV x, ansV x] ∧ Q (.bl true) H
theorem ok_law_answer (T : Tx K mg) : FnOk P w K mg base CX0 1 T.a_law_answer T.d_law_answer ["_law_found", "_law_due"] (sp_law_answer K) := by
  refine T.F_law_answer.ok sc_law_answer (fun vs H Q E h => ?_) (fun cdv A outer s H vs Q E hr h => ?_)
  · obtain ⟨x, rfl, _⟩ := h
    rfl
  · obtain ⟨x, rfl, q⟩ := h
    refine ⟨_, pss_cons (ps_if (pt_val (pe_callB call_isi (by rfl) T.m_isinstance (by decide +kernel) (pa_cons (pv 1) (pa_cons (pe_bltn (v := .ty "str") (by rfl) T.m_str (by decide +kernel) rfl) pa_nil)))) (pss_one (ps_ret (pe_and (pe_callB call_isi (by rfl) T.m_isinstance (by decide +kernel) (pa_cons (pv 0) (pa_cons (pe_bltn (v := .ty "str") (by rfl) T.m_str (by decide +kernel) rfl) pa_nil))) (pe_one (pe_cmpR op_eq (pv 0) (pv 1) (nomark _)))))) pss_nil)
      (pss_one (ps_ret (pe_and (pe_callB call_isi (by rfl) T.m_isinstance (by decide +kernel) (pa_cons (pv 0) (pa_cons (pe_bltn (v := .ty "bool") (by rfl) T.m_bool (by decide +kernel) rfl) pa_nil))) (pe_one (pe_cmpR op_eq (pv 0) (pv 1) (nomark _)))))), ?_⟩
    rw [st_law_answer]
    cases x with
    | noMove =>
      refine ⟨_, rfl, _, _, _, _, _, rfl, .ty _, .base (.str _), kit_ty kss, _, rfl, iteT ?_⟩
      refine ⟨_, rfl, _, _, _, _, _, rfl, .ty _, .base (.str _), kit_ty kss, _, rfl, iteT ?_⟩
      exact ⟨_, rfl, _, rfl, rfl, by rw [decide_eq_true rfl]; exact q⟩
    | tooLate =>
      refine ⟨_, rfl, _, _, _, _, _, rfl, .ty _, .base (.str _), kit_ty kss, _, rfl, iteT ?_⟩
      refine ⟨_, rfl, _, _, _, _, _, rfl, .ty _, .base (.str _), kit_ty kss, _, rfl, iteT ?_⟩
      exact ⟨_, rfl, _, rfl, rfl, by rw [decide_eq_true rfl]; exact q⟩
    | clash =>
      refine ⟨_, rfl, _, _, _, _, _, rfl, .ty _, .base (.str _), kit_ty kss, _, rfl, iteT ?_⟩
      refine ⟨_, rfl, _, _, _, _, _, rfl, .ty _, .base (.str _), kit_ty kss, _, rfl, iteT ?_⟩
      exact ⟨_, rfl, _, rfl, rfl, by rw [decide_eq_true rfl]; exact q⟩
    | kept =>
      refine ⟨_, rfl, _, _, _, _, _, rfl, .ty _, .base (.bl _), kit_ty kbs, _, rfl, iteF ?_⟩
      refine ⟨_, rfl, _, _, _, _, _, rfl, .ty _, .base (.bl _), kit_ty kbb, _, rfl, iteT ?_⟩
      exact ⟨_, rfl, _, rfl, rfl, by rw [decide_eq_true rfl]; exact q⟩
    | new =>
      refine ⟨_, rfl, _, _, _, _, _, rfl, .ty _, .base (.bl _), kit_ty kbs, _, rfl, iteF ?_⟩
      refine ⟨_, rfl, _, _, _, _, _, rfl, .ty _, .base (.bl _), kit_ty kbb, _, rfl, iteT ?_⟩
      exact ⟨_, rfl, _, rfl, rfl, by rw [decide_eq_true rfl]; exact q⟩
/-! ### _law_fold -/
def sp_law_fold (K : PySem.W.Frag) : Sp := fun vs H Q _ => ∃ (d p : Addr) (t : List (Int × Int)) (ms : List AM), vs = [.ref d, .ref p] ∧ H d = some (.dK (kvT t)) ∧ H p = some (.lst (refsA ms)) ∧ (∀ x ∈ ms, MvAt H x.1 x.2) ∧ Fine t ∧ t.length + ms.length ≤ 800 ∧
  ∀ H' r, Same H H' → H r = none → H' r = some (.dK (kvT (foldT t (mvs ms)))) → Q (.ref r) H'
set_option maxHeartbeats 2000000 in
theorem ok_law_fold (T : Tx K mg) : FnOk P w K mg base CX0 2 T.a_law_fold T.d_law_fold ["_law_tree", "_law_moves"] (sp_law_fold K) := by
  refine T.F_law_fold.ok sc_law_fold (fun vs H Q E h => ?_) (fun cdv A outer s H vs Q E hr h => ?_)
  · obtain ⟨d, p, t, ms, rfl, _⟩ := h
    rfl
  · obtain ⟨d, p, t, ms, rfl, hd, hp, hm, F, hz, q⟩ := h
    have hu := hu_of hr
    refine ⟨_, pss_cons (ps_set (i := 2) sc_law_fold.nd rfl (.inl rfl) (pe_callTy call_dictD (by rfl) T.m_dict (by decide +kernel) (pa_cons (pv 0) pa_nil)))
      (pss_cons (ps_for PassesOwn.never rfl (pi_list (pv 1)) (pg_name (i := 3) sc_law_fold.nd rfl (Or.inl rfl)) (pss_one (ps_if (pt_cmpR op_notIn_seq (pe_ix ix_tup (pv 3) pe_int (fun _ _ => rfl)) (pe_call (ok_law_way T) (hr.mono (by decide)) (by rfl) T.g_law_way T.F_law_way.kp T.b_law_way .nil pass0 (pa_cons (pv 2) (pa_cons (pe_ix ix_tup (pv 3) pe_int (fun _ _ => rfl)) pa_nil))) (by rfl)) (pss_one (ps_dput hu (pv 2) (pe_ix ix_tup (pv 3) pe_int (fun _ _ => rfl)) (pe_ix ix_tup (pv 3) pe_int (fun _ _ => rfl)) rfl)) pss_nil)))
      (pss_one (ps_ret (pv 2)))), ?_⟩
    rw [st_law_fold]
    refine ⟨_, rfl, d, _, rfl, .inl hd, fun d' nd' => ?_⟩
    have s1 := same_upd (o := HO.dK (kvT t)) nd'
    walk_at "nm"
    refine ⟨_, rfl, p, rfl, ⟨_, SqL.of (s1 _ _ hp)⟩, for_list (K := K) (a := p) (xs := refsA ms) (fun i σ H2 => ∃ v3, σ = [some (.ref d), some (.ref p), some (.ref d'), v3] ∧ Same H H2 ∧ H2 d' = some (.dK (kvT (foldT t (mvs (ms.take i))))))
      ⟨none, rfl, s1, upd_same⟩ (fun i σ H2 _ ⟨_, _, z, _⟩ => SqL.of (z _ _ hp)) ?_ ?_⟩
    · rintro i x σ H2 hi ⟨v3, rfl, s3, hd3⟩
      unfold refsA at hi
      rw [List.getElem?_map] at hi
      obtain ⟨z, hzi, rfl⟩ := Option.map_eq_some_iff.mp hi
      have il : i < ms.length := (List.getElem?_eq_some_iff.mp hzi).1
      have hz3 : MvAt H2 z.1 z.2 := s3 _ _ (hm z (List.mem_of_getElem? hzi))
      have hS3 := SqT.of (K := K) hz3
      have F3 : Fine (foldT t (mvs (ms.take i))) := F.fold
      have l3 : (foldT t (mvs (ms.take i))).length ≤ t.length + i := Nat.le_trans foldT_length (by unfold mvs; rw [List.length_map, List.length_take]; omega)
      have l4 := F3.small z.2.u
      obtain ⟨e1, e2⟩ := foldT_take (t := t) hzi
      rw [e1]
      clear e1 e2
      revert hd3 F3 l3 l4
      generalize foldT t (mvs (ms.take i)) = ti
      intro hd3 F3 l3 l4
      walk_at "rd"
      refine ⟨d', ti, z.2.u, wayOf ti z.2.u, rfl, hd3, F3.way _, by omega, fun H3 pw s4 npw hpw => ?_⟩
      have hS4 := SqT.of (K := K) (s4 _ _ hz3)
      refine ⟨pw, _, rfl, .inl (SqL.of hpw), rfl, flats _, _, rfl, ?_⟩
      rw [inV_ints]
      by_cases c : z.2.f ∈ wayOf ti z.2.u
      · rw [decide_eq_true c]
        refine iteF ?_
        exact ⟨_, rfl, s3.trans s4, by rw [show stepT ti z.2 = ti from if_pos c]; exact s4 _ _ hd3⟩
      · rw [decide_eq_false c]
        refine iteT ?_
        walk_at "rd"
        refine ⟨d', _, rfl, DPut.k (k := Sum.inl z.2.f) (s4 _ _ hd3) (small1000 (by rw [kvT_length]; omega)), ?_⟩
        rw [putK_kvT, show putT ti z.2.f z.2.u = stepT ti z.2 from (if_neg c).symm]
        exact ⟨_, rfl, same_set (s3.trans s4) nd', upd_same⟩
    · rintro σ H2 ⟨v3, rfl, s3, hd3⟩
      rw [show (refsA ms).length = ms.length from List.length_map .., List.take_length] at hd3
      walk_at "rd"
      exact q _ d' s3 nd' hd3
/-! ### parts of a rising list, by a time -/
def gN (τ : Int) (ms : List AM) : Nat := (goneOf τ ms).length
theorem filter_take {α : Type} {p : α → Bool} : ∀ {l : List α}, l.Pairwise (fun x y => p y = true → p x = true) → l.filter p = l.take (l.filter p).length
  | [], _ => rfl
  | x :: l, h => by
    obtain ⟨h1, h2⟩ := List.pairwise_cons.mp h
    by_cases c : p x = true
    · rw [List.filter_cons_of_pos c, List.length_cons, List.take_succ_cons, ← filter_take h2]
    · have e : l.filter p = [] := List.filter_eq_nil_iff.mpr fun y hy k => c (h1 y hy k)
      rw [List.filter_cons_of_neg c, e]
      rfl
theorem filter_drop {α : Type} {p : α → Bool} : ∀ {l : List α}, l.Pairwise (fun x y => p y = true → p x = true) → l.filter (fun x => !p x) = l.drop (l.filter p).length
  | [], _ => rfl
  | x :: l, h => by
    obtain ⟨h1, h2⟩ := List.pairwise_cons.mp h
    by_cases c : p x = true
    · rw [List.filter_cons_of_pos c, List.length_cons, List.drop_succ_cons, ← filter_drop h2, List.filter_cons_of_neg (by rw [c]; exact fun z => nomatch z)]
    · have e : l.filter p = [] := List.filter_eq_nil_iff.mpr fun y hy k => c (h1 y hy k)
      rw [List.filter_cons_of_neg c, e]
      refine List.filter_eq_self.mpr fun y hy => ?_
      rcases List.mem_cons.mp hy with rfl | hy
      · rw [Bool.not_eq_true] at c
        rw [c]
        rfl
      · have z := List.filter_eq_nil_iff.mp e y hy
        rw [Bool.not_eq_true] at z
        rw [z]
        rfl
theorem Rising.down {ms : List AM} (r : Rising (·.2) ms) (τ : Int) : ms.Pairwise (fun x y => decide (y.2.t < τ) = true → decide (x.2.t < τ) = true) := r.imp fun {x y} h k => by
  have h : x.2.t < y.2.t ∨ (x.2.t = y.2.t ∧ x.2.h < y.2.h) := h
  have k := of_decide_eq_true k
  exact decide_eq_true (by omega)
theorem gone_take {ms : List AM} (r : Rising (·.2) ms) (τ : Int) : goneOf τ ms = ms.take (gN τ ms) := filter_take (r.down τ)
theorem later_drop {ms : List AM} (r : Rising (·.2) ms) (τ : Int) : laterOf τ ms = ms.drop (gN τ ms) := by
  have z := filter_drop (r.down τ)
  refine Eq.trans ?_ z
  unfold laterOf
  refine List.filter_congr fun x _ => ?_
  by_cases c : x.2.t < τ
  · rw [decide_eq_true c, decide_eq_false (by omega)]
    rfl
  · rw [decide_eq_false c, decide_eq_true (by omega)]
    rfl
theorem gN_le (τ : Int) (ms : List AM) : gN τ ms ≤ ms.length := List.length_filter_le _ _
theorem gN_mono {τ υ : Int} (h : τ ≤ υ) (ms : List AM) : gN τ ms ≤ gN υ ms := by
  unfold gN goneOf
  rw [← List.countP_eq_length_filter, ← List.countP_eq_length_filter]
  refine List.countP_mono_left fun x _ k => ?_
  have k := of_decide_eq_true k
  exact decide_eq_true (by omega)
theorem gN_zero {ms : List AM} (h : ∀ x ∈ ms, 1 ≤ x.2.t) : gN 0 ms = 0 := by
  unfold gN goneOf
  rw [List.filter_eq_nil_iff.mpr fun x hx k => by
    have := of_decide_eq_true k
    have := h x hx
    omega]
  rfl
theorem gN_at {ms : List AM} {τ : Int} : ∀ {j : Nat} {z : AM}, Rising (·.2) ms → ms[j]? = some z → gN τ ms ≤ j → τ ≤ z.2.t := by
  induction ms with
  | nil => exact fun _ h _ => nomatch h
  | cons x l ih =>
    intro j z r h g
    obtain ⟨h1, h2⟩ := List.pairwise_cons.mp r
    unfold gN goneOf at g
    by_cases c : x.2.t < τ
    · rw [List.filter_cons_of_pos (p := fun p : AM => decide (p.2.t < τ)) (decide_eq_true c), List.length_cons] at g
      cases j with
      | zero => omega
      | succ j => exact ih h2 h (by unfold gN goneOf; omega)
    · cases j with
      | zero =>
        cases h
        omega
      | succ j =>
        have h : l[j]? = some z := h
        have k : x.2.t < z.2.t ∨ (x.2.t = z.2.t ∧ x.2.h < z.2.h) := h1 z (List.mem_of_getElem? h)
        omega
/-- the part between, cut by a time -/
theorem gN_mid {ms : List AM} (r : Rising (·.2) ms) {τ : Int} {a h : Nat} (h1 : a ≤ gN τ ms) (h2 : gN τ ms ≤ h) : goneOf τ ((ms.take h).drop a) = (ms.take (gN τ ms)).drop a := by
  have e := gone_take r τ
  have s : ms = (ms.take h).take a ++ ((ms.take h).drop a ++ ms.drop h) := by
    rw [← List.append_assoc, List.take_append_drop, List.take_append_drop]
  have e2 : goneOf τ ms = (ms.take h).take a ++ goneOf τ ((ms.take h).drop a) := by
    conv => lhs; rw [s]
    unfold goneOf
    rw [List.filter_append, List.filter_append]
    have f1 : ((ms.take h).take a).filter (fun p : AM => decide (p.2.t < τ)) = (ms.take h).take a := by
      refine List.filter_eq_self.mpr fun x hx => ?_
      have hx : x ∈ ms.take (gN τ ms) := by
        rw [List.take_take, Nat.min_eq_left (by omega)] at hx
        exact List.mem_of_mem_take (i := a) (by rw [List.take_take, Nat.min_eq_left h1]; exact hx)
      rw [← e] at hx
      exact (List.mem_filter.mp hx).2
    have f2 : (ms.drop h).filter (fun p : AM => decide (p.2.t < τ)) = [] := by
      refine List.filter_eq_nil_iff.mpr fun x hx k => ?_
      have k := of_decide_eq_true k
      obtain ⟨n, hn⟩ := List.mem_iff_getElem?.mp hx
      rw [List.getElem?_drop] at hn
      have := gN_at (τ := τ) r hn (by omega)
      omega
    rw [f1, f2, List.append_nil]
  rw [e] at e2
  have e3 := congrArg (fun l => l.drop a) e2
  have la : ((ms.take h).take a).length = a := by
    have := gN_le τ ms
    rw [List.length_take, List.length_take]
    omega
  have e3 : (ms.take (gN τ ms)).drop a = ((ms.take h).take a ++ goneOf τ ((ms.take h).drop a)).drop a := e3
  rw [List.drop_left' la] at e3
  exact e3.symm
theorem gN_mid_later {ms : List AM} (r : Rising (·.2) ms) {τ : Int} {a h : Nat} (h1 : a ≤ gN τ ms) (h2 : gN τ ms ≤ h) : laterOf τ ((ms.take h).drop a) = (ms.take h).drop (gN τ ms) := by
  have r2 : Rising (·.2) ((ms.take h).drop a) := List.Pairwise.sublist ((List.drop_sublist ..).trans (List.take_sublist ..)) r
  rw [later_drop r2]
  unfold gN
  rw [gN_mid r h1 h2, List.drop_drop]
  refine congrArg (fun n => (ms.take h).drop n) ?_
  have := gN_le τ ms
  show a + ((ms.take (gN τ ms)).drop a).length = gN τ ms
  rw [List.length_drop, List.length_take]
  omega
theorem gN_mid_len {ms : List AM} (r : Rising (·.2) ms) {τ : Int} {a h : Nat} (h1 : a ≤ gN τ ms) (h2 : gN τ ms ≤ h) : (goneOf τ ((ms.take h).drop a)).length = gN τ ms - a := by
  have := gN_le τ ms
  rw [gN_mid r h1 h2, List.length_drop, List.length_take]
  omega
theorem mvs_take (l : List AM) (n : Nat) : mvs (l.take n) = (mvs l).take n := List.map_take ..
theorem mvs_drop (l : List AM) (n : Nat) : mvs (l.drop n) = (mvs l).drop n := List.map_drop ..
theorem fold_cut (ms : List AM) {a h : Nat} (ha : a ≤ h) : foldT (foldT [] (mvs (ms.take a))) (mvs ((ms.take h).drop a)) = foldT [] (mvs (ms.take h)) := by
  rw [← foldT_append]
  refine congrArg _ ?_
  unfold mvs
  rw [← List.map_append]
  refine congrArg _ ?_
  rw [show ms.take a = (ms.take h).take a by rw [List.take_take, Nat.min_eq_left ha], List.take_append_drop]
theorem steps_take : ∀ (l : List Mv) (n : Nat) (t), stepsT t (l.take n) = (stepsT t l).take n
  | [], n, t => by rw [List.take_nil]; exact (List.take_nil ..).symm
  | m :: l, 0, t => rfl
  | m :: l, n + 1, t => congrArg _ (steps_take l n (stepT t m))
theorem steps_drop : ∀ (l : List Mv) (n : Nat) (t), stepsT (foldT t (l.take n)) (l.drop n) = (stepsT t l).drop n
  | [], n, t => by rw [List.take_nil, List.drop_nil]; exact (List.drop_nil ..).symm
  | m :: l, 0, t => rfl
  | m :: l, n + 1, t => steps_drop l n (stepT t m)
theorem steps_cut (ms : List AM) {a h : Nat} (ha : a ≤ h) : stepsT (foldT [] (mvs (ms.take a))) (mvs ((ms.take h).drop a)) = ((stepsT [] (mvs ms)).take h).drop a := by
  rw [← steps_take, ← mvs_take, ← steps_drop, mvs_drop, ← mvs_take, List.take_take, Nat.min_eq_left ha]
theorem cut_mid (l : List V) (i j : Nat) (h : i ≤ l.length) : cutV l (some (i : Int)) (some (j : Int)) = (l.take (min j l.length)).drop i := by
  unfold cutV
  rw [HT.sIx_nat, HT.sIx_nat, Nat.min_eq_left h, List.drop_take]
/-- what no method of a log changes -/
def Fr3 (H H' : Hp) : Prop := ∀ b o, H b = some o → (∀ C dx fs, o ≠ .ins C dx fs) → (∀ kv, o ≠ .dT kv) → H' b = some o
theorem Fr3.refl (H : Hp) : Fr3 H H := fun b o h _ _ => h
theorem Fr3.trans {A B C : Hp} (f : Fr3 A B) (g : Fr3 B C) : Fr3 A C := fun b o h n m => g _ _ (f _ _ h n m) n m
theorem Fr3.of {A B : Hp} (s : Same A B) : Fr3 A B := fun b o h _ _ => s _ _ h
theorem Fr3.hear {C : Addr} {H H' : Hp} {A : LogA} {S : LogS} (L : LogAt C H A S) (f : FrL A H H') : Fr3 H H' := fun b o h n m => f b o h (fun e => by
  subst e
  rw [L.ins] at h
  cases h
  exact n _ _ _ rfl) (fun e => by
  subst e
  rw [L.dictk] at h
  cases h
  exact m _ rfl)
theorem Fr3.set {C : Addr} {H H' : Hp} {A : LogA} {S : LogS} (L : LogAt C H A S) (f : ∀ b o, H b = some o → b ≠ A.l → H' b = some o) : Fr3 H H' := fun b o h n _ => f b o h (fun e => by
  subst e
  rw [L.ins] at h
  cases h
  exact n _ _ _ rfl)
theorem Fr3.lst {H H' : Hp} (f : Fr3 H H') {b : Addr} {xs : List V} (h : H b = some (.lst xs)) : H' b = some (.lst xs) := f _ _ h (fun _ _ _ z => nomatch z) (fun _ z => nomatch z)
theorem Fr3.tup {H H' : Hp} (f : Fr3 H H') {b : Addr} {xs : List V} (h : H b = some (.tup xs)) : H' b = some (.tup xs) := f _ _ h (fun _ _ _ z => nomatch z) (fun _ z => nomatch z)
theorem Fr3.dK {H H' : Hp} (f : Fr3 H H') {b : Addr} {xs : List (Key × V)} (h : H b = some (.dK xs)) : H' b = some (.dK xs) := f _ _ h (fun _ _ _ z => nomatch z) (fun _ z => nomatch z)
theorem take_not {ms : List AM} (hk : ms.Pairwise fun x y => ¬ SameKey x.2 y.2) {i : Nat} {z : AM} (hz : ms[i]? = some z) : ∀ x ∈ ms.take i, ¬ SameKey x.2 z.2 := by
  intro x hx
  obtain ⟨n, hn⟩ := List.mem_iff_getElem?.mp hx
  have h1 := (List.getElem?_eq_some_iff.mp hn).1
  rw [List.length_take] at h1
  rw [List.getElem?_take_of_lt (by omega)] at hn
  obtain ⟨i1, e1⟩ := List.getElem?_eq_some_iff.mp hn
  obtain ⟨i2, e2⟩ := List.getElem?_eq_some_iff.mp hz
  have z := List.pairwise_iff_getElem.mp hk n i i1 i2 (by omega)
  rw [e1, e2] at z
  exact z
theorem hear_new {S : LogS} {a : Addr} {m : Mv} (h : ∀ p ∈ S.kept, ¬ SameKey p.2 m) : S.has m = false ∧ S.hear a m = ⟨S.since, S.base, S.kept ++ [(a, m)]⟩ := by
  have hno : S.has m = false := by
    cases e : S.has m with
    | false => rfl
    | true =>
      obtain ⟨p, hp, hk⟩ := List.any_eq_true.mp e
      exact absurd (of_decide_eq_true hk) (h p hp)
  refine ⟨hno, ?_⟩
  unfold LogS.hear
  rw [if_neg (by rw [hno]; exact Bool.false_ne_true)]
theorem keys_perm {l m : List AM} (p : l.Perm m) (h : m.Pairwise fun x y => ¬ SameKey x.2 y.2) : l.Pairwise fun x y => ¬ SameKey x.2 y.2 := (p.pairwise_iff fun {x y} h k => h ⟨k.1.symm, k.2.symm⟩).mpr h
theorem told_eq {S : LogS} {l ms : List AM} (t : Told S l) (r : Rising (·.2) ms) (p : S.kept.Perm ms) : l = ms := Rising.uniq t.2 r (t.1.trans p)
theorem Kd.fr {H H' : Hp} {v : V} (f : Fr3 H H') (k : Kd H v) : Kd H' v := by
  cases k with
  | int i => exact .int i
  | bl b => exact .bl b
  | str z => exact .str z
  | non => exact .non
  | lst e => exact .lst (f.lst e)
  | tup e => exact .tup (f.tup e)
  | dK e => exact .dK (f.dK e)
theorem VAt.fr {H H' : Hp} {v : V} {o : Option AM} (f : Fr3 H H') (h : VAt H v o) : VAt H' v o := by
  cases o with
  | none =>
    rcases h with ⟨p, a, b, c, d, rfl, hp, ka, kb, kc, kd, hm⟩ | ⟨p, xs, rfl, hp, hn⟩ | ⟨i, rfl⟩ | ⟨b, rfl⟩ | ⟨z, rfl⟩ | rfl | ⟨a, xs, rfl, e⟩ | ⟨a, kvs, rfl, e⟩
    · exact .inl ⟨p, a, b, c, d, rfl, f.tup hp, ka.fr f, kb.fr f, kc.fr f, kd.fr f, hm⟩
    · exact .inr (.inl ⟨p, xs, rfl, f.tup hp, hn⟩)
    · exact .inr (.inr (.inl ⟨i, rfl⟩))
    · exact .inr (.inr (.inr (.inl ⟨b, rfl⟩)))
    · exact .inr (.inr (.inr (.inr (.inl ⟨z, rfl⟩))))
    · exact .inr (.inr (.inr (.inr (.inr (.inl rfl)))))
    · exact .inr (.inr (.inr (.inr (.inr (.inr (.inl ⟨a, xs, rfl, f.lst e⟩))))))
    · exact .inr (.inr (.inr (.inr (.inr (.inr (.inr ⟨a, kvs, rfl, f.dK e⟩))))))
  | some z => exact ⟨h.1, f.tup h.2.1, h.2.2⟩
/-! ### the law's state: a dict of texts -/
def stK (n c s m : Int) (kp bs hl : Addr) : List (Key × V) := [(Sum.inr ("number" : Str), .int n), (Sum.inr ("clock" : Str), .int c), (Sum.inr ("since" : Str), .int s), (Sum.inr ("many" : Str), .int m), (Sum.inr ("kept" : Str), .ref kp), (Sum.inr ("base" : Str), .ref bs), (Sum.inr ("held" : Str), .ref hl)]
theorem sk1 : (decide ((Sum.inr ("number" : Str) : Key) = Sum.inr ("clock" : Str))) = false := by decide +kernel
theorem st_number (n c s m : Int) (kp bs hl : Addr) : valV (stK n c s m kp bs hl) (Sum.inr ("number" : Str)) = some (.int n) := by rfl
theorem st_clock (n c s m : Int) (kp bs hl : Addr) : valV (stK n c s m kp bs hl) (Sum.inr ("clock" : Str)) = some (.int c) := by rfl
theorem st_since (n c s m : Int) (kp bs hl : Addr) : valV (stK n c s m kp bs hl) (Sum.inr ("since" : Str)) = some (.int s) := by rfl
theorem st_many (n c s m : Int) (kp bs hl : Addr) : valV (stK n c s m kp bs hl) (Sum.inr ("many" : Str)) = some (.int m) := by rfl
theorem st_kept (n c s m : Int) (kp bs hl : Addr) : valV (stK n c s m kp bs hl) (Sum.inr ("kept" : Str)) = some (.ref kp) := by rfl
theorem st_base (n c s m : Int) (kp bs hl : Addr) : valV (stK n c s m kp bs hl) (Sum.inr ("base" : Str)) = some (.ref bs) := by rfl
theorem st_held (n c s m : Int) (kp bs hl : Addr) : valV (stK n c s m kp bs hl) (Sum.inr ("held" : Str)) = some (.ref hl) := by rfl
theorem st_put_clock (n c s m : Int) (kp bs hl : Addr) (c' : Int) : putK (stK n c s m kp bs hl) (Sum.inr ("clock" : Str)) (.int c') = stK n c' s m kp bs hl := by rfl
theorem st_put_since (n c s m : Int) (kp bs hl : Addr) (s' : Int) : putK (stK n c s m kp bs hl) (Sum.inr ("since" : Str)) (.int s') = stK n c s' m kp bs hl := by rfl
theorem st_put_kept (n c s m : Int) (kp bs hl : Addr) (k' : Addr) : putK (stK n c s m kp bs hl) (Sum.inr ("kept" : Str)) (.ref k') = stK n c s m k' bs hl := by rfl
theorem st_put_base (n c s m : Int) (kp bs hl : Addr) (b' : Addr) : putK (stK n c s m kp bs hl) (Sum.inr ("base" : Str)) (.ref b') = stK n c s m kp b' hl := by rfl
theorem st_make (n m : Int) (kp bs hl : Addr) : putK (putK (mergeK [] [(Sum.inr ("number" : Str), .int n), (Sum.inr ("clock" : Str), .int 0), (Sum.inr ("since" : Str), .int 0), (Sum.inr ("many" : Str), .int m), (Sum.inr ("kept" : Str), .ref kp)]) (Sum.inr ("base" : Str)) (.ref bs)) (Sum.inr ("held" : Str)) (.ref hl) = stK n 0 0 m kp bs hl := by rfl
theorem st_length (n c s m : Int) (kp bs hl : Addr) : (stK n c s m kp bs hl).length = 7 := rfl
/-! ### hands -/
def hf (n c : Int) (lg : Addr) : List (Str × V) := [("number", .int n), ("clock", .int c), ("log", .ref lg)]
structure HandA where
  l : Addr
  dx : Addr
  log : LogA
structure HandAt (CH CL : Addr) (H : Hp) (B : HandA) (n c : Int) (S : LogS) : Prop where
  ins : H B.l = some (.ins CH B.dx (hf n c B.log.l))
  log : LogAt CL H B.log S
theorem hf_number (n c : Int) (lg : Addr) : (hf n c lg).lookup ("number" : Str) = some (.int n) := by rfl
theorem hf_clock (n c : Int) (lg : Addr) : (hf n c lg).lookup ("clock" : Str) = some (.int c) := by rfl
theorem hf_log (n c : Int) (lg : Addr) : (hf n c lg).lookup ("log" : Str) = some (.ref lg) := by rfl
theorem hf_put_clock (n c c' : Int) (lg : Addr) : putF ("clock" : Str) (.int c') (hf n c lg) = hf n c' lg := by rfl
theorem HandAt.ne {CH CL : Addr} {H : Hp} {B : HandA} {n c : Int} {S : LogS} (h : HandAt CH CL H B n c S) : B.l ≠ B.log.l := fun e => by
  have h1 := h.ins
  rw [e, h.log.ins] at h1
  injection h1 with h1
  injection h1 with _ _ h1
  injection h1 with h1 _
  injection h1 with h1 _
  exact absurd h1 (by decide +kernel)
theorem HandAt.same {CH CL : Addr} {H H' : Hp} {B : HandA} {n c : Int} {S : LogS} (h : HandAt CH CL H B n c S) (s : Same H H') : HandAt CH CL H' B n c S := ⟨s _ _ h.ins, h.log.same s⟩
def FrH (B : HandA) (H H' : Hp) : Prop := ∀ b o, H b = some o → b ≠ B.l → b ≠ B.log.l → b ≠ B.log.dk → H' b = some o
theorem FrH.of {B : HandA} {H H' : Hp} (s : Same H H') : FrH B H H' := fun b o h _ _ _ => s _ _ h
theorem FrH.fr3 {CH CL : Addr} {H H' : Hp} {B : HandA} {n c : Int} {S : LogS} (h : HandAt CH CL H B n c S) (f : FrH B H H') : Fr3 H H' := fun b o e i d => f b o e (fun z => by
  subst z
  rw [h.ins] at e
  cases e
  exact i _ _ _ rfl) (fun z => by
  subst z
  rw [h.log.ins] at e
  cases e
  exact i _ _ _ rfl) (fun z => by
  subst z
  rw [h.log.dictk] at e
  cases e
  exact d _ rfl)
/-- the log changed, its hand stands -/
theorem HandAt.hear {CH CL : Addr} {H H' : Hp} {B : HandA} {n c : Int} {S S' : LogS} (h : HandAt CH CL H B n c S) (f : FrL B.log H H') (L : LogAt CL H' B.log S') : HandAt CH CL H' B n c S' :=
  ⟨f _ _ h.ins h.ne (ne_of h.ins h.log.dictk fun z => nomatch z), L⟩
/-- the clock is set -/
theorem HandAt.tick {CH CL : Addr} {H : Hp} {B : HandA} {n c c' : Int} {S : LogS} (h : HandAt CH CL H B n c S) : HandAt CH CL (upd H B.l (.ins CH B.dx (hf n c' B.log.l))) B n c' S := by
  refine ⟨upd_same, ⟨(upd_ne h.ne.symm).trans h.log.ins, (upd_ne (ne_of h.log.dict0 h.ins fun z => nomatch z)).trans h.log.dict0, (upd_ne (ne_of h.log.dictk h.ins fun z => nomatch z)).trans h.log.dictk, fun p hp => (upd_ne (ne_of (h.log.mv p hp) h.ins fun z => nomatch z)).trans (h.log.mv p hp), h.log.fine, h.log.keys⟩⟩
local macro_rules | `(tactic| walk_at "rd1") => `(tactic| first
  | refine ⟨_, _, _, _, _, rfl, by assumption, Tx.cl_Hand _, Tx.n_Hand_number _, hf_number .., ?_⟩
  | refine ⟨_, _, _, _, _, rfl, by assumption, Tx.cl_Hand _, Tx.n_Hand_clock _, hf_clock .., ?_⟩
  | refine ⟨_, _, _, _, _, rfl, by assumption, Tx.cl_Hand _, Tx.n_Hand_log _, hf_log .., ?_⟩)
def sp_Hand_init (T : Tx K mg) : Sp := fun vs H Q E => ∃ (x dx : Addr) (v : V), vs = [.ref x, v] ∧ H x = some (.ins T.o_Hand dx []) ∧ Kd H v ∧
  ((numB 0 v = false ∧ E (.ref T.a_NoHand) none H) ∨ ∃ n : Int, v = .int n ∧ numB 0 v = true ∧ ∀ H' B, B.l = x → B.dx = dx → H B.log.l = none → H B.log.dk = none → H B.log.d0 = none → (∀ b o, H b = some o → b ≠ x → H' b = some o) → HandAt T.o_Hand T.o_Log H' B n 0 ⟨0, [], []⟩ → Q .non H')
def spg_Hand_init (T : Tx K mg) : Sp := fun vs H Q _ => ∃ (x dx : Addr) (n : Int), vs = [.ref x, .int n] ∧ H x = some (.ins T.o_Hand dx []) ∧ numB 0 (.int n) = true ∧
  ∀ H' B, B.l = x → B.dx = dx → H B.log.l = none → H B.log.dk = none → H B.log.d0 = none → (∀ b o, H b = some o → b ≠ x → H' b = some o) → HandAt T.o_Hand T.o_Log H' B n 0 ⟨0, [], []⟩ → Q .non H'
set_option maxHeartbeats 1000000 in
theorem ok_Hand_init (T : Tx K mg) : FnOk P w K mg base (L2.CX P w) 3 T.a_Hand_init T.d_Hand_init ["self", "number"] (sp_Hand_init T) := by
  refine T.F_Hand_init.okX sc_Hand_init (fun vs H Q E h => ?_) (fun cdv A outer s H vs Q E hr h => ?_)
  · obtain ⟨x, dx, v, rfl, _⟩ := h
    rfl
  · obtain ⟨x, dx, v, rfl, hx, kd, h⟩ := h
    refine ⟨_, pss_cons (ps_if (pt_not (pt_val (pe_call (ok_is_number T) (hr.mono (by decide)) (by rfl) T.g_is_number T.F_is_number.kp T.b_is_number .nil pass0 (pa_cons (pv 1) (pa_cons pe_int pa_nil))))) (pss_one (ps_raise rfl (takes_of rfl rfl rfl rfl) (pmk_own PySem.F.excBase_ValueError T.x_NoHand T.gc_NoHand T.kc_NoHand (raises_own T.bc_NoHand T.tc_NoHand) rfl))) pss_nil)
      (pss_cons (ps_fld (pv 0) (pv 1) rfl)
      (pss_cons (ps_fld (pv 0) pe_int rfl)
      (pss_one (ps_fld (pv 0) (pe_make0 T.mk_Log (ok_Log_init T) (hr.mono (by decide)) (by rfl) T.go_Log T.b_Log_init .nil pass0) rfl)))), ?_⟩
    rw [st_Hand_init]
    refine ⟨_, rfl, v, 0, rfl, kd, ?_⟩
    rcases h with ⟨hb, q⟩ | ⟨n, rfl, hb, q⟩
    · rw [hb]
      exact ⟨_, rfl, iteT q⟩
    · rw [hb]
      refine ⟨_, rfl, iteF ?_⟩
      refine ⟨_, rfl, _, rfl, x, _, dx, _, rfl, hx, T.cl_Hand, T.n_Hand_number, Nat.zero_lt_succ _, ?_⟩
      refine ⟨_, rfl, x, _, dx, _, rfl, upd_same, T.cl_Hand, T.n_Hand_clock, Nat.succ_lt_succ (Nat.zero_lt_succ _), ?_⟩
      rw [upd_upd]
      have hx1 := upd_same (H := H) (a := x) (o := HO.ins T.o_Hand dx (putF ("clock" : Str) (.int 0) (putF ("number" : Str) (.int n) [])))
      have k1 : ∀ b o, H b = some o → b ≠ x → upd H x (HO.ins T.o_Hand dx (putF ("clock" : Str) (.int 0) (putF ("number" : Str) (.int n) []))) b = some o := fun b o e c => (upd_ne c).trans e
      have f1 : ∀ b, upd H x (HO.ins T.o_Hand dx (putF ("clock" : Str) (.int 0) (putF ("number" : Str) (.int n) []))) b = none → b ≠ x ∧ H b = none := fun b e => by
        have c : b ≠ x := fun z => by rw [z, upd_same] at e; cases e
        rw [upd_ne c] at e
        exact ⟨c, e⟩
      generalize upd H x (HO.ins T.o_Hand dx (putF ("clock" : Str) (.int 0) (putF ("number" : Str) (.int n) []))) = H1 at hx1 k1 f1 ⊢
      intro y dy ny ndy ney
      refine new_log T ny ndy ney fun H2 Lg s2 el nl n0 nk LL => ⟨rfl, ?_⟩
      subst el
      refine ⟨_, rfl, x, _, dx, _, rfl, s2 _ _ hx1, T.cl_Hand, T.n_Hand_log, Nat.succ_lt_succ (Nat.succ_lt_succ (Nat.zero_lt_succ _)), ?_⟩
      have h2 : HandAt T.o_Hand T.o_Log (upd H2 x (.ins T.o_Hand dx (hf n 0 Lg.l))) ⟨x, dx, Lg⟩ n 0 ⟨0, [], []⟩ := by
        have e1 : Lg.l ≠ x := (f1 _ nl).1
        refine ⟨upd_same, (upd_ne e1).trans LL.ins, (upd_ne (ne_of LL.dict0 (s2 _ _ hx1) fun z => nomatch z)).trans LL.dict0, (upd_ne (ne_of LL.dictk (s2 _ _ hx1) fun z => nomatch z)).trans LL.dictk, fun p hp => (nomatch hp), LL.fine, LL.keys⟩
      exact q _ ⟨x, dx, Lg⟩ rfl rfl (f1 _ nl).2 (f1 _ nk).2 (f1 _ n0).2 (fun b o e c => (upd_ne c).trans (s2 _ _ (k1 _ _ e c))) h2
set_option maxHeartbeats 1000000 in
theorem ok_Hand_init_g (T : Tx K mg) : FnOk P w K mg base CX0 3 T.a_Hand_init T.d_Hand_init ["self", "number"] (spg_Hand_init T) := by
  refine T.F_Hand_init.ok sc_Hand_init (fun vs H Q E h => ?_) (fun cdv A outer s H vs Q E hr h => ?_)
  · obtain ⟨x, dx, n, rfl, _⟩ := h
    rfl
  · obtain ⟨x, dx, n, rfl, hx, hb, q⟩ := h
    refine ⟨_, pss_cons (ps_if (pt_not (pt_val (pe_call (ok_is_number T) (hr.mono (by decide)) (by rfl) T.g_is_number T.F_is_number.kp T.b_is_number .nil pass0 (pa_cons (pv 1) (pa_cons pe_int pa_nil))))) (pss_one ps_never) pss_nil)
      (pss_cons (ps_fld (pv 0) (pv 1) rfl)
      (pss_cons (ps_fld (pv 0) pe_int rfl)
      (pss_one (ps_fld (pv 0) (pe_make0 T.mk_Log (ok_Log_init T) (hr.mono (by decide)) (by rfl) T.go_Log T.b_Log_init .nil pass0) rfl)))), ?_⟩
    rw [st_Hand_init]
    refine ⟨_, rfl, .int n, 0, rfl, .int _, ?_⟩
    rw [hb]
    refine ⟨_, rfl, iteF ?_⟩
    refine ⟨_, rfl, _, rfl, x, _, dx, _, rfl, hx, T.cl_Hand, T.n_Hand_number, Nat.zero_lt_succ _, ?_⟩
    refine ⟨_, rfl, x, _, dx, _, rfl, upd_same, T.cl_Hand, T.n_Hand_clock, Nat.succ_lt_succ (Nat.zero_lt_succ _), ?_⟩
    rw [upd_upd]
    have hx1 := upd_same (H := H) (a := x) (o := HO.ins T.o_Hand dx (putF ("clock" : Str) (.int 0) (putF ("number" : Str) (.int n) [])))
    have k1 : ∀ b o, H b = some o → b ≠ x → upd H x (HO.ins T.o_Hand dx (putF ("clock" : Str) (.int 0) (putF ("number" : Str) (.int n) []))) b = some o := fun b o e c => (upd_ne c).trans e
    have f1 : ∀ b, upd H x (HO.ins T.o_Hand dx (putF ("clock" : Str) (.int 0) (putF ("number" : Str) (.int n) []))) b = none → b ≠ x ∧ H b = none := fun b e => by
      have c : b ≠ x := fun z => by rw [z, upd_same] at e; cases e
      rw [upd_ne c] at e
      exact ⟨c, e⟩
    generalize upd H x (HO.ins T.o_Hand dx (putF ("clock" : Str) (.int 0) (putF ("number" : Str) (.int n) []))) = H1 at hx1 k1 f1 ⊢
    intro y dy ny ndy ney
    refine new_log T ny ndy ney fun H2 Lg s2 el nl n0 nk LL => ⟨rfl, ?_⟩
    subst el
    refine ⟨_, rfl, x, _, dx, _, rfl, s2 _ _ hx1, T.cl_Hand, T.n_Hand_log, Nat.succ_lt_succ (Nat.succ_lt_succ (Nat.zero_lt_succ _)), ?_⟩
    have h2 : HandAt T.o_Hand T.o_Log (upd H2 x (.ins T.o_Hand dx (hf n 0 Lg.l))) ⟨x, dx, Lg⟩ n 0 ⟨0, [], []⟩ := by
      have e1 : Lg.l ≠ x := (f1 _ nl).1
      refine ⟨upd_same, (upd_ne e1).trans LL.ins, (upd_ne (ne_of LL.dict0 (s2 _ _ hx1) fun z => nomatch z)).trans LL.dict0, (upd_ne (ne_of LL.dictk (s2 _ _ hx1) fun z => nomatch z)).trans LL.dictk, fun p hp => (nomatch hp), LL.fine, LL.keys⟩
    exact q _ ⟨x, dx, Lg⟩ rfl rfl (f1 _ nl).2 (f1 _ nk).2 (f1 _ n0).2 (fun b o e c => (upd_ne c).trans (s2 _ _ (k1 _ _ e c))) h2
/-! ### Hand.move, hear, tree, settle -/
def sp_Hand_move (T : Tx K mg) : Sp := fun vs H Q E => ∃ (B : HandA) (n c : Int) (S : LogS) (f u : V), vs = [.ref B.l, f, u] ∧ HandAt T.o_Hand T.o_Log H B n c S ∧ Kd H f ∧ Kd H u ∧ S.kept.length ≤ 1000 ∧ (∀ p ∈ S.kept, p.2.t ≤ c) ∧ S.since ≤ c + 1 ∧
  ((moveB (.int (c + 1)) (.int n) f u = false ∧ ∀ H', FrH B H H' → HandAt T.o_Hand T.o_Log H' B n c S → E (.ref T.a_NoMove) none H') ∨
    ∃ fi ui : Int, f = .int fi ∧ u = .int ui ∧ IsMv ⟨c + 1, n, fi, ui⟩ ∧ ∀ H' a, H a = none → FrH B H H' → MvAt H' a ⟨c + 1, n, fi, ui⟩ → HandAt T.o_Hand T.o_Log H' B n (c + 1) ⟨S.since, S.base, S.kept ++ [(a, ⟨c + 1, n, fi, ui⟩)]⟩ → Q (.ref a) H')
set_option maxHeartbeats 1000000 in
theorem ok_Hand_move (T : Tx K mg) : FnOk P w K mg base (L2.CX P w) 4 T.a_Hand_move T.d_Hand_move ["self", "folder", "under"] (sp_Hand_move T) := by
  refine T.F_Hand_move.okX sc_Hand_move (fun vs H Q E h => ?_) (fun cdv A outer s H vs Q E hr h => ?_)
  · obtain ⟨B, n, c, S, f, u, rfl, _⟩ := h
    rfl
  · obtain ⟨B, n, c, S, f, u, rfl, hh, kf, ku, hl, hc, hs, h⟩ := h
    refine ⟨_, pss_cons (ps_set (i := 3) sc_Hand_move.nd rfl (.inl rfl) (pe_tup (pa_cons (pe_op op_add (pe_fld (pv 0) rfl) pe_int) (pa_cons (pe_fld (pv 0) rfl) (pa_cons (pv 1) (pa_cons (pv 2) pa_nil))))))
      (pss_cons (ps_expr (pe_meth (pe_fld (pv 0) rfl) T.cl_Log T.mt_Log_hear (ok_Log_hear T) (hr.mono (by decide)) T.b_Log_hear .nil (passes_call (takes_of rfl rfl rfl rfl) (fun _ _ _ _ h => h)) (pa_cons (pv 3) pa_nil)))
      (pss_cons (ps_fld (pv 0) (pe_ix ix_tup (pv 3) pe_int (fun _ _ => rfl)) rfl)
      (pss_one (ps_ret (pv 3))))), ?_⟩
    rw [st_Hand_move]
    have hi := hh.ins
    walk_at "rd"
    intro a n_a
    have s_a := same_upd (o := HO.tup [V.int (c + 1), V.int n, f, u]) n_a
    have t_a := upd_same (H := H) (a := a) (o := HO.tup [V.int (c + 1), V.int n, f, u])
    generalize upd H a (HO.tup [V.int (c + 1), V.int n, f, u]) = H1 at s_a t_a ⊢
    have h1 := hh.same s_a
    have hi1 := h1.ins
    walk_at "rd"
    refine ⟨B.log.l, B.log.dx, _, rfl, h1.log.ins, rfl, _, rfl, ?_⟩
    rcases h with ⟨hb, q⟩ | ⟨fi, ui, rfl, rfl, im, q⟩
    · refine ⟨B.log, S, .ref a, none, rfl, h1.log, .inl ⟨a, _, _, _, _, rfl, t_a, .int _, .int _, kf.same s_a, ku.same s_a, hb⟩, hl, fun H' fr L' => ?_⟩
      exact q H' (fun b o e n1 n2 n3 => fr _ _ (s_a _ _ e) n2 n3) (h1.hear fr L')
    · have e0 : ∀ p ∈ S.kept, ¬ SameKey p.2 ⟨c + 1, n, fi, ui⟩ := fun p hp k => by
        have h1 : p.2.t = c + 1 := k.1
        have := hc p hp
        omega
      have n1 : ¬ (⟨c + 1, n, fi, ui⟩ : Mv).t < S.since := by show ¬ c + 1 < S.since; omega
      have n2 : isClash S ⟨c + 1, n, fi, ui⟩ = false := by
        cases k : isClash S ⟨c + 1, n, fi, ui⟩ with
        | false => rfl
        | true =>
          obtain ⟨p, hp, hk⟩ := List.any_eq_true.mp k
          exact absurd (of_decide_eq_true hk).1 (e0 p hp)
      have n3 : ¬ S.has ⟨c + 1, n, fi, ui⟩ = true := fun k => by
        obtain ⟨p, hp, hk⟩ := List.any_eq_true.mp k
        exact e0 p hp (of_decide_eq_true hk)
      have eo := out_new (a := a) n1 n2 n3
      refine ⟨B.log, S, .ref a, some (a, ⟨c + 1, n, fi, ui⟩), rfl, h1.log, ⟨rfl, t_a, im⟩, hl, fun H2 fr L2' => ?_⟩
      rw [got_new eo] at L2'
      rw [eo]
      have h2 := h1.hear fr L2'
      have hi2 := h2.ins
      have ha2 : MvAt H2 a ⟨c + 1, n, fi, ui⟩ := fr _ _ t_a (ne_of t_a h1.log.ins fun z => nomatch z) (ne_of t_a h1.log.dictk fun z => nomatch z)
      have haS2 := SqT.of (K := K) ha2
      have at0 : atI [V.int (c + 1), V.int n, V.int fi, V.int ui] 0 = some (.int (c + 1)) := atI_nat (j := 0) rfl
      dsimp only [dueX]
      walk_at "rd"
      refine ⟨B.l, T.o_Hand, B.dx, _, rfl, hi2, T.cl_Hand, T.n_Hand_clock, by show 3 < 1000; omega, ?_⟩
      rw [hf_put_clock]
      have h3 := h2.tick (c' := c + 1)
      have ha3 := (upd_ne (o := HO.ins T.o_Hand B.dx (hf n (c + 1) B.log.l)) (ne_of ha2 hi2 fun z => nomatch z)).trans ha2
      have k3 : ∀ b o, H2 b = some o → b ≠ B.l → upd H2 B.l (.ins T.o_Hand B.dx (hf n (c + 1) B.log.l)) b = some o := fun b o e n => (upd_ne n).trans e
      generalize upd H2 B.l (.ins T.o_Hand B.dx (hf n (c + 1) B.log.l)) = H3 at h3 ha3 k3 ⊢
      walk_at "rd"
      exact q H3 a n_a (fun b o e m1 m2 m3 => k3 _ _ (fr _ _ (s_a _ _ e) m2 m3) m1) ha3 h3
/-- the clock behind a hearing -/
def clockOf (c : Int) (S : LogS) (o : Option AM) : Int := match outOf S o, o with
  | .kept, some z => if z.2.t > c then z.2.t else c
  | .new, some z => if z.2.t > c then z.2.t else c
  | _, _ => c
def sp_Hand_hear (T : Tx K mg) : Sp := fun vs H Q E => ∃ (B : HandA) (n c : Int) (S : LogS) (v : V) (o : Option AM), vs = [.ref B.l, v] ∧ HandAt T.o_Hand T.o_Log H B n c S ∧ VAt H v o ∧ S.kept.length ≤ 1000 ∧
  ∀ H', FrH B H H' → HandAt T.o_Hand T.o_Log H' B n (clockOf c S o) (S.got o) → dueX T Q E H' (outOf S o)
set_option maxHeartbeats 1000000 in
theorem ok_Hand_hear (T : Tx K mg) : FnOk P w K mg base (L2.CX P w) 4 T.a_Hand_hear T.d_Hand_hear ["self", "move"] (sp_Hand_hear T) := by
  refine T.F_Hand_hear.okX sc_Hand_hear (fun vs H Q E h => ?_) (fun cdv A outer s H vs Q E hr h => ?_)
  · obtain ⟨B, n, c, S, v, o, rfl, _⟩ := h
    rfl
  · obtain ⟨B, n, c, S, v, o, rfl, hh, hv, hl, q⟩ := h
    refine ⟨_, pss_cons (ps_set (i := 2) sc_Hand_hear.nd rfl (.inl rfl) (pe_meth (pe_fld (pv 0) rfl) T.cl_Log T.mt_Log_hear (ok_Log_hear T) (hr.mono (by decide)) T.b_Log_hear .nil (passes_call (takes_of rfl rfl rfl rfl) (fun _ _ _ _ h => h)) (pa_cons (pv 1) pa_nil)))
      (pss_cons (ps_fld (pv 0) (pe_callB (call_max2 rfl) (by rfl) T.m_max (by decide +kernel) (pa_cons (pe_fld (pv 0) rfl) (pa_cons (pe_ix ix_tup (pv 1) pe_int (fun _ _ => rfl)) pa_nil))) rfl)
      (pss_one (ps_ret (pv 2)))), ?_⟩
    rw [st_Hand_hear]
    have hi := hh.ins
    walk_at "rd"
    refine ⟨B.log.l, B.log.dx, _, rfl, hh.log.ins, rfl, _, rfl, B.log, S, v, o, rfl, hh.log, hv, hl, fun H1 fr L1 => ?_⟩
    have h1 := hh.hear fr L1
    have fH : FrH B H H1 := fun b o e _ n2 n3 => fr _ _ e n2 n3
    cases e : outOf S o with
    | noMove =>
      have z := q H1 fH
      unfold clockOf at z
      rw [e] at z
      exact z h1
    | tooLate =>
      have z := q H1 fH
      unfold clockOf at z
      rw [e] at z
      exact z h1
    | clash =>
      have z := q H1 fH
      unfold clockOf at z
      rw [e] at z
      exact z h1
    | kept =>
      cases o with
      | none => cases e
      | some z =>
        have hz : MvAt H z.1 z.2 := hv.2.1
        obtain rfl : v = .ref z.1 := hv.1
        have hz1 := fr _ _ hz (ne_of hz hh.log.ins fun z => nomatch z) (ne_of hz hh.log.dictk fun z => nomatch z)
        have hzS := SqT.of (K := K) hz1
        have at0 : atI [V.int z.2.t, V.int z.2.h, V.int z.2.f, V.int z.2.u] 0 = some (.int z.2.t) := atI_nat (j := 0) rfl
        have hi1 := h1.ins
        have ec : clockOf c S (some z) = if z.2.t > c then z.2.t else c := by
          unfold clockOf
          rw [e]
        dsimp only [dueX]
        walk_at "rd"
        refine ⟨B.l, T.o_Hand, B.dx, _, rfl, hi1, T.cl_Hand, T.n_Hand_clock, by show 3 < 1000; omega, ?_⟩
        rw [hf_put_clock]
        have h3 := h1.tick (c' := if z.2.t > c then z.2.t else c)
        have k3 : ∀ b o, H1 b = some o → b ≠ B.l → upd H1 B.l (.ins T.o_Hand B.dx (hf n (if z.2.t > c then z.2.t else c) B.log.l)) b = some o := fun b o e n => (upd_ne n).trans e
        have w := q _ (fun b o e m1 m2 m3 => k3 _ _ (fH _ _ e m1 m2 m3) m1) (by rw [ec]; exact h3)
        rw [e] at w
        walk_at "rd"
        exact w
    | new =>
      cases o with
      | none => cases e
      | some z =>
        have hz : MvAt H z.1 z.2 := hv.2.1
        obtain rfl : v = .ref z.1 := hv.1
        have hz1 := fr _ _ hz (ne_of hz hh.log.ins fun z => nomatch z) (ne_of hz hh.log.dictk fun z => nomatch z)
        have hzS := SqT.of (K := K) hz1
        have at0 : atI [V.int z.2.t, V.int z.2.h, V.int z.2.f, V.int z.2.u] 0 = some (.int z.2.t) := atI_nat (j := 0) rfl
        have hi1 := h1.ins
        have ec : clockOf c S (some z) = if z.2.t > c then z.2.t else c := by
          unfold clockOf
          rw [e]
        dsimp only [dueX]
        walk_at "rd"
        refine ⟨B.l, T.o_Hand, B.dx, _, rfl, hi1, T.cl_Hand, T.n_Hand_clock, by show 3 < 1000; omega, ?_⟩
        rw [hf_put_clock]
        have h3 := h1.tick (c' := if z.2.t > c then z.2.t else c)
        have k3 : ∀ b o, H1 b = some o → b ≠ B.l → upd H1 B.l (.ins T.o_Hand B.dx (hf n (if z.2.t > c then z.2.t else c) B.log.l)) b = some o := fun b o e n => (upd_ne n).trans e
        have w := q _ (fun b o e m1 m2 m3 => k3 _ _ (fH _ _ e m1 m2 m3) m1) (by rw [ec]; exact h3)
        rw [e] at w
        walk_at "rd"
        exact w
def sp_Hand_tree (T : Tx K mg) : Sp := fun vs H Q _ => ∃ (B : HandA) (n c : Int) (S : LogS), vs = [.ref B.l] ∧ HandAt T.o_Hand T.o_Log H B n c S ∧ S.base.length + S.kept.length ≤ 800 ∧
  ∀ H' p ms, Same H H' → H p = none → H' p = some (.dK (kvT (foldT S.base (mvs ms)))) → Told S ms → Q (.ref p) H'
theorem ok_Hand_tree (T : Tx K mg) : FnOk P w K mg base CX0 4 T.a_Hand_tree T.d_Hand_tree ["self"] (sp_Hand_tree T) := by
  refine T.F_Hand_tree.ok sc_Hand_tree (fun vs H Q E h => ?_) (fun cdv A outer s H vs Q E hr h => ?_)
  · obtain ⟨B, n, c, S, rfl, _⟩ := h
    rfl
  · obtain ⟨B, n, c, S, rfl, hh, hl, q⟩ := h
    refine ⟨_, pss_one (ps_ret (pe_meth0 (pe_fld (pv 0) rfl) T.cl_Log T.mt_Log_tree (ok_Log_tree T) (hr.mono (by decide)) T.b_Log_tree .nil pass0)), ?_⟩
    rw [st_Hand_tree]
    have hi := hh.ins
    walk_at "rd"
    exact ⟨B.log.l, B.log.dx, _, rfl, hh.log.ins, rfl, B.log, S, rfl, hh.log, hl, q⟩
def sp_Hand_settle (T : Tx K mg) : Sp := fun vs H Q _ => ∃ (B : HandA) (n c : Int) (S : LogS) (time : Int), vs = [.ref B.l, .int time] ∧ HandAt T.o_Hand T.o_Log H B n c S ∧ S.base.length + S.kept.length ≤ 800 ∧
  ∀ H' d0 dk ms, (S.since < time → Told S ms) → (∀ b o, H b = some o → b ≠ B.l → b ≠ B.log.l → H' b = some o) → (d0 = B.log.d0 ∨ H d0 = none) → (dk = B.log.dk ∨ H dk = none) → HandAt T.o_Hand T.o_Log H' ⟨B.l, B.dx, ⟨B.log.l, B.log.dx, d0, dk⟩⟩ n (if time - 1 > c then time - 1 else c) (S.settle time ms) → Q (.int (if time ≤ S.since then 0 else (goneOf time ms).length)) H'
set_option maxHeartbeats 1000000 in
theorem ok_Hand_settle (T : Tx K mg) : FnOk P w K mg base CX0 4 T.a_Hand_settle T.d_Hand_settle ["self", "time"] (sp_Hand_settle T) := by
  refine T.F_Hand_settle.ok sc_Hand_settle (fun vs H Q E h => ?_) (fun cdv A outer s H vs Q E hr h => ?_)
  · obtain ⟨B, n, c, S, time, rfl, _⟩ := h
    rfl
  · obtain ⟨B, n, c, S, time, rfl, hh, hl, q⟩ := h
    refine ⟨_, pss_cons (ps_set (i := 2) sc_Hand_settle.nd rfl (.inl rfl) (pe_meth (pe_fld (pv 0) rfl) T.cl_Log T.mt_Log_settle (ok_Log_settle T) (hr.mono (by decide)) T.b_Log_settle .nil pass0 (pa_cons (pv 1) pa_nil)))
      (pss_cons (ps_fld (pv 0) (pe_callB (call_max2 rfl) (by rfl) T.m_max (by decide +kernel) (pa_cons (pe_fld (pv 0) rfl) (pa_cons (pe_op op_sub (pv 1) pe_int) pa_nil))) rfl)
      (pss_one (ps_ret (pv 2)))), ?_⟩
    rw [st_Hand_settle]
    have hi := hh.ins
    walk_at "rd"
    refine ⟨B.log.l, B.log.dx, _, rfl, hh.log.ins, rfl, _, rfl, B.log, S, time, rfl, hh.log, hl, fun H1 d0 dk ms td fr n0 nk L1 => ?_⟩
    have h1 : HandAt T.o_Hand T.o_Log H1 ⟨B.l, B.dx, ⟨B.log.l, B.log.dx, d0, dk⟩⟩ n c (S.settle time ms) := ⟨fr _ _ hh.ins hh.ne, L1⟩
    have hi1 : H1 B.l = some (.ins T.o_Hand B.dx (hf n c B.log.l)) := h1.ins
    walk_at "rd"
    refine ⟨B.l, T.o_Hand, B.dx, _, rfl, hi1, T.cl_Hand, T.n_Hand_clock, by show 3 < 1000; omega, ?_⟩
    rw [hf_put_clock]
    have h2 := h1.tick (c' := if time - 1 > c then time - 1 else c)
    have k2 : ∀ b o, H1 b = some o → b ≠ B.l → upd H1 B.l (.ins T.o_Hand B.dx (hf n (if time - 1 > c then time - 1 else c) B.log.l)) b = some o := fun b o e n => (upd_ne n).trans e
    walk_at "rd"
    exact q _ d0 dk ms td (fun b o e n1 n2 => k2 _ _ (fr _ _ e n2) n1) n0 nk h2
/-! ### _law_heard -/
def sp_law_heard (T : Tx K mg) : Sp := fun vs H Q _ => ∃ (B : HandA) (n c : Int) (S : LogS) (v : V) (o : Option AM), vs = [.ref B.l, v] ∧ HandAt T.o_Hand T.o_Log H B n c S ∧ VAt H v o ∧ S.kept.length ≤ 1000 ∧
  ∀ H', FrH B H H' → HandAt T.o_Hand T.o_Log H' B n (clockOf c S o) (S.got o) → Q (ansV (outOf S o)) H'
set_option maxHeartbeats 1000000 in
theorem ok_law_heard (T : Tx K mg) : FnOk P w K mg base CX0 5 T.a_law_heard T.d_law_heard ["_law_log", "_law_move"] (sp_law_heard T) := by
  refine T.F_law_heard.ok sc_law_heard (fun vs H Q E h => ?_) (fun cdv A outer s H vs Q E hr h => ?_)
  · obtain ⟨B, n, c, S, v, o, rfl, _⟩ := h
    rfl
  · obtain ⟨B, n, c, S, v, o, rfl, hh, hv, hl, q⟩ := h
    refine ⟨_, pss_one (ps_try_many (Wout := fun _ _ _ _ => False) rfl rfl takes0 (fun W pn xe tk _ => pss_one (ps_ret (pe_methX (pv 0) T.cl_Hand T.mt_Hand_hear (ok_Hand_hear T) (hr.mono (by decide)) T.b_Hand_hear (fun σ => passAt tk σ) (by exact (pa_cons (pv 1) pa_nil))))) (HdsOk.cons ⟨rfl, by decide, .inl T.gc_NoHand⟩ (fun a oe cls d pn hz hf => pss_one (ps_ret pe_str)) (HdsOk.cons ⟨rfl, by decide, .inl T.gc_Clash⟩ (fun a oe cls d pn hz hf => pss_one (ps_ret pe_str)) (HdsOk.cons ⟨rfl, by decide, .inl T.gc_TooLate⟩ (fun a oe cls d pn hz hf => pss_one (ps_ret pe_str)) (HdsOk.cons ⟨rfl, by decide, .inl T.gc_NoMove⟩ (fun a oe cls d pn hz hf => pss_one (ps_ret pe_str)) HdsOk.nil))))), ?_⟩
    rw [st_law_heard]
    refine ⟨_, rfl, B.l, B.dx, _, rfl, hh.ins, rfl, _, rfl, B, n, c, S, v, o, rfl, hh, hv, hl, fun H' fr h' => ?_⟩
    have q := q H' fr h'
    cases e : outOf S o with
    | clash =>
      rw [e] at q
      exact ⟨false, T.em_Clash_NoHand, fun z => (nomatch z), fun _ => ⟨true, T.em_Clash_Clash, fun _ a ha => q, fun z => nomatch z⟩⟩
    | tooLate =>
      rw [e] at q
      exact ⟨false, T.em_TooLate_NoHand, fun z => (nomatch z), fun _ => ⟨false, T.em_TooLate_Clash, fun z => (nomatch z), fun _ => ⟨true, T.em_TooLate_TooLate, fun _ a ha => q, fun z => nomatch z⟩⟩⟩
    | noMove =>
      rw [e] at q
      exact ⟨false, T.em_NoMove_NoHand, fun z => (nomatch z), fun _ => ⟨false, T.em_NoMove_Clash, fun z => (nomatch z), fun _ => ⟨false, T.em_NoMove_TooLate, fun z => (nomatch z), fun _ => ⟨true, T.em_NoMove_NoMove, fun _ a ha => q, fun z => nomatch z⟩⟩⟩⟩
    | kept =>
      rw [e] at q
      exact q
    | new =>
      rw [e] at q
      exact q
/-! ### _law_no_hand -/
def tsNH (T : Tx K mg) : Addr → Value → Option Addr → TS := fun a cls d D σ H => (cls = .ref T.a_NoHand ∧ d = none) ∧
  tSeq (tIfS (tB (tCB (rIsET K T.a_NoHand a) (tCons (tVar 1) (tCons (tTup (tCons (tC (.ref T.a_NoMove)) (tCons (tC (.ref T.a_TooLate)) (tCons (tC (.ref T.a_Clash)) tNil)))) tNil)))) (tRet (tC (.bl false))) tNext)
    (tRet (tAndV (tCB (rIsE K T.a_NoHand a) (tCons (tVar 1) (tCons (tC (.ref T.a_TreeError)) tNil))) (tCB (rIsE K T.a_NoHand a) (tCons (tVar 1) (tCons (tC (.ty "ValueError")) tNil))))) D σ H
def sp_law_no_hand (T : Tx K mg) : Sp := fun vs H Q _ => ∃ c : Int, vs = [.int c] ∧ ∀ H', Same H H' → Q (.bl true) H'
set_option maxHeartbeats 2000000 in
theorem ok_law_no_hand (T : Tx K mg) : FnOk P w K mg base CX0 5 T.a_law_no_hand T.d_law_no_hand ["_law_cell"] (sp_law_no_hand T) := by
  refine T.F_law_no_hand.ok sc_law_no_hand (fun vs H Q E h => ?_) (fun cdv A outer s H vs Q E hr h => ?_)
  · obtain ⟨c, rfl, _⟩ := h
    rfl
  · obtain ⟨c, rfl, q⟩ := h
    have hp := p60
    refine ⟨_, pss_cons (ps_try_as (i := 1) (ts := tsNH T) (Wout := fun _ _ _ _ => False) rfl rfl sc_law_no_hand.nd rfl rfl ⟨rfl, by decide, .inl T.gc_NoHand⟩ takes0 (fun W pn xe tk _ => pss_one (ps_expr (pe_makeX T.mk_Hand (ok_Hand_init T) (hr.mono (by decide)) (by rfl) T.go_Hand T.b_Hand_init (fun σ => passAt tk σ) (by exact (pa_cons (pe_ix (r := rIxL K) ix_list (pe_lst (pa_cons (pe_un un_neg pe_int) (pa_cons (pe_op op_add (pe_op op_pow pe_int pe_int) pe_int) (pa_cons pe_bl (pa_cons pe_non (pa_cons pe_str pa_nil)))))) (pe_op op_mod (pv 0) pe_int) (fun _ _ => rfl)) pa_nil)))))
        (fun a oe cls d pn hz hf => ⟨fun pins s σ H D I h => by
          obtain ⟨⟨rfl, rfl⟩, h⟩ := h
          exact (pss_cons (ps_if (pt_val (pe_callB (call_isET T.ec_NoHand hz hf) (by rfl) T.m_isinstance (by decide +kernel) (pa_cons (pv 1) (pa_cons (pe_tup (pa_cons (pe_glob (v := .ref T.a_NoMove) (by rfl) T.gc_NoMove rfl) (pa_cons (pe_glob (v := .ref T.a_TooLate) (by rfl) T.gc_TooLate rfl) (pa_cons (pe_glob (v := .ref T.a_Clash) (by rfl) T.gc_Clash rfl) pa_nil)))) pa_nil)))) (pss_one (ps_ret pe_bl)) pss_nil)
            (pss_one (ps_ret (pe_and (pe_callB (call_isE T.ec_NoHand hz hf) (by rfl) T.m_isinstance (by decide +kernel) (pa_cons (pv 1) (pa_cons (pe_glob (v := .ref T.a_TreeError) (by rfl) T.gc_TreeError rfl) pa_nil))) (pe_one (pe_callB (call_isE T.ec_NoHand hz hf) (by rfl) T.m_isinstance (by decide +kernel) (pa_cons (pv 1) (pa_cons (pe_bltn (v := .ty "ValueError") (by rfl) T.m_ValueError (by decide +kernel) rfl) pa_nil)))))))).run pins s σ H D I h⟩))
      (pss_one (ps_ret pe_bl)), ?_⟩
    rw [st_law_no_hand]
    walk_at "rd"
    intro l n_l
    have s_l := same_upd (o := HO.lst [V.int (-1), V.int (10 ^ Int.toNat 60 + 1), V.bl true, V.non, V.str (Str.ofString "0")]) n_l
    have t_l := upd_same (H := H) (a := l) (o := HO.lst [V.int (-1), V.int (10 ^ Int.toNat 60 + 1), V.bl true, V.non, V.str (Str.ofString "0")])
    generalize upd H l (HO.lst [V.int (-1), V.int (10 ^ Int.toNat 60 + 1), V.bl true, V.non, V.str (Str.ofString "0")]) = H1 at s_l t_l ⊢
    have hat : ∃ x, atI [V.int (-1), V.int (10 ^ Int.toNat 60 + 1), V.bl true, V.non, V.str (Str.ofString "0")] (c % 5) = some x ∧ Kd H1 x ∧ numB 0 x = false := by
      have h : c % 5 = 0 ∨ c % 5 = 1 ∨ c % 5 = 2 ∨ c % 5 = 3 ∨ c % 5 = 4 := by omega
      rw [hp]
      rcases h with h | h | h | h | h <;> rw [h]
      · exact ⟨_, atI_nat (j := 0) rfl, .int _, numB_lo (by decide)⟩
      · exact ⟨_, atI_nat (j := 1) rfl, .int _, numB_hi (by decide)⟩
      · exact ⟨_, atI_nat (j := 2) rfl, .bl _, rfl⟩
      · exact ⟨_, atI_nat (j := 3) rfl, .non, rfl⟩
      · exact ⟨_, atI_nat (j := 4) rfl, .str _, rfl⟩
    obtain ⟨x, hx, kx, bx⟩ := hat
    have lS := SqL.of (K := K) t_l
    walk_at "rd"
    intro y dy ny ndy ney
    have s0 : Same H1 (upd (upd H1 dy (.own y)) y (.ins T.o_Hand dy [])) := (same_upd ndy).trans (same_upd (by rw [upd_ne ney.symm]; exact ny))
    refine ⟨y, dy, x, rfl, upd_same, kx.same s0, .inl ⟨bx, ?_⟩⟩
    have s01 := s_l.trans s0
    generalize upd (upd H1 dy (.own y)) y (.ins T.o_Hand dy []) = H2 at s01 ⊢
    refine ⟨true, T.em_NoHand_NoHand, fun _ a ha => ⟨⟨rfl, rfl⟩, ?_⟩, fun z => Bool.noConfusion z⟩
    refine ⟨_, rfl, by show 3 ≤ sizeLine; decide, ?_⟩
    intro tp n_tp
    have s_tp := same_upd (o := HO.tup [V.ref T.a_NoMove, V.ref T.a_TooLate, V.ref T.a_Clash]) n_tp
    have t_tp := upd_same (H := H2) (a := tp) (o := HO.tup [V.ref T.a_NoMove, V.ref T.a_TooLate, V.ref T.a_Clash])
    generalize upd H2 tp (HO.tup [V.ref T.a_NoMove, V.ref T.a_TooLate, V.ref T.a_Clash]) = H3 at s_tp t_tp ⊢
    have k1 := kit_exm T.em_NoHand_NoMove T.em_NoMove_NoMove
    have k2 := kit_exm T.em_NoHand_TooLate T.em_TooLate_TooLate
    have k3 := kit_exm T.em_NoHand_Clash T.em_Clash_Clash
    refine ⟨tp, _, [.ref T.a_NoMove, .ref T.a_TooLate, .ref T.a_Clash], false, rfl, t_tp, .cons (.own _) (.cons (.own _) (.cons (.own _) .nil)), ?_, _, rfl, iteF ?_⟩
    · unfold PySem.W.kitAny
      rw [k1]
      show PySem.W.kitAny K _ _ = _
      unfold PySem.W.kitAny
      rw [k2]
      show PySem.W.kitAny K _ _ = _
      unfold PySem.W.kitAny
      rw [k3]
      rfl
    · refine ⟨_, rfl, .ref T.a_TreeError, .ref T.a_TreeError, true, rfl, (fun u h => h), kit_exm T.em_NoHand_TreeError T.em_TreeError_TreeError, _, rfl, iteT ?_⟩
      refine ⟨_, rfl, .ty "ValueError", .type "ValueError", true, rfl, (fun u h => h), T.kv_NoHand, ?_⟩
      exact q _ (s01.trans s_tp)
/-! ### _law_steps_of -/
def sp_law_steps_of (K : PySem.W.Frag) : Sp := fun vs H Q _ => ∃ (d p : Addr) (t : List (Int × Int)) (ms : List AM), vs = [.ref d, .ref p] ∧ H d = some (.dK (kvT t)) ∧ H p = some (.lst (refsA ms)) ∧ (∀ x ∈ ms, MvAt H x.1 x.2) ∧ Fine t ∧ t.length + ms.length ≤ 800 ∧
  ∀ H' q' rows, Same H H' → H q' = none → H' q' = some (.lst (rows.map fun x => V.ref x.s)) → RowsAt H H' rows ms (stepsT t (mvs ms)) → Q (.ref q') H'
set_option maxHeartbeats 2000000 in
theorem ok_law_steps_of (T : Tx K mg) : FnOk P w K mg base CX0 2 T.a_law_steps_of T.d_law_steps_of ["_law_base", "_law_moves"] (sp_law_steps_of K) := by
  refine T.F_law_steps_of.ok sc_law_steps_of (fun vs H Q E h => ?_) (fun cdv A outer s H vs Q E hr h => ?_)
  · obtain ⟨d, p, t, ms, rfl, _⟩ := h
    rfl
  · obtain ⟨d, p, t, ms, rfl, hd, hp, hm, F, hz, q⟩ := h
    have hu := hu_of hr
    refine ⟨_, pss_cons (ps_set (i := 2) sc_law_steps_of.nd rfl (.inl rfl) (pe_callTy call_dictD (by rfl) T.m_dict (by decide +kernel) (pa_cons (pv 0) pa_nil)))
      (pss_cons (ps_set (i := 3) sc_law_steps_of.nd rfl (.inl rfl) (pe_lst pa_nil))
      (pss_cons (ps_for PassesOwn.never rfl (pi_list (pv 1)) (pg_name (i := 4) sc_law_steps_of.nd rfl (Or.inl rfl)) (pss_cons (ps_set (i := 5) sc_law_steps_of.nd rfl (.inl rfl) (pe_call (ok_law_way T) (hr.mono (by decide)) (by rfl) T.g_law_way T.F_law_way.kp T.b_law_way .nil pass0 (pa_cons (pv 2) (pa_cons (pe_ix ix_tup (pv 4) pe_int (fun _ _ => rfl)) pa_nil))))
      (pss_one (ps_if (pt_cmpR op_in_seq (pe_ix ix_tup (pv 4) pe_int (fun _ _ => rfl)) (pv 5) (by rfl)) (pss_one (ps_expr (pe_bm PySem.F.plainAttrs_list PySem.F.slot_list_append PySem.F.type_list_append mt_append (pv 3) (pa_cons (pe_tup (pa_cons (pv 4) (pa_cons (pe_slice sl_list (pv 5) po_none (po_some (pe_op op_add (pe_bm PySem.F.plainAttrs_list PySem.F.slot_list_index PySem.F.type_list_index mt_index (pv 5) (pa_cons (pe_ix ix_tup (pv 4) pe_int (fun _ _ => rfl)) pa_nil)) pe_int))) pa_nil))) pa_nil)))) (pss_cons (ps_expr (pe_bm PySem.F.plainAttrs_list PySem.F.slot_list_append PySem.F.type_list_append mt_append (pv 3) (pa_cons (pe_tup (pa_cons (pv 4) (pa_cons (pe_lst pa_nil) pa_nil))) pa_nil)))
      (pss_one (ps_dput hu (pv 2) (pe_ix ix_tup (pv 4) pe_int (fun _ _ => rfl)) (pe_ix ix_tup (pv 4) pe_int (fun _ _ => rfl)) rfl)))))))
      (pss_one (ps_ret (pv 3))))), ?_⟩
    rw [st_law_steps_of]
    refine ⟨_, rfl, d, _, rfl, .inl hd, fun d' nd' => ?_⟩
    have s1 := same_upd (o := HO.dK (kvT t)) nd'
    refine ⟨Nat.zero_le _, fun q' nq' => ?_⟩
    have s2 := s1.trans (same_upd (o := HO.lst []) nq')
    have dq : d' ≠ q' := fun e => by rw [← e, upd_same] at nq'; cases nq'
    have nq : H q' = none := by rw [upd_ne (fun e => dq e.symm)] at nq'; exact nq'
    walk_at "nm"
    refine ⟨_, rfl, p, rfl, ⟨_, SqL.of (s2 _ _ hp)⟩, for_list (K := K) (a := p) (xs := refsA ms) (fun i σ H2 => ∃ v3 v4 rows, σ = [some (.ref d), some (.ref p), some (.ref d'), some (.ref q'), v3, v4] ∧ Same H H2 ∧
        H2 d' = some (.dK (kvT (foldT t (mvs (ms.take i))))) ∧ H2 q' = some (.lst (rows.map fun x => V.ref x.s)) ∧ RowsAt H H2 rows (ms.take i) (stepsT t (mvs (ms.take i))))
      ⟨none, none, [], rfl, s2, (upd_ne dq).trans upd_same, upd_same, ⟨fun r hr => (nomatch hr), fun r hr => (nomatch hr), List.nodup_nil, rfl, rfl⟩⟩ (fun i σ H2 _ ⟨_, _, _, _, z, _⟩ => SqL.of (z _ _ hp)) ?_ ?_⟩
    · rintro i x σ H2 hi ⟨v3, v4, rows, rfl, s3, hd3, hq3, R⟩
      unfold refsA at hi
      rw [List.getElem?_map] at hi
      obtain ⟨z, hzi, rfl⟩ := Option.map_eq_some_iff.mp hi
      have il : i < ms.length := (List.getElem?_eq_some_iff.mp hzi).1
      have hz3 : MvAt H2 z.1 z.2 := s3 _ _ (hm z (List.mem_of_getElem? hzi))
      have hS3 := SqT.of (K := K) hz3
      have F3 : Fine (foldT t (mvs (ms.take i))) := F.fold
      have l3 : (foldT t (mvs (ms.take i))).length ≤ t.length + i := Nat.le_trans foldT_length (by unfold mvs; rw [List.length_map, List.length_take]; omega)
      have l4 := F3.small z.2.u
      obtain ⟨e1, e2⟩ := foldT_take (t := t) hzi
      rw [e1, e2, List.take_add_one, hzi]
      revert hd3 R F3 l3 l4
      generalize foldT t (mvs (ms.take i)) = ti
      intro hd3 R F3 l3 l4
      have rl : rows.length = i := by rw [← List.length_map (f := (·.m)) (as := rows), R.ms, List.length_take]; omega
      walk_at "rd"
      refine ⟨d', ti, z.2.u, wayOf ti z.2.u, rfl, hd3, F3.way _, by omega, fun H3 pw s4 npw hpw => ?_⟩
      have hq4 := s4 _ _ hq3
      have hS4 := SqT.of (K := K) (s4 _ _ hz3)
      walk_at "rd"
      refine ⟨pw, _, rfl, .inl (SqL.of hpw), rfl, flats _, _, rfl, ?_⟩
      rw [inV_ints]
      refine ite2 (fun c => ?_) (fun c => ?_)
      · have c := of_decide_eq_true c
        obtain ⟨j, j1, j2, j3, j4⟩ := upTo_at c
        refine ⟨_, rfl, .inl ⟨rfl, _, SqL.of hq4⟩, _, rfl, _, rfl, ?_⟩
        refine ⟨_, rfl, .inl ⟨rfl, _, SqL.of hpw⟩, ?_⟩
        walk_at "rd"
        refine ⟨pw, _, _, j, _, rfl, rfl, SqL.of hpw, rfl, flats _, at_ints j2, (eqV_int _ _).trans (decide_eq_true rfl), not_ints j3, _, _, rfl, rfl, _, rfl, pw, _, rfl, SqL.of hpw, fun w2 nw => ?_⟩
        have ew : cutV ((wayOf ti z.2.u).map V.int) none (some ((j : Int) + 1)) = (stepW ti z.2).map V.int := by
          unfold stepW
          rw [if_pos c, j4, List.map_take]
          exact cut_take _ (j + 1) (by rw [List.length_map]; exact j1)
        rw [ew]
        have s5 := same_upd (o := HO.lst ((stepW ti z.2).map V.int)) nw
        refine ⟨small1000 (by show 1 ≤ 1000; omega), fun r2 nr => ?_⟩
        have s6 := same_upd (o := HO.tup [.ref z.1, .ref w2]) nr
        refine ⟨q', _, _, rfl, rfl, s6 _ _ (s5 _ _ hq4), small1000 (by rw [List.length_map]; omega), ?_⟩
        have s7 := s4.trans (s5.trans s6)
        refine ⟨_, _, rows ++ [⟨r2, w2, z, stepW ti z.2⟩], rfl, same_set (s3.trans s7) nq, ?_, by rw [upd_same, List.map_append]; rfl,
          rows_snoc (r := ⟨r2, w2, z, stepW ti z.2⟩) hq3 R (fun b xs e => s7 _ _ e) (fun b xs e => s7 _ _ e) (s6 _ _ upd_same) upd_same (s4.free nw) ((s3.trans s4).free nw) ((s3.trans (s4.trans s5)).free nr)⟩
        rw [upd_ne dq, show stepT ti z.2 = ti from if_pos c]
        exact s7 _ _ hd3
      · have c : ¬ z.2.f ∈ wayOf ti z.2.u := fun e => c (decide_eq_true e)
        refine ⟨_, rfl, .inl ⟨rfl, _, SqL.of hq4⟩, _, rfl, Nat.zero_le _, fun w2 nw => ?_⟩
        have s5 := same_upd (o := HO.lst []) nw
        refine ⟨small1000 (by show 1 ≤ 1000; omega), fun r2 nr => ?_⟩
        have s6 := same_upd (o := HO.tup [.ref z.1, .ref w2]) nr
        have s7 := s4.trans (s5.trans s6)
        refine ⟨q', _, _, rfl, rfl, s6 _ _ (s5 _ _ hq4), small1000 (by rw [List.length_map]; omega), ?_⟩
        have ew : stepW ti z.2 = [] := if_neg c
        have hw6 := s6 _ _ (upd_same (H := H3) (a := w2) (o := HO.lst []))
        have R7 := rows_snoc (ys := (rows.map fun x => V.ref x.s) ++ [V.ref r2]) (r := ⟨r2, w2, z, stepW ti z.2⟩) hq3 R (fun b xs e => s7 _ _ e) (fun b xs e => s7 _ _ e) (by rw [ew]; exact hw6) upd_same (s4.free nw) ((s3.trans s4).free nw) ((s3.trans (s4.trans s5)).free nr)
        have sq8 := same_set (o := HO.lst ((rows.map fun x => V.ref x.s) ++ [V.ref r2])) (s3.trans s7) nq
        have hq7 := s7 _ _ hq3
        have hd7 := s7 _ _ hd3
        have hz7 : MvAt _ z.1 z.2 := s7 _ _ hz3
        have hd8 := (upd_ne (o := HO.lst ((rows.map fun x => V.ref x.s) ++ [V.ref r2])) (ne_of hd7 hq7 fun z => nomatch z)).trans hd7
        have hz8 := (upd_ne (o := HO.lst ((rows.map fun x => V.ref x.s) ++ [V.ref r2])) (ne_of hz7 hq7 fun z => nomatch z)).trans hz7
        have hq8 := upd_same (H := upd (upd H3 w2 (.lst [])) r2 (.tup [.ref z.1, .ref w2])) (a := q') (o := HO.lst ((rows.map fun x => V.ref x.s) ++ [V.ref r2]))
        generalize upd (upd (upd H3 w2 (.lst [])) r2 (.tup [.ref z.1, .ref w2])) q' (HO.lst ((rows.map fun x => V.ref x.s) ++ [V.ref r2])) = H8 at R7 sq8 hd8 hz8 hq8 ⊢
        have hzS8 := SqT.of (K := K) hz8
        walk_at "rd"
        refine ⟨d', _, rfl, DPut.k (k := Sum.inl z.2.f) hd8 (small1000 (by rw [kvT_length]; omega)), ?_⟩
        rw [putK_kvT, show putT ti z.2.f z.2.u = stepT ti z.2 from (if_neg c).symm]
        refine ⟨_, _, rows ++ [⟨r2, w2, z, stepW ti z.2⟩], rfl, same_set sq8 nd', upd_same, ?_, R7.frame (fun b xs e => (upd_ne (ne_of e hd8 fun z => nomatch z)).trans e) fun r hr => upd_ne (ne_of (R7.at_ r hr).2 hd8 fun z => nomatch z)⟩
        rw [upd_ne dq.symm, hq8, List.map_append]
        rfl
    · rintro σ H2 ⟨v3, v4, rows, rfl, s3, hd3, hq3, R⟩
      rw [show (refsA ms).length = ms.length from List.length_map .., List.take_length] at *
      walk_at "rd"
      exact q _ q' rows s3 nq hq3 R
structure StepsAt (H : Hp) (q : Addr) (rows : List Row) : Prop where
  lst : H q = some (.lst (rows.map fun x => V.ref x.s))
  at_ : ∀ r ∈ rows, RowAt H r ∧ MvAt H r.m.1 r.m.2
theorem StepsAt.same {H H' : Hp} {q : Addr} {rows : List Row} (R : StepsAt H q rows) (s : Same H H') : StepsAt H' q rows :=
  ⟨s _ _ R.lst, fun r hr => ⟨⟨s _ _ (R.at_ r hr).1.1, s _ _ (R.at_ r hr).1.2⟩, s _ _ (R.at_ r hr).2⟩⟩
def rowK (r : Row) : Mv × List Int := (r.m.2, r.way)
/-! ### _law_same_steps -/
def sp_law_same_steps (K : PySem.W.Frag) : Sp := fun vs H Q _ => ∃ (a b : Addr) (xs ys : List Row), vs = [.ref a, .ref b] ∧ StepsAt H a xs ∧ StepsAt H b ys ∧ xs.map rowK = ys.map rowK ∧ xs.length ≤ 900 ∧ (∀ r ∈ ys, r.way.length ≤ 900) ∧ ∀ H', Same H H' → Q (.bl true) H'
set_option maxHeartbeats 2000000 in
theorem ok_law_same_steps (T : Tx K mg) : FnOk P w K mg base CX0 3 T.a_law_same_steps T.d_law_same_steps ["_law_found", "_law_due"] (sp_law_same_steps K) := by
  refine T.F_law_same_steps.ok sc_law_same_steps (fun vs H Q E h => ?_) (fun cdv A outer s H vs Q E hr h => ?_)
  · obtain ⟨a, b, xs, ys, rfl, _⟩ := h
    rfl
  · obtain ⟨a, b, xs, ys, rfl, Rx, Ry, he, hl, hw, q⟩ := h
    refine ⟨_, pss_cons (ps_if (PW.pt (pw_or (pt_not (pt_val (pe_callB call_isi (by rfl) T.m_isinstance (by decide +kernel) (pa_cons (pv 0) (pa_cons (pe_bltn (v := .ty "list") (by rfl) T.m_list (by decide +kernel) rfl) pa_nil))))) (pw_or1 (pt_cmpR op_ne (pe_callB call_len_seq (by rfl) T.m_len PySem.boot_len (pa_cons (pv 0) pa_nil)) (pe_callB call_len_seq (by rfl) T.m_len PySem.boot_len (pa_cons (pv 1) pa_nil)) (nomark _))))) (pss_one (ps_ret pe_bl)) pss_nil)
      (pss_cons (ps_for PassesOwn.never rfl (pi_range1 (by rfl) T.m_range (pa_cons (pe_callB call_len_seq (by rfl) T.m_len PySem.boot_len (pa_cons (pv 1) pa_nil)) pa_nil)) (pg_name (i := 2) sc_law_same_steps.nd rfl (Or.inl rfl)) (pss_cons (ps_if (PW.pt (pw_or (pt_not (pt_val (pe_callB call_isi (by rfl) T.m_isinstance (by decide +kernel) (pa_cons (pe_ix ix_list (pv 0) (pv 2) (fun _ _ => rfl)) (pa_cons (pe_bltn (v := .ty "tuple") (by rfl) T.m_tuple (by decide +kernel) rfl) pa_nil))))) (pw_or (pt_cmpR op_ne (pe_callB call_len_seq (by rfl) T.m_len PySem.boot_len (pa_cons (pe_ix ix_list (pv 0) (pv 2) (fun _ _ => rfl)) pa_nil)) pe_int (nomark _)) (pw_or1 (pt_not (pt_val (pe_call (ok_law_same_move T) (hr.mono (by decide)) (by rfl) T.g_law_same_move T.F_law_same_move.kp T.b_law_same_move .nil pass0 (pa_cons (pe_ix ix_tup (pe_ix ix_list (pv 0) (pv 2) (fun _ _ => rfl)) pe_int (fun _ _ => rfl)) (pa_cons (pe_ix ix_tup (pe_ix ix_list (pv 1) (pv 2) (fun _ _ => rfl)) pe_int (fun _ _ => rfl)) pa_nil))))))))) (pss_one (ps_ret pe_bl)) pss_nil)
      (pss_cons (ps_if (PW.pt (pw_or (pt_not (pt_val (pe_callB call_isi (by rfl) T.m_isinstance (by decide +kernel) (pa_cons (pe_ix ix_tup (pe_ix ix_list (pv 0) (pv 2) (fun _ _ => rfl)) pe_int (fun _ _ => rfl)) (pa_cons (pe_bltn (v := .ty "list") (by rfl) T.m_list (by decide +kernel) rfl) pa_nil))))) (pw_or1 (pt_cmpR (op_neD hr.units) (pe_ix ix_tup (pe_ix ix_list (pv 0) (pv 2) (fun _ _ => rfl)) pe_int (fun _ _ => rfl)) (pe_ix ix_tup (pe_ix ix_list (pv 1) (pv 2) (fun _ _ => rfl)) pe_int (fun _ _ => rfl)) (nomark _))))) (pss_one (ps_ret pe_bl)) pss_nil)
      (pss_one (ps_if (pt_cmpR (op_neD hr.units) (pe_lc (own := [("_law_one", 3)]) (g := gName 3) rfl sc_law_same_steps.nd (pi_list (pe_ix ix_tup (pe_ix ix_list (pv 0) (pv 2) (fun _ _ => rfl)) pe_int (fun _ _ => rfl))) (blkOk_by (own := [("_law_one", 3)]) (N := ["_law_found", "_law_due", "_law_k", "_law_one"]) (sc := defScope s_law_same_steps) (by decide +kernel)) (fun _ _ _ _ _ => pg_name (i := 3) sc_law_same_steps.nd rfl (Or.inl rfl)) (fun _ _ _ _ _ => pts_one (pt_not (pt_val (pe_call (ok_law_whole T) (hr.mono (by decide)) (by rfl) T.g_law_whole T.F_law_whole.kp T.b_law_whole .nil pass0 (pa_cons (pv 3) pa_nil))))) (fun _ _ _ _ _ => pv 3)) (pe_lst pa_nil) (nomark _)) (pss_one (ps_ret pe_bl)) pss_nil)))))
      (pss_one (ps_ret pe_bl))), ?_⟩
    rw [st_law_same_steps]
    have ha := Rx.lst
    have hb := Ry.lst
    have haS := SqL.of (K := K) ha
    have hbS := SqL.of (K := K) hb
    have el : xs.length = ys.length := by
      have := congrArg List.length he
      rw [List.length_map, List.length_map] at this
      exact this
    have lx : (xs.map fun x => V.ref x.s).length = ys.length := (List.length_map ..).trans el
    have ly : (ys.map fun x => V.ref x.s).length = ys.length := List.length_map ..
    walk_at "rd"
    refine ⟨a, _, rfl, .inl haS, _, rfl, b, _, rfl, .inl hbS, rfl, _, rfl, ?_⟩
    rw [lx, ly]
    refine ite_ne rfl ?_
    refine ⟨_, rfl, b, _, rfl, .inl hbS, ?_⟩
    rw [ly]
    refine ⟨ys.length, rfl, by omega, by omega, for_range (n := ys.length) (fun i σ H2 => ∃ v2, σ = [some (.ref a), some (.ref b), v2, none] ∧ Same H H2) ⟨none, rfl, Same.refl _⟩ ?_ ?_⟩
    · rintro i σ G hi ⟨v2, rfl, sG⟩
      rw [Int.zero_add]
      have haS := SqL.of (K := K) (sG _ _ ha)
      have hbS := SqL.of (K := K) (sG _ _ hb)
      obtain ⟨x, hxi⟩ : ∃ x, xs[i]? = some x := ⟨xs[i]'(by omega), List.getElem?_eq_getElem _⟩
      obtain ⟨y, hyi⟩ : ∃ y, ys[i]? = some y := ⟨ys[i], List.getElem?_eq_getElem _⟩
      have e2 : rowK x = rowK y := by
        have z := congrArg (fun l => l[i]?) he
        simp only [List.getElem?_map, hxi, hyi] at z
        exact Option.some.inj z
      obtain ⟨e3, e4⟩ := Prod.mk.inj e2
      have ym := List.mem_of_getElem? hyi
      obtain ⟨⟨hxs, hxw⟩, hxm⟩ := (Rx.same sG).at_ x (List.mem_of_getElem? hxi)
      obtain ⟨⟨hys, hyw⟩, hym⟩ := (Ry.same sG).at_ y ym
      rw [e3] at hxm
      rw [e4] at hxw
      have wl := hw y ym
      have at1 : atI (xs.map fun x => V.ref x.s) (i : Int) = some (.ref x.s) := atI_nat (by rw [List.getElem?_map, hxi]; rfl)
      have at2 : atI (ys.map fun x => V.ref x.s) (i : Int) = some (.ref y.s) := atI_nat (by rw [List.getElem?_map, hyi]; rfl)
      have hxS := SqT.of (K := K) hxs
      have hyS := SqT.of (K := K) hys
      walk_at "rd"
      refine ⟨x.s, _, rfl, .inr hxS, rfl, _, rfl, ite_ne rfl ?_⟩
      walk_at "rd"
      refine ⟨x.m.1, y.m.1, [y.m.2.t, y.m.2.h, y.m.2.f, y.m.2.u], rfl, hxm, hym, rfl, ?_⟩
      have hwS := SqL.of (K := K) hxw
      walk_at "rd"
      have fw := (Flat.list (Flat.intD y.way))
      refine ⟨_, _, .lst (SqL.of hxw) (intD_dp _), .lst (SqL.of hyw) (intD_dp _), fw.shaped (by decide), fw.shaped (by decide), _, rfl, ?_⟩
      rw [fw.refl]
      refine iteF ?_
      walk_at "rq"
      refine ⟨⟨_, SqL.of hxw⟩, fun D nD => ?_⟩
      refine lc_list (K := K) (a := x.w) (xs := y.way.map V.int) (fun i H2 => Same G H2 ∧ H2 D = some (.lst [])) ⟨same_upd nD, upd_same⟩ (fun i H2 _ ⟨z, _⟩ => SqL.of (z _ _ hxw)) ?_ ?_
      · rintro i xr H2 hi ⟨s2, hD⟩
        rw [List.getElem?_map] at hi
        obtain ⟨z, hz, rfl⟩ := Option.map_eq_some_iff.mp hi
        walk_at "rd"
        first | exact ⟨s2, hD⟩ | exact hD
      rintro H2 ⟨s2, hD⟩
      refine ⟨Nat.zero_le _, ?_⟩
      intro e n_e
      have s_e := same_upd (o := HO.lst []) n_e
      have t_e := upd_same (H := H2) (a := e) (o := HO.lst [])
      generalize upd H2 e (HO.lst []) = H3 at s_e t_e ⊢
      have f0 := (Flat.list (n := 2) (ds := []) fun d hd => nomatch hd)
      refine ⟨_, _, .lst (SqL.of (s_e _ _ hD)) .nil, .lst (SqL.of t_e) .nil, f0.shaped (by decide), f0.shaped (by decide), _, rfl, ?_⟩
      rw [f0.refl]
      refine iteF ?_
      exact ⟨_, rfl, sG.trans (s2.trans s_e)⟩
    · rintro σ G ⟨v2, rfl, sG⟩
      exact q _ sG
theorem RowsAt.steps {H0 H : Hp} {rows : List Row} {ms : List AM} {ways : List (List Int)} {q : Addr} (R : RowsAt H0 H rows ms ways) (hm : ∀ x ∈ ms, MvAt H x.1 x.2) (hq : H q = some (.lst (rows.map fun x => V.ref x.s))) : StepsAt H q rows :=
  ⟨hq, fun r hr => ⟨R.at_ r hr, hm _ (by rw [← R.ms]; exact List.mem_map.mpr ⟨r, hr, rfl⟩)⟩⟩
theorem key_cut {rows rows2 : List Row} {ms ms2 : List AM} {ws : List (List Int)} (h1 : rows.map (·.m) = ms) (h2 : rows.map (·.way) = ws) (g1 : rows2.map (·.m) = ms2) (g2 : rows2.map (·.way) = ws) (e : mvs ms = mvs ms2) : rows.map rowK = rows2.map rowK := by
  apply List.ext_getElem?
  intro j
  have f1 := congrArg (fun l => l[j]?) e
  have f2 := congrArg (fun l => l[j]?) (h2.trans g2.symm)
  unfold mvs at f1
  rw [← h1, ← g1] at f1
  simp only [List.getElem?_map] at f1 f2 ⊢
  cases h : rows[j]? with
  | none =>
    rw [h] at f1
    cases k : rows2[j]? with
    | none => rfl
    | some r =>
      rw [k] at f1
      cases f1
  | some r =>
    rw [h] at f1 f2
    cases k : rows2[j]? with
    | none =>
      rw [k] at f1
      cases f1
    | some r2 =>
      rw [k] at f1 f2
      have q1 : r.m.2 = r2.m.2 := Option.some.inj f1
      have q2 : r.way = r2.way := Option.some.inj f2
      show some (rowK r) = some (rowK r2)
      unfold rowK
      rw [q1, q2]
/-! ### _law_steps_asked -/
def bumpR (r : Row) : Row := { r with way := r.way ++ [0] }
def bumped (rows : List Row) (i : Nat) : List Row := (rows.take i).map bumpR ++ rows.drop i
theorem bumped_get {rows : List Row} {i : Nat} {r : Row} (h : rows[i]? = some r) : (bumped rows i)[i]? = some r := by
  have il := (List.getElem?_eq_some_iff.mp h).1
  unfold bumped
  rw [List.getElem?_append_right (by rw [List.length_map, List.length_take]; omega), List.length_map, List.length_take, List.getElem?_drop, show i + (i - min i rows.length) = i by omega]
  exact h
theorem bumped_set {rows : List Row} {i : Nat} {r : Row} (h : rows[i]? = some r) : (bumped rows i).set i (bumpR r) = bumped rows (i + 1) := by
  have il := (List.getElem?_eq_some_iff.mp h).1
  have e : rows.drop i = r :: rows.drop (i + 1) := by
    rw [← (List.getElem?_eq_some_iff.mp h).2]
    exact List.drop_eq_getElem_cons il
  have lt : ((rows.take i).map bumpR).length = i := by rw [List.length_map, List.length_take]; omega
  unfold bumped
  rw [e, List.take_add_one, h, List.map_append, List.append_assoc]
  have e2 := List.set_append (s := (rows.take i).map bumpR) (t := r :: rows.drop (i + 1)) (i := i) (x := bumpR r)
  rw [lt, if_neg (Nat.lt_irrefl _), Nat.sub_self] at e2
  exact e2
theorem bumped_refs (rows : List Row) (i : Nat) : (bumped rows i).map (fun x => V.ref x.s) = rows.map fun x => V.ref x.s := by
  unfold bumped
  rw [List.map_append, List.map_map]
  conv => rhs; rw [← List.take_append_drop i rows, List.map_append]
  rfl
theorem bumped_m (rows : List Row) (i : Nat) : (bumped rows i).map (·.m) = rows.map (·.m) := by
  unfold bumped
  rw [List.map_append, List.map_map]
  conv => rhs; rw [← List.take_append_drop i rows, List.map_append]
  rfl
theorem bumped_w (rows : List Row) (i : Nat) : (bumped rows i).map (·.w) = rows.map (·.w) := by
  unfold bumped
  rw [List.map_append, List.map_map]
  conv => rhs; rw [← List.take_append_drop i rows, List.map_append]
  rfl
theorem cut_init (l : List V) (x : V) : cutV (l ++ [x]) none (some (-1)) = l := by
  unfold cutV
  rw [HT.sIx_none, List.drop_zero, Nat.sub_zero]
  have e : HT.sIx (l ++ [x]).length (l ++ [x]).length (some (-1)) = l.length := by
    show (if (-1 : Int) < 0 then ((-1 : Int) + ((l ++ [x]).length : Int)).toNat else min ((-1 : Int).toNat) (l ++ [x]).length) = _
    rw [if_pos (by decide), List.length_append, List.length_singleton]
    omega
  rw [e, List.take_left' rfl]
/-- two lists of steps that hold the same, each with a None at its end -/
def PairS (H : Hp) (hl b : Addr) : Prop := ∃ (a1 a2 : Addr) (rows rows2 : List Row), H b = some (.tup [.ref a1, .ref a2]) ∧ H a1 = some (.lst (rows.map (fun x => V.ref x.s) ++ [.non])) ∧ H a2 = some (.lst (rows2.map (fun x => V.ref x.s) ++ [.non])) ∧
  (∀ r ∈ rows, RowAt H r ∧ MvAt H r.m.1 r.m.2) ∧ (∀ r ∈ rows2, RowAt H r ∧ MvAt H r.m.1 r.m.2) ∧ rows.map rowD = rows2.map rowD ∧ a1 ≠ hl ∧ a2 ≠ hl ∧ (∀ r ∈ rows, r.w ≠ hl) ∧ ∀ r ∈ rows2, r.w ≠ hl
theorem rows_get {H0 H : Hp} {rows : List Row} {ms : List AM} {ways : List (List Int)} (R : RowsAt H0 H rows ms ways) {i : Nat} {r : Row} (h : rows[i]? = some r) : RowAt H r ∧ ms[i]? = some r.m ∧ ways[i]? = some r.way := by
  refine ⟨R.at_ r (List.mem_of_getElem? h), ?_, ?_⟩
  · rw [← R.ms, List.getElem?_map, h]
    rfl
  · rw [← R.ways, List.getElem?_map, h]
    rfl
def sp_law_steps_asked (T : Tx K mg) : Sp := fun vs H Q _ => ∃ (A : LogA) (S : LogS) (d p hl : Addr) (L : List AM) (hs : List Addr), vs = [.ref A.l, .ref d, .ref p, .ref hl] ∧ LogAt T.o_Log H A S ∧ H d = some (.dK (kvT S.base)) ∧ H p = some (.lst (refsA L)) ∧ (∀ x ∈ L, MvAt H x.1 x.2) ∧ Rising (·.2) L ∧ (mvs L).Perm (mvs S.kept) ∧
  S.base.length + S.kept.length ≤ 400 ∧ H hl = some (.lst (hs.map V.ref)) ∧ hs.length ≤ 400 ∧
  ∀ H' b, (∀ x o, H x = some o → x ≠ hl → H' x = some o) → H' hl = some (.lst ((hs ++ [b]).map V.ref)) → PairS H' hl b → Q (.bl true) H'
set_option maxHeartbeats 4000000 in
theorem ok_law_steps_asked (T : Tx K mg) : FnOk P w K mg base CX0 4 T.a_law_steps_asked T.d_law_steps_asked ["_law_log", "_law_base", "_law_moves", "_law_held"] (sp_law_steps_asked T) := by
  refine T.F_law_steps_asked.ok sc_law_steps_asked (fun vs H Q E h => ?_) (fun cdv A outer s H vs Q E hr h => ?_)
  · obtain ⟨A, S, d, p, hl, L, hs, rfl, _⟩ := h
    rfl
  · obtain ⟨A, S, d, p, hl, L, hs, rfl, LL, hd, hp, hL, rise, perm, sz, hh, hsl, q⟩ := h
    refine ⟨_, pss_cons (ps_set (i := 4) sc_law_steps_asked.nd rfl (.inl rfl) (pe_meth0 (pv 0) T.cl_Log T.mt_Log_steps (ok_Log_steps T) (hr.mono (by decide)) T.b_Log_steps .nil pass0))
      (pss_cons (ps_if (pt_not (pt_val (pe_call (ok_law_same_steps T) (hr.mono (by decide)) (by rfl) T.g_law_same_steps T.F_law_same_steps.kp T.b_law_same_steps .nil pass0 (pa_cons (pv 4) (pa_cons (pe_call (ok_law_steps_of T) (hr.mono (by decide)) (by rfl) T.g_law_steps_of T.F_law_steps_of.kp T.b_law_steps_of .nil pass0 (pa_cons (pv 1) (pa_cons (pv 2) pa_nil))) pa_nil))))) (pss_one (ps_ret pe_bl)) pss_nil)
      (pss_cons (ps_for PassesOwn.never rfl (pi_list (pv 4)) (pg_name (i := 5) sc_law_steps_asked.nd rfl (Or.inl rfl)) (pss_one (ps_expr (pe_bm PySem.F.plainAttrs_list PySem.F.slot_list_append PySem.F.type_list_append mt_append (pe_ix ix_tup (pv 5) pe_int (fun _ _ => rfl)) (pa_cons pe_int pa_nil)))))
      (pss_cons (ps_expr (pe_bm PySem.F.plainAttrs_list PySem.F.slot_list_append PySem.F.type_list_append mt_append (pv 4) (pa_cons pe_non pa_nil)))
      (pss_cons (ps_expr (pe_bm PySem.F.plainAttrs_list PySem.F.slot_list_append PySem.F.type_list_append mt_append (pv 3) (pa_cons (pe_tup (pa_cons (pv 4) (pa_cons (pe_op op_cat (pe_lc (own := [("_law_row", 5)]) (g := gName 5) (tt := tYes) rfl sc_law_steps_asked.nd (pi_list (pe_slice sl_list (pv 4) po_none (po_some (pe_un un_neg pe_int)))) (blkOk_by (own := [("_law_row", 5)]) (N := ["_law_log", "_law_base", "_law_moves", "_law_held", "_law_found", "_law_row"]) (sc := defScope s_law_steps_asked) (by decide +kernel)) (fun _ _ _ _ _ => pg_name (i := 5) sc_law_steps_asked.nd rfl (Or.inl rfl)) (fun _ _ _ _ _ => pts_nil) (fun _ _ _ _ _ => pe_tup (pa_cons (pe_ix (r := rIxT K) ix_tup (pv 5) pe_int (fun _ _ => rfl)) (pa_cons (pe_callTy (T := "list") (call_list_ofK (K := K) rfl) (by rfl) T.m_list (by decide +kernel) (pa_cons (pe_ix (r := rIxT K) ix_tup (pv 5) pe_int (fun _ _ => rfl)) pa_nil)) pa_nil)))) (pe_lst (pa_cons pe_non pa_nil))) pa_nil))) pa_nil)))
      (pss_one (ps_ret pe_bl)))))), ?_⟩
    rw [st_law_steps_asked]
    have lk : S.kept.length = L.length := by
      have := perm.length_eq
      unfold mvs at this
      rw [List.length_map, List.length_map] at this
      exact this.symm
    refine ⟨_, rfl, A.l, A.dx, _, rfl, LL.ins, rfl, A, S, rfl, LL, by omega, fun H1 fo rows ms s1 nfo hfo R told => ?_⟩
    have em : mvs ms = mvs L := Rising.uniq (k := id) (Rising.map (f := fun x : AM => x.2) told.2) (Rising.map (f := fun x : AM => x.2) rise) ((told.1.map fun x : AM => x.2).trans perm.symm)
    have msM : ∀ x ∈ ms, MvAt H1 x.1 x.2 := fun x hx => s1 _ _ (LL.mv x (told.1.mem_iff.mp hx))
    have hL1 : ∀ x ∈ L, MvAt H1 x.1 x.2 := fun x hx => s1 _ _ (hL x hx)
    walk_at "rd"
    refine ⟨d, p, S.base, L, rfl, s1 _ _ hd, s1 _ _ hp, hL1, LL.fine, by omega, fun H2 so rows2 s2 nso hso R2 => ?_⟩
    have lm : ms.length = L.length := by rw [told.1.length_eq, lk]
    have rl : rows.length = L.length := by rw [R.len, lm]
    have R' := R.same s2
    have wl : ∀ r ∈ rows2, r.way.length ≤ 800 := fun r hr => by
      have := R2.small LL.fine hr
      omega
    refine ⟨fo, so, rows, rows2, rfl, R'.steps (fun x hx => s2 _ _ (msM x hx)) (s2 _ _ hfo), R2.steps (fun x hx => s2 _ _ (hL1 x hx)) hso, key_cut R'.ms R'.ways R2.ms (by rw [R2.ways, em]) em, by omega, fun r hr => Nat.le_trans (wl r hr) (by decide), fun H3 s3 => ?_⟩
    have s13 := s2.trans s3
    have R3 := R.same s13
    have hfo3 := s13 _ _ hfo
    have wl1 : ∀ r ∈ rows, r.way.length ≤ 800 := fun r hr => by
      have := R.small LL.fine hr
      omega
    have fw : ∀ r ∈ rows, r.w ≠ fo := fun r hr e => by
      have h2 := (R.at_ r hr).2
      rw [e, hfo] at h2
      exact refs_ints (vs := []) hr (by rw [List.append_nil]; exact HO.lst.inj (Option.some.inj h2))
    have nw : ∀ r ∈ rows, H r.w = none := fun r hr => (R.new r hr).1
    walk_at "rq"
    refine ⟨⟨_, SqL.of hfo3⟩, for_list (K := K) (a := fo) (xs := rows.map fun x => V.ref x.s) (fun i σ H4 => ∃ v5, σ = [some (.ref A.l), some (.ref d), some (.ref p), some (.ref hl), some (.ref fo), v5] ∧ Same H H4 ∧ H4 fo = some (.lst (rows.map fun x => V.ref x.s)) ∧ RowsAt H H4 (bumped rows i) ms ((bumped rows i).map (·.way)))
      ⟨none, rfl, s1.trans s13, hfo3, by unfold bumped; exact ⟨R3.at_, R3.new, R3.nd, R3.ms, rfl⟩⟩ (fun i σ H4 _ ⟨_, _, _, z, _⟩ => SqL.of z) ?_ ?_⟩
    · rintro i x σ H4 hi ⟨v5, rfl, s4, hfo4, R4⟩
      rw [List.getElem?_map] at hi
      obtain ⟨r, hr, rfl⟩ := Option.map_eq_some_iff.mp hi
      have rm := List.mem_of_getElem? hr
      have hb := bumped_get hr
      obtain ⟨q1, _, _⟩ := rows_get R4 hb
      have hrS := SqT.of (K := K) q1.1
      walk_at "rd"
      refine ⟨.inl ⟨rfl, _, SqL.of q1.2⟩, ?_⟩
      walk_at "rd"
      have := wl1 r rm
      refine ⟨r.w, _, _, rfl, rfl, q1.2, small1000 (by rw [List.length_map]; omega), ?_⟩
      have e : r.way.map V.int ++ [V.int 0] = (r.way ++ [0]).map V.int := by rw [List.map_append]; rfl
      rw [e]
      have R5 := R4.bump hb (l := r.way ++ [0])
      refine ⟨_, rfl, same_set s4 (nw r rm), (upd_ne (fw r rm).symm).trans hfo4, ?_⟩
      have e2 : (bumped rows i).set i { r with way := r.way ++ [0] } = bumped rows (i + 1) := bumped_set hr
      rw [e2] at R5
      exact ⟨R5.at_, R5.new, R5.nd, R5.ms, rfl⟩
    · rintro σ H4 ⟨v5, rfl, s4, hfo4, R4⟩
      rw [List.length_map] at R4
      have hbr : (bumped rows rows.length).map (fun x => V.ref x.s) = rows.map fun x => V.ref x.s := bumped_refs rows _
      have fwb : ∀ r ∈ bumped rows rows.length, r.w ≠ fo := fun r hr => by
        have z : r.w ∈ (bumped rows rows.length).map (·.w) := List.mem_map.mpr ⟨r, hr, rfl⟩
        rw [bumped_w] at z
        obtain ⟨r2, h2, e⟩ := List.mem_map.mp z
        rw [← e]
        exact fw r2 h2
      have lb : (bumped rows rows.length).length = rows.length := by
        have := congrArg List.length hbr
        rw [List.length_map, List.length_map] at this
        exact this
      rw [← hbr] at hfo4
      generalize bumped rows rows.length = rb at R4 hfo4 fwb lb
      have nfoH : H fo = none := nfo
      have msH4 : ∀ x ∈ ms, MvAt H4 x.1 x.2 := fun x hx => s4 _ _ (LL.mv x (told.1.mem_iff.mp hx))
      walk_at "rd"
      refine ⟨fo, _, _, rfl, rfl, hfo4, small1000 (by rw [List.length_map]; omega), ?_⟩
      have k5 : ∀ b o, H4 b = some o → b ≠ fo → upd H4 fo (.lst (rb.map (fun x => V.ref x.s) ++ [V.non])) b = some o := fun b o h n => (upd_ne n).trans h
      have hfo5 := upd_same (H := H4) (a := fo) (o := HO.lst (rb.map (fun x => V.ref x.s) ++ [V.non]))
      have s5 := same_set (o := HO.lst (rb.map (fun x => V.ref x.s) ++ [V.non])) s4 nfoH
      have R5 : RowsAt H (upd H4 fo (.lst (rb.map (fun x => V.ref x.s) ++ [V.non]))) rb ms (rb.map (·.way)) := R4.frame (fun b xs e => k5 _ _ e (ne_of e hfo4 fun z => nomatch z)) fun r hr => upd_ne (fwb r hr)
      generalize upd H4 fo (.lst (rb.map (fun x => V.ref x.s) ++ [V.non])) = H5 at k5 hfo5 s5 R5 ⊢
      have hh5 := s5 _ _ hh
      have hfoS5 := SqL.of (K := K) hfo5
      walk_at "rd"
      rw [cut_init]
      intro sl n_sl
      have s_sl := same_upd (o := HO.lst (rb.map fun x => V.ref x.s)) n_sl
      have t_sl := upd_same (H := H5) (a := sl) (o := HO.lst (rb.map fun x => V.ref x.s))
      generalize upd H5 sl (HO.lst (rb.map fun x => V.ref x.s)) = H6 at s_sl t_sl ⊢
      have R6 := R5.same s_sl
      walk_at "rq"
      refine ⟨⟨_, SqL.of t_sl⟩, fun D nD => ?_⟩
      have sD := fun o => same_upd (o := o) nD
      refine lc_list (K := K) (a := sl) (xs := rb.map fun x => V.ref x.s) (fun i H7 => ∃ rows3 : List Row, Same H6 H7 ∧ H7 D = some (.lst (rows3.map fun x => V.ref x.s)) ∧ RowsAt H6 H7 rows3 (ms.take i) ((rb.map (·.way)).take i))
        ⟨[], sD _, upd_same, ⟨fun r hr => (nomatch hr), fun r hr => (nomatch hr), List.nodup_nil, rfl, rfl⟩⟩ (fun i H7 _ ⟨_, z, _⟩ => SqL.of (z _ _ t_sl)) ?_ ?_
      · rintro n xr Hb hn' ⟨rows3, sb, hD, Rb⟩
        rw [List.getElem?_map] at hn'
        obtain ⟨r, hr', rfl⟩ := Option.map_eq_some_iff.mp hn'
        obtain ⟨q1, q2, q3⟩ := rows_get (R6.same sb) hr'
        have nl : n < rb.length := (List.getElem?_eq_some_iff.mp hr').1
        have rl2 : rows3.length = n := by rw [Rb.len, List.length_take]; omega
        have hrS := SqT.of (K := K) q1.1
        refine ⟨rfl, ?_⟩
        walk_at "rq"
        refine ⟨r.w, _, rfl, .inl (SqL.of q1.2), ?_⟩
        intro w2 n_w2
        have s_w2 := same_upd (o := HO.lst (r.way.map V.int)) n_w2
        have t_w2 := upd_same (H := Hb) (a := w2) (o := HO.lst (r.way.map V.int))
        generalize upd Hb w2 (HO.lst (r.way.map V.int)) = Hc at s_w2 t_w2 ⊢
        refine ⟨Nat.le_of_lt (small1000 (by show 2 ≤ 1000; omega)), ?_⟩
        intro s2' n_s2'
        have s_s2' := same_upd (o := HO.tup [V.ref r.m.1, V.ref w2]) n_s2'
        have t_s2' := upd_same (H := Hc) (a := s2') (o := HO.tup [V.ref r.m.1, V.ref w2])
        generalize upd Hc s2' (HO.tup [V.ref r.m.1, V.ref w2]) = Hd at s_s2' t_s2' ⊢
        have s9 := s_w2.trans s_s2'
        refine ⟨_, s9 _ _ hD, small1000 (by rw [List.length_map]; omega), rows3 ++ [⟨s2', w2, r.m, r.way⟩], same_set (sb.trans s9) nD, by rw [upd_same, List.map_append]; rfl, ?_⟩
        rw [List.take_add_one, List.take_add_one, q2, q3]
        exact rows_snoc (r := ⟨s2', w2, r.m, r.way⟩) hD Rb (fun b xs e => s9 _ _ e) (fun b xs e => s9 _ _ e) (s_s2' _ _ t_w2) t_s2' n_w2 (sb.free n_w2) ((sb.trans s_w2).free n_s2')
      rintro Hb ⟨rows3, sb, hD, Rb⟩
      rw [List.length_map, lb, rl, ← lm, List.take_length, show (rb.map (·.way)).take ms.length = rb.map (·.way) from List.take_of_length_le (by rw [List.length_map]; omega)] at Rb
      walk_at "rd"
      intro nn n_nn
      have s_nn := same_upd (o := HO.lst [V.non]) n_nn
      have t_nn := upd_same (H := Hb) (a := nn) (o := HO.lst [V.non])
      generalize upd Hb nn (HO.lst [V.non]) = Hc at s_nn t_nn ⊢
      have hDc := s_nn _ _ hD
      have rl3 : rows3.length = L.length := by rw [Rb.len, lm]
      refine ⟨D, nn, _, _, rfl, rfl, hDc, t_nn, Nat.le_of_lt (small1000 (by rw [List.length_map]; show rows3.length + 1 ≤ 1000; omega)), ?_⟩
      intro cp n_cp
      have s_cp := same_upd (o := HO.lst (rows3.map (fun x => V.ref x.s) ++ [V.non])) n_cp
      have t_cp := upd_same (H := Hc) (a := cp) (o := HO.lst (rows3.map (fun x => V.ref x.s) ++ [V.non]))
      generalize upd Hc cp (HO.lst (rows3.map (fun x => V.ref x.s) ++ [V.non])) = Hd at s_cp t_cp ⊢
      walk_at "rd"
      intro pb n_pb
      have s_pb := same_upd (o := HO.tup [V.ref fo, V.ref cp]) n_pb
      have t_pb := upd_same (H := Hd) (a := pb) (o := HO.tup [V.ref fo, V.ref cp])
      generalize upd Hd pb (HO.tup [V.ref fo, V.ref cp]) = He at s_pb t_pb ⊢
      have s6e := sb.trans (s_nn.trans (s_cp.trans s_pb))
      have s5e := s_sl.trans s6e
      have hhe := s5e _ _ hh5
      refine ⟨hl, _, _, rfl, rfl, hhe, small1000 (by rw [List.length_map]; omega), ?_⟩
      have Re := R5.same s5e
      have R3e := Rb.same (s_nn.trans (s_cp.trans s_pb))
      have kU : ∀ b o, He b = some o → b ≠ hl → upd He hl (.lst (hs.map V.ref ++ [V.ref pb])) b = some o := fun b o h n => (upd_ne n).trans h
      have tU : ∀ {b xs}, He b = some (.tup xs) → upd He hl (.lst (hs.map V.ref ++ [V.ref pb])) b = some (.tup xs) := fun {b xs} h => kU _ _ h (ne_of h hhe fun z => nomatch z)
      have n1 : fo ≠ hl := fun e => by rw [e, hh] at nfoH; cases nfoH
      have n2 : cp ≠ hl := fun e => by rw [e] at n_cp; rw [s_nn _ _ (sb _ _ (s_sl _ _ hh5))] at n_cp; cases n_cp
      have n3 : ∀ r ∈ rb, r.w ≠ hl := fun r hr e => by
        have z := (R5.new r hr).1
        rw [e, hh] at z
        cases z
      have n4 : ∀ r ∈ rows3, r.w ≠ hl := fun r hr e => by
        have z := (Rb.new r hr).1
        rw [e, s_sl _ _ hh5] at z
        cases z
      refine q _ pb (fun x o h n => kU _ _ (s5e _ _ (s5 _ _ h)) n) (by rw [upd_same, List.map_append]; rfl) ⟨fo, cp, rb, rows3, tU t_pb, kU _ _ (s5e _ _ hfo5) n1, kU _ _ (s_pb _ _ t_cp) n2, fun r hr => ⟨⟨tU (Re.at_ r hr).1, kU _ _ (Re.at_ r hr).2 (n3 r hr)⟩, ?_⟩, fun r hr => ⟨⟨tU (R3e.at_ r hr).1, kU _ _ (R3e.at_ r hr).2 (n4 r hr)⟩, ?_⟩, rowsD_eq (Re.ms.trans R3e.ms.symm) R3e.ways.symm, n1, n2, n3, n4⟩
      · exact tU (s5e _ _ (s5 _ _ (LL.mv _ (told.1.mem_iff.mp (Re.ms ▸ List.mem_map.mpr ⟨r, hr, rfl⟩)))))
      · exact tU (s5e _ _ (s5 _ _ (LL.mv _ (told.1.mem_iff.mp (R3e.ms ▸ List.mem_map.mpr ⟨r, hr, rfl⟩)))))
/-! ### what holds between two deeds -/
structure D11 where
  B : HandA
  n : Int
  c : Int
  m : Int
  S : LogS
  st : Addr
  kp : Addr
  bs : Addr
  hl : Addr
  dp : Addr
  L : List AM
  hs : List Addr
  ds : List Int
def PairT (H : Hp) (b : Addr) : Prop := ∃ a1 a2 t, H b = some (.tup [.ref a1, .ref a2]) ∧ H a1 = some (.dK (kvT t)) ∧ H a2 = some (.dK (kvT t)) ∧ (t.map (·.1)).Nodup
def PairM (H : Hp) (hl b : Addr) : Prop := ∃ a1 a2 ms ns, H b = some (.tup [.ref a1, .ref a2]) ∧ H a1 = some (.lst (refsA ms)) ∧ H a2 = some (.lst (refsA ns)) ∧ (∀ x ∈ ms, MvAt H x.1 x.2) ∧ (∀ x ∈ ns, MvAt H x.1 x.2) ∧ mvs ms = mvs ns ∧ a1 ≠ hl ∧ a2 ≠ hl
def Pair11 (H : Hp) (hl b : Addr) : Prop := PairS H hl b ∨ PairT H b ∨ PairM H hl b
def StAt (X : D11) (H : Hp) : Prop := H X.st = some (.dK (stK X.n X.c X.S.since X.m X.kp X.bs X.hl))
structure Inv11 (CH CL : Addr) (H : Hp) (X : D11) (k : Nat) : Prop where
  hand : HandAt CH CL H X.B X.n X.c X.S
  stt : H X.st = some (.dK (stK X.n X.c X.S.since X.m X.kp X.bs X.hl))
  kpt : H X.kp = some (.lst (refsA X.L))
  mv : ∀ x ∈ X.L, MvAt H x.1 x.2 ∧ IsMv x.2
  rise : Rising (·.2) X.L
  perm : (mvs X.L).Perm (mvs X.S.kept)
  late : ∀ x ∈ X.L, X.S.since ≤ x.2.t ∧ x.2.t ≤ X.c
  cl : 0 ≤ X.S.since ∧ X.S.since ≤ X.c + 1 ∧ 0 ≤ X.c
  nm : 0 ≤ X.n ∧ X.n + 2 ≤ N60
  mm : 1 ≤ X.m ∧ X.m ≤ 7
  bst : H X.bs = some (.dK (kvT X.S.base))
  size : X.S.base.length + X.S.kept.length ≤ k
  nk : X.kp ≠ X.hl
  nd : X.dp ≠ X.hl
  held : H X.hl = some (.lst (X.hs.map V.ref))
  dps : H X.dp = some (.lst (X.ds.map V.int))
  two : ∀ b ∈ X.hs, Pair11 H X.hl b
/-- what no deed but the last rows of one changes -/
def Fr5 (st hl : Addr) (H H' : Hp) : Prop := ∀ b o, H b = some o → (∀ C dx fs, o ≠ .ins C dx fs) → (∀ kv, o ≠ .dT kv) → b ≠ st → b ≠ hl → H' b = some o
theorem Fr5.of {st hl : Addr} {H H' : Hp} (f : Fr3 H H') : Fr5 st hl H H' := fun b o h i d _ _ => f b o h i d
theorem Fr5.trans {st hl : Addr} {A B C : Hp} (f : Fr5 st hl A B) (g : Fr5 st hl B C) : Fr5 st hl A C := fun b o h i d n m => g _ _ (f _ _ h i d n m) i d n m
theorem Fr5.put {st hl : Addr} {H : Hp} {o : HO} : Fr5 st hl H (upd H st o) := fun b o h _ _ n _ => (upd_ne n).trans h
theorem Fr5.app {st hl : Addr} {H H' : Hp} (f : ∀ x o, H x = some o → x ≠ hl → H' x = some o) : Fr5 st hl H H' := fun b o h _ _ _ n => f b o h n
section
variable {CH CL : Addr} {H H' : Hp} {X : D11} {k : Nat}
theorem kvT_not_st {t : List (Int × Int)} {n c s m : Int} {kp bs hl : Addr} (e : kvT t = stK n c s m kp bs hl) : False := by
  cases t with
  | nil => exact nomatch e
  | cons p t =>
    have h := (List.cons.inj e).1
    have h1 : (Sum.inl p.1 : Key) = Sum.inr ("number" : Str) := congrArg Prod.fst h
    exact nomatch h1
theorem Inv11.tup (I : Inv11 CH CL H X k) (f : Fr5 X.st X.hl H H') {b : Addr} {xs : List V} (h : H b = some (.tup xs)) : H' b = some (.tup xs) :=
  f _ _ h (fun _ _ _ z => nomatch z) (fun _ z => nomatch z) (ne_of h I.stt fun z => nomatch z) (ne_of h I.held fun z => nomatch z)
theorem Inv11.lst (I : Inv11 CH CL H X k) (f : Fr5 X.st X.hl H H') {b : Addr} {xs : List V} (h : H b = some (.lst xs)) (n : b ≠ X.hl) : H' b = some (.lst xs) :=
  f _ _ h (fun _ _ _ z => nomatch z) (fun _ z => nomatch z) (ne_of h I.stt fun z => nomatch z) n
theorem Inv11.dkT (I : Inv11 CH CL H X k) (f : Fr5 X.st X.hl H H') {b : Addr} {t : List (Int × Int)} (h : H b = some (.dK (kvT t))) : H' b = some (.dK (kvT t)) :=
  f _ _ h (fun _ _ _ z => nomatch z) (fun _ z => nomatch z) (fun e => by
    rw [e, I.stt] at h
    exact kvT_not_st (HO.dK.inj (Option.some.inj h)).symm) (ne_of h I.held fun z => nomatch z)
theorem Inv11.pair (I : Inv11 CH CL H X k) (f : Fr5 X.st X.hl H H') {b : Addr} (p : Pair11 H X.hl b) : Pair11 H' X.hl b := by
  rcases p with ⟨a1, a2, rows, rows2, h1, h2, h3, h4, h5, h6, n1, n2, n3, n4⟩ | ⟨a1, a2, t, h1, h2, h3, h4⟩ | ⟨a1, a2, ms, ns, h1, h2, h3, h4, h5, h6, n1, n2⟩
  · exact .inl ⟨a1, a2, rows, rows2, I.tup f h1, I.lst f h2 n1, I.lst f h3 n2, fun r hr => ⟨⟨I.tup f (h4 r hr).1.1, I.lst f (h4 r hr).1.2 (n3 r hr)⟩, I.tup f (h4 r hr).2⟩, fun r hr => ⟨⟨I.tup f (h5 r hr).1.1, I.lst f (h5 r hr).1.2 (n4 r hr)⟩, I.tup f (h5 r hr).2⟩, h6, n1, n2, n3, n4⟩
  · exact .inr (.inl ⟨a1, a2, t, I.tup f h1, I.dkT f h2, I.dkT f h3, h4⟩)
  · exact .inr (.inr ⟨a1, a2, ms, ns, I.tup f h1, I.lst f h2 n1, I.lst f h3 n2, fun x hx => I.tup f (h4 x hx), fun x hx => I.tup f (h5 x hx), h6, n1, n2⟩)
/-- where the state's dict and the list of what was told stand -/
theorem Inv11.fr (I : Inv11 CH CL H X k) (f : Fr5 X.st X.hl H H') (hh : HandAt CH CL H' X.B X.n X.c X.S) (h1 : H' X.st = some (.dK (stK X.n X.c X.S.since X.m X.kp X.bs X.hl))) (h2 : H' X.hl = some (.lst (X.hs.map V.ref))) : Inv11 CH CL H' X k :=
  ⟨hh, h1, I.lst f I.kpt I.nk, fun x hx => ⟨I.tup f (I.mv x hx).1, (I.mv x hx).2⟩, I.rise, I.perm, I.late, I.cl, I.nm, I.mm, I.dkT f I.bst, I.size, I.nk, I.nd, h2, I.lst f I.dps I.nd, fun b hb => I.pair f (I.two b hb)⟩
theorem Inv11.same (I : Inv11 CH CL H X k) (s : Same H H') : Inv11 CH CL H' X k := I.fr (.of (.of s)) (I.hand.same s) (s _ _ I.stt) (s _ _ I.held)
theorem Inv11.mono (I : Inv11 CH CL H X k) {j : Nat} (h : k ≤ j) : Inv11 CH CL H X j := ⟨I.hand, I.stt, I.kpt, I.mv, I.rise, I.perm, I.late, I.cl, I.nm, I.mm, I.bst, Nat.le_trans I.size h, I.nk, I.nd, I.held, I.dps, I.two⟩
theorem Inv11.len (I : Inv11 CH CL H X k) : X.L.length = X.S.kept.length ∧ X.S.kept.length ≤ k := by
  have := I.perm.length_eq
  unfold mvs at this
  rw [List.length_map, List.length_map] at this
  have := I.size
  omega
theorem Inv11.keptT (I : Inv11 CH CL H X k) : ∀ p ∈ X.S.kept, X.S.since ≤ p.2.t ∧ p.2.t ≤ X.c := fun p hp => by
  have h : p.2 ∈ mvs X.S.kept := List.mem_map.mpr ⟨p, hp, rfl⟩
  rw [← I.perm.mem_iff] at h
  obtain ⟨x, hx, e⟩ := List.mem_map.mp h
  rw [← e]
  exact I.late x hx
/-- the state's values -/
theorem Inv11.gn (I : Inv11 CH CL H X k) : DGet H X.st (.str ("number" : Str)) (some (.int X.n)) := by
  have g := DGet.k (k := Sum.inr ("number" : Str)) I.stt
  rw [st_number] at g
  exact g
theorem Inv11.gc (I : Inv11 CH CL H X k) : DGet H X.st (.str ("clock" : Str)) (some (.int X.c)) := by
  have g := DGet.k (k := Sum.inr ("clock" : Str)) I.stt
  rw [st_clock] at g
  exact g
theorem Inv11.gs (I : Inv11 CH CL H X k) : DGet H X.st (.str ("since" : Str)) (some (.int X.S.since)) := by
  have g := DGet.k (k := Sum.inr ("since" : Str)) I.stt
  rw [st_since] at g
  exact g
theorem Inv11.gm (I : Inv11 CH CL H X k) : DGet H X.st (.str ("many" : Str)) (some (.int X.m)) := by
  have g := DGet.k (k := Sum.inr ("many" : Str)) I.stt
  rw [st_many] at g
  exact g
theorem Inv11.gk (I : Inv11 CH CL H X k) : DGet H X.st (.str ("kept" : Str)) (some (.ref X.kp)) := by
  have g := DGet.k (k := Sum.inr ("kept" : Str)) I.stt
  rw [st_kept] at g
  exact g
theorem Inv11.gb (I : Inv11 CH CL H X k) : DGet H X.st (.str ("base" : Str)) (some (.ref X.bs)) := by
  have g := DGet.k (k := Sum.inr ("base" : Str)) I.stt
  rw [st_base] at g
  exact g
theorem Inv11.gh (I : Inv11 CH CL H X k) : DGet H X.st (.str ("held" : Str)) (some (.ref X.hl)) := by
  have g := DGet.k (k := Sum.inr ("held" : Str)) I.stt
  rw [st_held] at g
  exact g
end
/-- behind a deed -/
def SameD (X Y : D11) : Prop := Y.B.l = X.B.l ∧ Y.st = X.st ∧ Y.hl = X.hl ∧ Y.dp = X.dp ∧ Y.hs = X.hs ∧ Y.ds = X.ds
/-! ### _law_own -/
def sp_law_own (T : Tx K mg) : Sp := fun vs H Q _ => ∃ (X : D11) (k : Nat) (pk cell : Int), vs = [.ref X.B.l, .ref X.st, .int pk, .int cell] ∧ Inv11 T.o_Hand T.o_Log H X k ∧ k ≤ 300 ∧ 0 ≤ pk ∧
  ∀ H' Y, SameD X Y → Inv11 T.o_Hand T.o_Log H' Y (k + 1) → Q (.bl true) H'
/-- one of the two is none -/
def Bad2 (f u : V) : Prop := numB 1 f = false ∨ numB 0 u = false
theorem move_bad {t n : Int} {f u : V} (h : Bad2 f u) : moveB (.int t) (.int n) f u = false := by
  unfold moveB
  rcases h with h | h <;> rw [h]
  · rw [Bool.false_and, Bool.and_false]
  · rw [Bool.and_false, Bool.and_false]
set_option maxHeartbeats 4000000 in
theorem ok_law_own (T : Tx K mg) : FnOk P w K mg base CX0 5 T.a_law_own T.d_law_own ["_law_hand", "_law_state", "_law_pick", "_law_cell"] (sp_law_own T) := by
  refine T.F_law_own.ok sc_law_own (fun vs H Q E h => ?_) (fun cdv A outer s H vs Q E hr h => ?_)
  · obtain ⟨X, k, pk, cell, rfl, _⟩ := h
    rfl
  · obtain ⟨X, k, pk, cell, rfl, I, hk, p0, q⟩ := h
    have hu := hu_of hr
    refine ⟨_, pss_cons (ps_set (i := 4) sc_law_own.nd rfl (.inl rfl) (pe_call (ok_law_name T) (hr.mono (by decide)) (by rfl) T.g_law_name T.F_law_name.kp T.b_law_name .nil pass0 (pa_cons (pe_op op_mod (pv 2) (pe_dget hu (pv 1) pe_str (fun _ _ => rfl))) (pa_cons (pv 3) pa_nil))))
      (pss_cons (ps_set (i := 5) sc_law_own.nd rfl (.inl rfl) (pe_op op_mul (pe_call (ok_law_name T) (hr.mono (by decide)) (by rfl) T.g_law_name T.F_law_name.kp T.b_law_name .nil pass0 (pa_cons (pe_op op_mod (pe_op op_fdiv (pv 2) pe_int) (pe_dget hu (pv 1) pe_str (fun _ _ => rfl))) (pa_cons (pv 3) pa_nil))) (pe_op op_mod (pe_op op_mod (pe_op op_fdiv (pv 2) pe_int) pe_int) pe_int)))
      (C8.pss_cut (ps_if (pt_cmpR op_eq (pe_op op_mod (pe_op op_fdiv (pv 2) pe_int) pe_int) pe_int (nomark _)) (pss_cons (ps_set (i := 4) sc_law_own.nd rfl (.inl rfl) (pe_ix ix_list (pe_lst (pa_cons pe_int (pa_cons (pe_un un_neg pe_int) (pa_cons (pe_op op_add (pe_op op_pow pe_int pe_int) pe_int) (pa_cons pe_bl (pa_cons pe_non (pa_cons pe_int (pa_cons pe_int (pa_cons pe_int (pa_cons pe_int pa_nil)))))))))) (pe_op op_mod (pe_op op_fdiv (pv 2) pe_int) pe_int) (fun _ _ => rfl)))
      (pss_one (ps_set (i := 5) sc_law_own.nd rfl (.inl rfl) (pe_ix ix_list (pe_lst (pa_cons pe_int (pa_cons pe_int (pa_cons pe_int (pa_cons pe_int (pa_cons pe_int (pa_cons (pe_un un_neg pe_int) (pa_cons (pe_op op_add (pe_op op_pow pe_int pe_int) pe_int) (pa_cons pe_bl (pa_cons pe_non pa_nil)))))))))) (pe_op op_mod (pe_op op_fdiv (pv 2) pe_int) pe_int) (fun _ _ => rfl))))) pss_nil)
      (pss_cons (ps_set (i := 6) sc_law_own.nd rfl (.inl rfl) (pe_tup (pa_cons (pe_op op_add (pe_dget hu (pv 1) pe_str (fun _ _ => rfl)) pe_int) (pa_cons (pe_dget hu (pv 1) pe_str (fun _ _ => rfl)) (pa_cons (pv 4) (pa_cons (pv 5) pa_nil))))))
      (pss_cons (ps_set (i := 7) sc_law_own.nd rfl (.inl rfl) pe_non)
      (pss_cons (ps_try_only (Wout := fun _ _ _ _ => False) rfl rfl ⟨rfl, by decide, .inl T.gc_NoMove⟩ takes0 (fun W pn xe tk _ => pss_one (ps_set (i := 7) sc_law_own.nd rfl (.inl rfl) (pe_methX (pv 0) T.cl_Hand T.mt_Hand_move (ok_Hand_move T) (hr.mono (by decide)) T.b_Hand_move (fun σ => passAt tk σ) (by exact (pa_cons (pv 4) (pa_cons (pv 5) pa_nil)))))) (fun a oe cls d pn hz hf => pss_one (ps_ret (pe_or (pe_cmpR op_eq (pe_op op_mod (pe_op op_fdiv (pv 2) pe_int) pe_int) pe_int (nomark _)) (pe_one (pe_cmpR op_gt (pe_ix (r := rIxT K) ix_tup (pv 6) pe_int (fun _ _ => rfl)) (pe_op op_pow pe_int pe_int) (nomark _)))))))
      (pss_cons (ps_if (PW.pt (pw_or (pt_cmpR op_eq (pe_op op_mod (pe_op op_fdiv (pv 2) pe_int) pe_int) pe_int (nomark _)) (pw_or (pt_cmpR op_gt (pe_ix ix_tup (pv 6) pe_int (fun _ _ => rfl)) (pe_op op_pow pe_int pe_int) (nomark _)) (pw_or1 (pt_not (pt_val (pe_call (ok_law_same_move T) (hr.mono (by decide)) (by rfl) T.g_law_same_move T.F_law_same_move.kp T.b_law_same_move .nil pass0 (pa_cons (pv 7) (pa_cons (pv 6) pa_nil))))))))) (pss_one (ps_ret pe_bl)) pss_nil)
      (pss_cons (ps_dput hu (pv 1) pe_str (pe_call (ok_law_told T) (hr.mono (by decide)) (by rfl) T.g_law_told T.F_law_told.kp T.b_law_told .nil pass0 (pa_cons (pe_dget hu (pv 1) pe_str (fun _ _ => rfl)) (pa_cons (pv 6) pa_nil))) rfl)
      (pss_cons (ps_dput hu (pv 1) pe_str (pe_ix ix_tup (pv 6) pe_int (fun _ _ => rfl)) rfl)
      (pss_one (ps_ret pe_bl)))))))))), ?_⟩
    rw [st_law_own]
    have hp := p60
    have mm := I.mm
    have m0 : (0 : Int) < X.m := by omega
    have f0 : 0 ≤ pk % X.m := Int.emod_nonneg _ (by omega)
    have f1 : pk % X.m < X.m := Int.emod_lt_of_pos _ m0
    have u0 : 0 ≤ pk / 7 % X.m := Int.emod_nonneg _ (by omega)
    have u1 : pk / 7 % X.m < X.m := Int.emod_lt_of_pos _ m0
    have gm := I.gm
    walk_at "rd"
    intro H1 s1
    have I1 := I.same s1
    have gm1 := I1.gm
    have x2 : 0 ≤ pk / 49 % 4 % 2 ∧ pk / 49 % 4 % 2 ≤ 1 := by omega
    walk_at "rd"
    intro H2 s2
    have I2 := I1.same s2
    walk_at "rd"
    have fn1 := nameOf_pos (c := cell) (k := pk % X.m) f0 (by omega)
    have fn2 := nameOf_le (c := cell) (k := pk % X.m) f0 (by omega)
    have un1 := nameOf_pos (c := cell) (k := pk / 7 % X.m) u0 (by omega)
    have un2 := nameOf_le (c := cell) (k := pk / 7 % X.m) u0 (by omega)
    have ub : 0 ≤ nameOf cell (pk / 7 % X.m) * (pk / 49 % 4 % 2) ∧ nameOf cell (pk / 7 % X.m) * (pk / 49 % 4 % 2) ≤ N60 := by
      have h : pk / 49 % 4 % 2 = 0 ∨ pk / 49 % 4 % 2 = 1 := by omega
      rcases h with h | h <;> rw [h]
      · rw [Int.mul_zero]
        exact ⟨Int.le_refl _, by decide⟩
      · rw [Int.mul_one]
        exact ⟨by omega, un2⟩
    generalize nameOf cell (pk % X.m) = fi0 at fn1 fn2 ⊢
    generalize nameOf cell (pk / 7 % X.m) * (pk / 49 % 4 % 2) = ui0 at ub ⊢
    have s02 := s1.trans s2
    refine ⟨fun σ' H' => ∃ f u : V, σ' = [some (.ref X.B.l), some (.ref X.st), some (.int pk), some (.int cell), some f, some u, none, none] ∧ Same H H' ∧ Kd H' f ∧ Kd H' u ∧ ((pk / 196 % 5 = 1 ∧ Bad2 f u) ∨ (¬ pk / 196 % 5 = 1 ∧ ∃ fi ui : Int, f = .int fi ∧ u = .int ui ∧ 1 ≤ fi ∧ fi ≤ N60 ∧ 0 ≤ ui ∧ ui ≤ N60)), ?_, ?_⟩
    · walk_at "rd"
      refine ite2 (fun e => ?_) (fun e => ?_)
      · have e : pk / 196 % 5 = 1 := V.int.inj (of_decide_eq_true e)
        walk_at "rd"
        intro l1 n_l1
        have s_l1 := same_upd (o := HO.lst [V.int 0, V.int (-1), V.int (10 ^ Int.toNat 60 + 1), V.bl true, V.non, V.int 1, V.int 1, V.int 1, V.int 1]) n_l1
        have t_l1 := upd_same (H := H2) (a := l1) (o := HO.lst [V.int 0, V.int (-1), V.int (10 ^ Int.toNat 60 + 1), V.bl true, V.non, V.int 1, V.int 1, V.int 1, V.int 1])
        generalize upd H2 l1 (HO.lst [V.int 0, V.int (-1), V.int (10 ^ Int.toNat 60 + 1), V.bl true, V.non, V.int 1, V.int 1, V.int 1, V.int 1]) = H3 at s_l1 t_l1 ⊢
        have l1S := SqL.of (K := K) t_l1
        have i0 : 0 ≤ pk / 980 % 9 ∧ pk / 980 % 9 < 9 := by omega
        have hat : ∃ f u : V, atI [V.int 0, V.int (-1), V.int (10 ^ Int.toNat 60 + 1), V.bl true, V.non, V.int 1, V.int 1, V.int 1, V.int 1] (pk / 980 % 9) = some f ∧ atI [V.int 0, V.int 0, V.int 0, V.int 0, V.int 0, V.int (-1), V.int (10 ^ Int.toNat 60 + 1), V.bl false, V.non] (pk / 980 % 9) = some u ∧ (∀ G, Kd G f) ∧ (∀ G, Kd G u) ∧ Bad2 f u := by
          have h : pk / 980 % 9 = 0 ∨ pk / 980 % 9 = 1 ∨ pk / 980 % 9 = 2 ∨ pk / 980 % 9 = 3 ∨ pk / 980 % 9 = 4 ∨ pk / 980 % 9 = 5 ∨ pk / 980 % 9 = 6 ∨ pk / 980 % 9 = 7 ∨ pk / 980 % 9 = 8 := by omega
          rw [hp]
          rcases h with h | h | h | h | h | h | h | h | h <;> rw [h]
          · exact ⟨_, _, atI_nat (j := 0) rfl, atI_nat (j := 0) rfl, fun _ => .int _, fun _ => .int _, .inl (numB_lo (by decide))⟩
          · exact ⟨_, _, atI_nat (j := 1) rfl, atI_nat (j := 1) rfl, fun _ => .int _, fun _ => .int _, .inl (numB_lo (by decide))⟩
          · exact ⟨_, _, atI_nat (j := 2) rfl, atI_nat (j := 2) rfl, fun _ => .int _, fun _ => .int _, .inl (numB_hi (by decide))⟩
          · exact ⟨_, _, atI_nat (j := 3) rfl, atI_nat (j := 3) rfl, fun _ => .bl _, fun _ => .int _, .inl rfl⟩
          · exact ⟨_, _, atI_nat (j := 4) rfl, atI_nat (j := 4) rfl, fun _ => .non, fun _ => .int _, .inl rfl⟩
          · exact ⟨_, _, atI_nat (j := 5) rfl, atI_nat (j := 5) rfl, fun _ => .int _, fun _ => .int _, .inr (numB_lo (by decide))⟩
          · exact ⟨_, _, atI_nat (j := 6) rfl, atI_nat (j := 6) rfl, fun _ => .int _, fun _ => .int _, .inr (numB_hi (by decide))⟩
          · exact ⟨_, _, atI_nat (j := 7) rfl, atI_nat (j := 7) rfl, fun _ => .int _, fun _ => .bl _, .inr rfl⟩
          · exact ⟨_, _, atI_nat (j := 8) rfl, atI_nat (j := 8) rfl, fun _ => .int _, fun _ => .non, .inr rfl⟩
        obtain ⟨f, u, hf, hu', kf, ku, bad⟩ := hat
        walk_at "rd"
        intro l2 n_l2
        have s_l2 := same_upd (o := HO.lst [V.int 0, V.int 0, V.int 0, V.int 0, V.int 0, V.int (-1), V.int (10 ^ Int.toNat 60 + 1), V.bl false, V.non]) n_l2
        have t_l2 := upd_same (H := H3) (a := l2) (o := HO.lst [V.int 0, V.int 0, V.int 0, V.int 0, V.int 0, V.int (-1), V.int (10 ^ Int.toNat 60 + 1), V.bl false, V.non])
        generalize upd H3 l2 (HO.lst [V.int 0, V.int 0, V.int 0, V.int 0, V.int 0, V.int (-1), V.int (10 ^ Int.toNat 60 + 1), V.bl false, V.non]) = H4 at s_l2 t_l2 ⊢
        have l2S := SqL.of (K := K) t_l2
        walk_at "rd"
        exact ⟨s02.trans (s_l1.trans s_l2), kf _, ku _, .inl ⟨e, bad⟩⟩
      · have e : ¬ pk / 196 % 5 = 1 := fun z => e (decide_eq_true (congrArg V.int z))
        exact ⟨_, _, rfl, s02, .int _, .int _, .inr ⟨e, fi0, ui0, rfl, rfl, fn1, fn2, ub.1, ub.2⟩⟩
    · rintro σ' H3 ⟨f, u, rfl, s3, kf, ku, hfu⟩
      have I3 := I.same s3
      have gc3 := I3.gc
      have gn3 := I3.gn
      walk_at "rd"
      intro dq n_dq
      have s_dq := same_upd (o := HO.tup [V.int (X.c + 1), V.int X.n, f, u]) n_dq
      have t_dq := upd_same (H := H3) (a := dq) (o := HO.tup [V.int (X.c + 1), V.int X.n, f, u])
      generalize upd H3 dq (HO.tup [V.int (X.c + 1), V.int X.n, f, u]) = H4 at s_dq t_dq ⊢
      have I4 := I3.same s_dq
      have hl4 := I.len
      have kpT := I.keptT
      have at0 : atI [V.int (X.c + 1), V.int X.n, f, u] 0 = some (.int (X.c + 1)) := atI_nat (j := 0) rfl
      have cl := I.cl
      have nm := I.nm
      walk_at "rd"
      refine ⟨X.B.l, X.B.dx, _, rfl, I4.hand.ins, rfl, _, rfl, _, rfl, X.B, X.n, X.c, X.S, f, u, rfl, I4.hand, kf.same s_dq, ku.same s_dq, by omega, fun p hp => (kpT p hp).2, cl.2.1, ?_⟩
      by_cases good : ¬ pk / 196 % 5 = 1 ∧ X.c + 1 ≤ N60
      · obtain ⟨g1, g2⟩ := good
        rcases hfu with ⟨h1, _⟩ | ⟨_, fi, ui, rfl, rfl, b1, b2, b3, b4⟩
        · exact absurd h1 g1
        · have im : IsMv ⟨X.c + 1, X.n, fi, ui⟩ := .of (by show 1 ≤ X.c + 1; omega) g2 nm.1 (by show X.n ≤ N60; omega) b1 b2 b3 b4
          refine .inr ⟨fi, ui, rfl, rfl, im, fun H5 a na fr hm h5 => ?_⟩
          have f5 : Fr5 X.st X.hl H4 H5 := .of (FrH.fr3 I4.hand fr)
          have dq5 := I4.tup f5 t_dq
          have hm5 := SqT.of (K := K) hm
          have dqS5 := SqT.of (K := K) dq5
          have st5 : H5 X.st = some (.dK (stK X.n X.c X.S.since X.m X.kp X.bs X.hl)) := fr _ _ I4.stt (ne_of I4.stt I4.hand.ins fun z => nomatch z) (ne_of I4.stt I4.hand.log.ins fun z => nomatch z) (ne_of I4.stt I4.hand.log.dictk fun z => nomatch z)
          have hl5 : H5 X.hl = some (.lst (X.hs.map V.ref)) := fr _ _ I4.held (ne_of I4.held I4.hand.ins fun z => nomatch z) (ne_of I4.held I4.hand.log.ins fun z => nomatch z) (ne_of I4.held I4.hand.log.dictk fun z => nomatch z)
          have gk5 : DGet H5 X.st (.str ("kept" : Str)) (some (.ref X.kp)) := by
            have g := DGet.k (k := Sum.inr ("kept" : Str)) st5
            rw [st_kept] at g
            exact g
          have kp5 := I4.lst f5 I4.kpt I4.nk
          have mv5 : ∀ x ∈ X.L, MvAt H5 x.1 x.2 := fun x hx => I4.tup f5 (I4.mv x hx).1
          walk_at "rd"
          refine iteNF (fun z => g1 (V.int.inj z)) ?_
          walk_at "rd"
          rw [hp]
          refine iteNF (Int.not_lt.mpr g2) ?_
          walk_at "rd"
          refine ⟨a, dq, [X.c + 1, X.n, fi, ui], rfl, hm, dq5, rfl, ?_⟩
          walk_at "rd"
          refine ⟨X.kp, dq, X.L, ⟨X.c + 1, X.n, fi, ui⟩, rfl, kp5, mv5, dq5, by have := hl4.1; have := hl4.2; omega, fun H6 ta s6 nta hta => ?_⟩
          have st6 := s6 _ _ st5
          have dq6 := s6 _ _ dq5
          walk_at "rd"
          refine ⟨X.st, _, rfl, DPut.k (k := Sum.inr ("kept" : Str)) st6 (small1000 (by rw [st_length]; decide)), ?_⟩
          rw [st_put_kept]
          have st7 := upd_same (H := H6) (a := X.st) (o := HO.dK (stK X.n X.c X.S.since X.m ta X.bs X.hl))
          have dqS7 := SqT.of (K := K) ((upd_ne (o := HO.dK (stK X.n X.c X.S.since X.m ta X.bs X.hl)) (ne_of dq6 st6 fun z => nomatch z)).trans dq6)
          walk_at "rd"
          refine ⟨X.st, _, rfl, DPut.k (k := Sum.inr ("clock" : Str)) st7 (small1000 (by rw [st_length]; decide)), ?_⟩
          rw [st_put_clock, upd_upd]
          have st8 := upd_same (H := H6) (a := X.st) (o := HO.dK (stK X.n (X.c + 1) X.S.since X.m ta X.bs X.hl))
          have f8 : Fr5 X.st X.hl H4 (upd H6 X.st (HO.dK (stK X.n (X.c + 1) X.S.since X.m ta X.bs X.hl))) := f5.trans ((Fr5.of (.of s6)).trans .put)
          have k8 : ∀ b o, H6 b = some o → b ≠ X.st → upd H6 X.st (HO.dK (stK X.n (X.c + 1) X.S.since X.m ta X.bs X.hl)) b = some o := fun b o h n => (upd_ne n).trans h
          generalize upd H6 X.st (HO.dK (stK X.n (X.c + 1) X.S.since X.m ta X.bs X.hl)) = H8 at st8 f8 k8 ⊢
          have h6 := h5.same s6
          have nst : ∀ {b o}, H6 b = some o → (∀ kv, o ≠ .dK kv) → H8 b = some o := fun {b o} h n => k8 _ _ h (fun e => by
            rw [e, st6] at h
            cases h
            exact n _ rfl)
          have h8 : HandAt T.o_Hand T.o_Log H8 X.B X.n (X.c + 1) ⟨X.S.since, X.S.base, X.S.kept ++ [(a, ⟨X.c + 1, X.n, fi, ui⟩)]⟩ := by
            refine ⟨nst h6.ins fun _ z => (nomatch z), ⟨nst h6.log.ins fun _ z => (nomatch z), ?_, nst h6.log.dictk fun _ z => (nomatch z), fun p hp => nst (h6.log.mv p hp) fun _ z => (nomatch z), h6.log.fine, h6.log.keys⟩⟩
            refine k8 _ _ h6.log.dict0 fun e => ?_
            have z := h6.log.dict0
            rw [e, st6] at z
            exact kvT_not_st (HO.dK.inj (Option.some.inj z)).symm
          have nth : ta ≠ X.hl := fun e => by rw [e, hl5] at nta; cases nta
          have e8 : H8 ta = some (.lst (refsA (insM (fun x : AM => x.2) X.L (dq, ⟨X.c + 1, X.n, fi, ui⟩)))) := nst hta fun _ z => (nomatch z)
          have fresh : ∀ x ∈ X.L, ¬ SameKey x.2 ⟨X.c + 1, X.n, fi, ui⟩ := fun x hx e => by
            have h1 : x.2.t = X.c + 1 := e.1
            have := I.late x hx
            omega
          walk_at "rd"
          refine q H8 { X with c := X.c + 1, S := ⟨X.S.since, X.S.base, X.S.kept ++ [(a, ⟨X.c + 1, X.n, fi, ui⟩)]⟩, kp := ta, L := insM (fun x : AM => x.2) X.L (dq, ⟨X.c + 1, X.n, fi, ui⟩) } ⟨rfl, rfl, rfl, rfl, rfl, rfl⟩
            ⟨h8, st8, e8, fun x hx => ?_, I.rise.insM fresh, ?_, fun x hx => ?_, ?_, I.nm, I.mm, I4.dkT f8 I4.bst, ?_, nth, I.nd, nst (s6 _ _ hl5) fun _ z => (nomatch z), I4.lst f8 I4.dps I4.nd, fun b hb => I4.pair f8 (I4.two b hb)⟩
          · rcases List.mem_cons.mp ((insM_perm _ _ _).mem_iff.mp hx) with rfl | hx
            · exact ⟨nst dq6 fun _ z => (nomatch z), im⟩
            · exact ⟨I4.tup f8 (I4.mv x hx).1, (I.mv x hx).2⟩
          · refine ((insM_perm _ _ _).map (fun x : AM => x.2)).trans ?_
            show (List.Perm _ (mvs (X.S.kept ++ [(a, ⟨X.c + 1, X.n, fi, ui⟩)])))
            unfold mvs
            rw [List.map_append]
            exact (I.perm.cons _).trans (List.perm_append_comm (l₁ := [_]))
          · show X.S.since ≤ x.2.t ∧ x.2.t ≤ X.c + 1
            rcases List.mem_cons.mp ((insM_perm _ _ _).mem_iff.mp hx) with rfl | hx
            · exact ⟨cl.2.1, Int.le_refl _⟩
            · have := I.late x hx
              omega
          · show 0 ≤ X.S.since ∧ X.S.since ≤ X.c + 1 + 1 ∧ 0 ≤ X.c + 1
            omega
          · show X.S.base.length + (X.S.kept ++ [((a, ⟨X.c + 1, X.n, fi, ui⟩) : AM)]).length ≤ k + 1
            rw [List.length_append, List.length_singleton]
            have := I.size
            omega
      · have mb : moveB (.int (X.c + 1)) (.int X.n) f u = false := by
          rcases hfu with ⟨_, bad⟩ | ⟨h1, fi, ui, rfl, rfl, _⟩
          · exact move_bad bad
          · have g2 : N60 < X.c + 1 := Classical.byContradiction fun z => good (And.intro h1 (Int.not_lt.mp z))
            unfold moveB
            rw [show numB 1 (.int (X.c + 1)) = false from numB_hi g2]
            rfl
        refine .inl ⟨mb, fun H5 fr h5 => ?_⟩
        have f5 : Fr5 X.st X.hl H4 H5 := .of (FrH.fr3 I4.hand fr)
        have dq5 := I4.tup f5 t_dq
        have dqS5 := SqT.of (K := K) dq5
        have st5 : H5 X.st = some (.dK (stK X.n X.c X.S.since X.m X.kp X.bs X.hl)) := fr _ _ I4.stt (ne_of I4.stt I4.hand.ins fun z => nomatch z) (ne_of I4.stt I4.hand.log.ins fun z => nomatch z) (ne_of I4.stt I4.hand.log.dictk fun z => nomatch z)
        have hl5 : H5 X.hl = some (.lst (X.hs.map V.ref)) := fr _ _ I4.held (ne_of I4.held I4.hand.ins fun z => nomatch z) (ne_of I4.held I4.hand.log.ins fun z => nomatch z) (ne_of I4.held I4.hand.log.dictk fun z => nomatch z)
        have I5 := (I4.fr f5 h5 st5 hl5).mono (Nat.le_succ k)
        have qq := q H5 X ⟨rfl, rfl, rfl, rfl, rfl, rfl⟩ I5
        refine ⟨true, T.em_NoMove_NoMove, fun _ a ha => ?_, fun z => nomatch z⟩
        walk_at "rd"
        by_cases e : pk / 196 % 5 = 1
        · rw [decide_eq_true (congrArg V.int e)]
          refine iteT ?_
          exact qq
        · rw [decide_eq_false (fun z => e (V.int.inj z))]
          refine iteF ?_
          have g2 : N60 < X.c + 1 := Classical.byContradiction fun z => good (And.intro e (Int.not_lt.mp z))
          walk_at "rd"
          rw [hp, decide_eq_true g2]
          exact qq
/-! ### _law_settled -/
theorem mvs_gone (t : Int) (l : List AM) : mvs (goneOf t l) = (mvs l).filter fun m => decide (m.t < t) := by
  unfold mvs goneOf
  rw [List.filter_map]
  rfl
theorem mvs_later (t : Int) (l : List AM) : mvs (laterOf t l) = (mvs l).filter fun m => decide (t ≤ m.t) := by
  unfold mvs laterOf
  rw [List.filter_map]
  rfl
theorem mvs_len (l : List AM) : (mvs l).length = l.length := List.length_map ..
theorem settled11 {S : LogS} {L lg : List AM} {t : Int} (rise : Rising (·.2) L) (perm : (mvs L).Perm (mvs S.kept)) (late : ∀ x ∈ L, S.since ≤ x.2.t) (td : S.since < t → Told S lg) :
    (if t ≤ S.since then (0 : Int) else ((goneOf t lg).length : Int)) = (gN t L : Int) ∧ (S.settle t lg).since = (if t > S.since then t else S.since) ∧ (S.settle t lg).base = foldT S.base (mvs (L.take (gN t L))) ∧ (mvs (L.drop (gN t L))).Perm (mvs (S.settle t lg).kept) ∧ (∀ x ∈ L.drop (gN t L), (S.settle t lg).since ≤ x.2.t) ∧
      (S.settle t lg).base.length + (S.settle t lg).kept.length ≤ S.base.length + S.kept.length := by
  unfold LogS.settle
  by_cases c : t ≤ S.since
  · rw [if_pos c, if_pos c, if_neg (by omega)]
    have g : gN t L = 0 := by
      unfold gN goneOf
      rw [List.filter_eq_nil_iff.mpr fun x hx k => by
        have := of_decide_eq_true k
        have := late x hx
        omega]
      rfl
    rw [g]
    exact ⟨rfl, rfl, rfl, perm, late, Nat.le_refl _⟩
  · rw [if_neg c, if_neg c, if_pos (by omega)]
    have told := td (by omega)
    have em : mvs lg = mvs L := Rising.uniq (k := id) (Rising.map (f := fun x : AM => x.2) told.2) (Rising.map (f := fun x : AM => x.2) rise) ((told.1.map fun x : AM => x.2).trans perm.symm)
    have eg : mvs (goneOf t lg) = mvs (goneOf t L) := by rw [mvs_gone, mvs_gone, em]
    have el : (goneOf t lg).length = gN t L := by
      rw [← mvs_len, eg, mvs_len]
      rfl
    refine ⟨by rw [el], rfl, ?_, ?_, fun x hx => ?_, ?_⟩
    · show foldT S.base (mvs (goneOf t lg)) = _
      rw [eg, gone_take rise]
    · rw [← later_drop rise]
      show (mvs (laterOf t L)).Perm (mvs (laterOf t S.kept))
      rw [mvs_later, mvs_later]
      exact perm.filter _
    · rw [← later_drop rise] at hx
      exact of_decide_eq_true (List.mem_filter.mp hx).2
    · have h1 : (foldT S.base (mvs (goneOf t lg))).length ≤ S.base.length + (goneOf t lg).length := Nat.le_trans foldT_length (by rw [mvs_len]; exact Nat.le_refl _)
      have h2 : (laterOf t S.kept).length = (laterOf t L).length := by
        rw [← mvs_len, ← mvs_len (laterOf t L), mvs_later, mvs_later]
        exact (perm.filter _).length_eq.symm
      have h3 : gN t L + (laterOf t L).length = L.length := by
        rw [later_drop rise, List.length_drop]
        have := gN_le t L
        omega
      have h4 := perm.length_eq
      rw [mvs_len, mvs_len] at h4
      show (foldT S.base (mvs (goneOf t lg))).length + (laterOf t S.kept).length ≤ _
      omega
def sp_law_settled (T : Tx K mg) : Sp := fun vs H Q _ => ∃ (X : D11) (k : Nat) (pk : Int) (g : Bool), vs = [.ref X.B.l, .ref X.st, .int pk, .bl g] ∧ Inv11 T.o_Hand T.o_Log H X k ∧ k ≤ 300 ∧ 0 ≤ pk ∧
  ∀ H' Y, SameD X Y → Inv11 T.o_Hand T.o_Log H' Y (k + 1) → Q (.bl true) H'
set_option maxHeartbeats 4000000 in
theorem ok_law_settled (T : Tx K mg) : FnOk P w K mg base CX0 5 T.a_law_settled T.d_law_settled ["_law_hand", "_law_state", "_law_pick", "_law_great"] (sp_law_settled T) := by
  refine T.F_law_settled.ok sc_law_settled (fun vs H Q E h => ?_) (fun cdv A outer s H vs Q E hr h => ?_)
  · obtain ⟨X, k, pk, g, rfl, _⟩ := h
    rfl
  · obtain ⟨X, k, pk, g, rfl, I, hk, p0, q⟩ := h
    have hu := hu_of hr
    refine ⟨_, pss_cons (ps_set (i := 4) sc_law_settled.nd rfl (.inr rfl) (pe_callB (call_max2 rfl) (by rfl) T.m_max (by decide +kernel) (pa_cons pe_int (pa_cons (pe_op op_sub (pe_op op_add (pe_dget hu (pv 1) pe_str (fun _ _ => rfl)) (pe_op op_mod (pv 2) pe_int)) pe_int) pa_nil))))
      (C8.pss_cut (ps_if (PW.pt (pw_and (pt_val (pv 3)) (pw_and1 (pt_cmpR op_eq (pe_op op_mod (pe_op op_fdiv (pv 2) pe_int) pe_int) pe_int (nomark _))))) (pss_one (ps_set (i := 4) sc_law_settled.nd rfl (.inr rfl) (pe_op op_add (pe_op op_sub (pe_op op_pow pe_int pe_int) pe_int) (pe_op op_mod (pe_op op_fdiv (pv 2) pe_int) pe_int)))) pss_nil)
      (pss_cons (ps_set (i := 5) sc_law_settled.nd rfl (.inl rfl) (pe_callB call_len_seq (by rfl) T.m_len PySem.boot_len (pa_cons (pe_lc (own := [("_law_one", 7)]) (g := gName 7) rfl sc_law_settled.nd (pi_list (pe_dget hu (pv 1) pe_str (fun _ _ => rfl))) (blkOk_by (own := [("_law_one", 7)]) (N := ["_law_hand", "_law_state", "_law_pick", "_law_great", "_law_time", "_law_gone", "_law_told_here", "_law_one"]) (sc := defScope s_law_settled) (by decide +kernel)) (fun _ _ _ _ _ => pg_name (i := 7) sc_law_settled.nd rfl (Or.inl rfl)) (fun _ _ _ _ _ => pts_one (pt_cmpR op_lt (pe_ix (r := rIxT K) ix_tup (pv 7) pe_int (fun _ _ => rfl)) (pv 4) (nomark _))) (fun _ _ _ _ _ => pv 7)) pa_nil)))
      (pss_cons (ps_set (i := 6) sc_law_settled.nd rfl (.inl rfl) (pe_meth (pv 0) T.cl_Hand T.mt_Hand_settle (ok_Hand_settle T) (hr.mono (by decide)) T.b_Hand_settle .nil pass0 (pa_cons (pv 4) pa_nil)))
      (pss_cons (ps_if (PW.pt (pw_or (pt_not (pt_val (pe_call (ok_law_whole T) (hr.mono (by decide)) (by rfl) T.g_law_whole T.F_law_whole.kp T.b_law_whole .nil pass0 (pa_cons (pv 6) pa_nil)))) (pw_or1 (pt_cmpR op_ne (pv 6) (pv 5) (nomark _))))) (pss_one (ps_ret pe_bl)) pss_nil)
      (pss_cons (ps_dput hu (pv 1) pe_str (pe_call (ok_law_fold T) (hr.mono (by decide)) (by rfl) T.g_law_fold T.F_law_fold.kp T.b_law_fold .nil pass0 (pa_cons (pe_dget hu (pv 1) pe_str (fun _ _ => rfl)) (pa_cons (pe_slice sl_list (pe_dget hu (pv 1) pe_str (fun _ _ => rfl)) po_none (po_some (pv 5))) pa_nil))) rfl)
      (pss_cons (ps_dput hu (pv 1) pe_str (pe_slice sl_list (pe_dget hu (pv 1) pe_str (fun _ _ => rfl)) (po_some (pv 5)) po_none) rfl)
      (pss_cons (ps_dput hu (pv 1) pe_str (pe_callB (call_max2 rfl) (by rfl) T.m_max (by decide +kernel) (pa_cons (pe_dget hu (pv 1) pe_str (fun _ _ => rfl)) (pa_cons (pv 4) pa_nil))) rfl)
      (pss_cons (ps_dput hu (pv 1) pe_str (pe_callB (call_max2 rfl) (by rfl) T.m_max (by decide +kernel) (pa_cons (pe_dget hu (pv 1) pe_str (fun _ _ => rfl)) (pa_cons (pe_op op_sub (pv 4) pe_int) pa_nil))) rfl)
      (pss_one (ps_ret pe_bl)))))))))), ?_⟩
    rw [st_law_settled]
    have hp := p60
    have gc := I.gc
    have cl := I.cl
    walk_at "rd"
    have t00 : 0 ≤ (if X.c + pk % 7 - 3 > 0 then X.c + pk % 7 - 3 else 0) := by
      split <;> omega
    generalize (if X.c + pk % 7 - 3 > 0 then X.c + pk % 7 - 3 else 0) = t0 at t00 ⊢
    refine ⟨fun σ' H' => ∃ t : Int, σ' = [some (.ref X.B.l), some (.ref X.st), some (.int pk), some (.bl g), some (.int t), none, none, none] ∧ H' = H ∧ 0 ≤ t, ?_, ?_⟩
    · walk_at "rd"
      cases g with
      | false => exact ⟨t0, rfl, rfl, t00⟩
      | true =>
        refine iteT ?_
        walk_at "rd"
        refine ite2 (fun _ => ?_) (fun _ => ?_)
        · walk_at "rd"
          rw [hp]
          omega
        · exact ⟨t0, rfl, rfl, t00⟩
    · rintro σ' H' ⟨t, rfl, rfl, tp⟩
      have gk := I.gk
      have hkp := I.kpt
      obtain ⟨lL, lk⟩ := I.len
      have sz := I.size
      have llr : (refsA X.L).length = X.L.length := List.length_map ..
      walk_at "rq"
      refine ⟨⟨_, SqL.of hkp⟩, fun D nD => ?_⟩
      have sD := fun o => same_upd (o := o) nD
      refine lc_list (K := K) (a := X.kp) (xs := refsA X.L) (fun i H4 => Same H' H4 ∧ H4 D = some (.lst (refsA (goneOf t (X.L.take i))))) ⟨sD _, upd_same⟩ (fun i H4 _ ⟨z, _⟩ => SqL.of (z _ _ hkp)) ?_ ?_
      · rintro i xr H4 hi ⟨s4, hD⟩
        unfold refsA at hi
        rw [List.getElem?_map] at hi
        obtain ⟨z, hz, rfl⟩ := Option.map_eq_some_iff.mp hi
        have hzS := SqT.of (K := K) (s4 _ _ (I.mv z (List.mem_of_getElem? hz)).1)
        have il := (List.getElem?_eq_some_iff.mp hz).1
        walk_at "rd"
        rw [gone_snoc hz]
        refine ite2 (fun c => ?_) (fun c => ?_)
        · have c : z.2.t < t := of_decide_eq_true c
          rw [if_pos c]
          walk_at "rd"
          refine ⟨_, hD, small1000 (by have h := List.length_filter_le (fun p : AM => decide (p.2.t < t)) (X.L.take i); rw [List.length_take] at h; unfold refsA goneOf; rw [List.length_map]; omega), same_set s4 nD, ?_⟩
          rw [upd_same]
          unfold refsA
          rw [List.map_append]
          rfl
        · have c : ¬ z.2.t < t := fun k => c (decide_eq_true k)
          rw [if_neg c, List.append_nil]
          exact ⟨s4, hD⟩
      rintro H1 ⟨s1, hD⟩
      rw [llr, List.take_length] at hD
      have I1 := I.same s1
      refine ⟨D, _, rfl, .inl (SqL.of hD), ?_⟩
      rw [show (refsA (goneOf t X.L)).length = gN t X.L from List.length_map ..]
      walk_at "nm"
      refine ⟨_, rfl, X.B.l, X.B.dx, _, rfl, I1.hand.ins, rfl, _, rfl, X.B, X.n, X.c, X.S, t, rfl, I1.hand, by omega, fun H2 d0 dk lg td fr n0 nk h2 => ?_⟩
      obtain ⟨eV, eS, eB, pS, lS, zS⟩ := settled11 I.rise I.perm (fun x hx => (I.late x hx).1) td
      rw [eV]
      have f2 : Fr3 H1 H2 := fun b o e i d => fr b o e (fun z => by
        subst z
        rw [I1.hand.ins] at e
        cases e
        exact i _ _ _ rfl) (fun z => by
        subst z
        rw [I1.hand.log.ins] at e
        cases e
        exact i _ _ _ rfl)
      have f12 : Fr3 H' H2 := (Fr3.of s1).trans f2
      have st2 : H2 X.st = some (.dK (stK X.n X.c X.S.since X.m X.kp X.bs X.hl)) := f12.dK I.stt
      have hl2 := f12.lst I.held
      have kp2 := f12.lst I.kpt
      have bs2 := f12.dK I.bst
      have kpS2 := SqL.of (K := K) kp2
      have gk2 : DGet H2 X.st (.str ("kept" : Str)) (some (.ref X.kp)) := by
        have g := DGet.k (k := Sum.inr ("kept" : Str)) st2
        rw [st_kept] at g
        exact g
      have gb2 : DGet H2 X.st (.str ("base" : Str)) (some (.ref X.bs)) := by
        have g := DGet.k (k := Sum.inr ("base" : Str)) st2
        rw [st_base] at g
        exact g
      have gL := gN_le t X.L
      walk_at "rd"
      rw [cut_take _ _ (by rw [llr]; exact gL), show (refsA X.L).take (gN t X.L) = refsA (X.L.take (gN t X.L)) from (List.map_take ..).symm]
      intro kq n_kq
      have s_kq := same_upd (o := HO.lst (refsA (X.L.take (gN t X.L)))) n_kq
      have t_kq := upd_same (H := H2) (a := kq) (o := HO.lst (refsA (X.L.take (gN t X.L))))
      generalize upd H2 kq (HO.lst (refsA (X.L.take (gN t X.L)))) = H3 at s_kq t_kq ⊢
      refine ⟨X.bs, kq, X.S.base, X.L.take (gN t X.L), rfl, s_kq _ _ bs2, t_kq, fun x hx => s_kq _ _ (f12.tup (I.mv x (List.mem_of_mem_take hx)).1), I.hand.log.fine, by rw [List.length_take]; omega, fun H4 nb s4 nnb hnb => ?_⟩
      rw [← eB] at hnb
      have s24 := s_kq.trans s4
      have st4 := s24 _ _ st2
      have hl4 := s24 _ _ hl2
      have h4 := h2.same s24
      have f4 : Fr5 X.st X.hl H' H4 := .of (f12.trans (.of s24))
      walk_at "rd"
      refine ⟨X.st, _, rfl, DPut.k (k := Sum.inr ("base" : Str)) st4 (small1000 (by rw [st_length]; decide)), ?_⟩
      rw [st_put_base]
      have st5 := upd_same (H := H4) (a := X.st) (o := HO.dK (stK X.n X.c X.S.since X.m X.kp nb X.hl))
      have f5 : Fr5 X.st X.hl H' (upd H4 X.st (HO.dK (stK X.n X.c X.S.since X.m X.kp nb X.hl))) := f4.trans .put
      have k5 : ∀ b o, H4 b = some o → b ≠ X.st → upd H4 X.st (HO.dK (stK X.n X.c X.S.since X.m X.kp nb X.hl)) b = some o := fun b o h n => (upd_ne n).trans h
      generalize upd H4 X.st (HO.dK (stK X.n X.c X.S.since X.m X.kp nb X.hl)) = H5 at st5 f5 k5 ⊢
      have kp5 := I.lst f5 I.kpt I.nk
      have kpS5 := SqL.of (K := K) kp5
      have gk5 : DGet H5 X.st (.str ("kept" : Str)) (some (.ref X.kp)) := by
        have g := DGet.k (k := Sum.inr ("kept" : Str)) st5
        rw [st_kept] at g
        exact g
      walk_at "rd"
      rw [cut_drop _ _ (by rw [llr]; exact gL), show (refsA X.L).drop (gN t X.L) = refsA (X.L.drop (gN t X.L)) from (List.map_drop ..).symm]
      intro kr n_kr
      have s_kr := same_upd (o := HO.lst (refsA (X.L.drop (gN t X.L)))) n_kr
      have t_kr := upd_same (H := H5) (a := kr) (o := HO.lst (refsA (X.L.drop (gN t X.L))))
      generalize upd H5 kr (HO.lst (refsA (X.L.drop (gN t X.L)))) = H6 at s_kr t_kr ⊢
      have st6 := s_kr _ _ st5
      have f6 := f5.trans (.of (.of s_kr))
      have hl5 : H5 X.hl = some (.lst (X.hs.map V.ref)) := k5 _ _ hl4 (ne_of hl4 st4 fun z => nomatch z)
      have nkr : kr ≠ X.hl := fun e => by rw [e, hl5] at n_kr; cases n_kr
      have hkr := t_kr
      walk_at "rd"
      refine ⟨X.st, _, rfl, DPut.k (k := Sum.inr ("kept" : Str)) st6 (small1000 (by rw [st_length]; decide)), ?_⟩
      rw [st_put_kept]
      have st7 := upd_same (H := H6) (a := X.st) (o := HO.dK (stK X.n X.c X.S.since X.m kr nb X.hl))
      have gs7 : DGet (upd H6 X.st (HO.dK (stK X.n X.c X.S.since X.m kr nb X.hl))) X.st (.str ("since" : Str)) (some (.int X.S.since)) := by
        have g := DGet.k (k := Sum.inr ("since" : Str)) st7
        rw [st_since] at g
        exact g
      walk_at "rd"
      refine ⟨X.st, _, rfl, DPut.k (k := Sum.inr ("since" : Str)) st7 (small1000 (by rw [st_length]; decide)), ?_⟩
      rw [st_put_since, upd_upd, ← eS]
      have st8 := upd_same (H := H6) (a := X.st) (o := HO.dK (stK X.n X.c (X.S.settle t lg).since X.m kr nb X.hl))
      have gc8 : DGet (upd H6 X.st (HO.dK (stK X.n X.c (X.S.settle t lg).since X.m kr nb X.hl))) X.st (.str ("clock" : Str)) (some (.int X.c)) := by
        have g := DGet.k (k := Sum.inr ("clock" : Str)) st8
        rw [st_clock] at g
        exact g
      walk_at "rd"
      refine ⟨X.st, _, rfl, DPut.k (k := Sum.inr ("clock" : Str)) st8 (small1000 (by rw [st_length]; decide)), ?_⟩
      rw [st_put_clock, upd_upd]
      have cl' : (X.S.settle t lg).since ≤ (if t - 1 > X.c then t - 1 else X.c) + 1 ∧ 0 ≤ (X.S.settle t lg).since ∧ X.c ≤ (if t - 1 > X.c then t - 1 else X.c) := by
        rw [eS]
        constructor
        · split <;> split <;> omega
        · constructor <;> split <;> omega
      generalize (if t - 1 > X.c then t - 1 else X.c) = c' at cl' h4 ⊢
      generalize X.S.settle t lg = S2 at eS eB pS lS zS h4 hnb cl' ⊢
      have st9 := upd_same (H := H6) (a := X.st) (o := HO.dK (stK X.n c' S2.since X.m kr nb X.hl))
      have f9 : Fr5 X.st X.hl H' (upd H6 X.st (HO.dK (stK X.n c' S2.since X.m kr nb X.hl))) := f6.trans .put
      have k9 : ∀ b o, H4 b = some o → b ≠ X.st → upd H6 X.st (HO.dK (stK X.n c' S2.since X.m kr nb X.hl)) b = some o := fun b o h n => (upd_ne n).trans (s_kr _ _ (k5 _ _ h n))
      have kr9 : upd H6 X.st (HO.dK (stK X.n c' S2.since X.m kr nb X.hl)) kr = some (.lst (refsA (X.L.drop (gN t X.L)))) := (upd_ne (ne_of hkr st6 fun z => nomatch z)).trans hkr
      generalize upd H6 X.st (HO.dK (stK X.n c' S2.since X.m kr nb X.hl)) = H9 at st9 f9 k9 kr9 ⊢
      have nst : ∀ {b o}, H4 b = some o → (∀ kv, o ≠ .dK kv) → H9 b = some o := fun {b o} h n => k9 _ _ h (fun e => by
        rw [e, st4] at h
        cases h
        exact n _ rfl)
      have nstT : ∀ {b} {t : List (Int × Int)}, H4 b = some (.dK (kvT t)) → H9 b = some (.dK (kvT t)) := fun {b t} h => k9 _ _ h (fun e => by
        rw [e, st4] at h
        exact kvT_not_st (HO.dK.inj (Option.some.inj h)).symm)
      have h9 : HandAt T.o_Hand T.o_Log H9 ⟨X.B.l, X.B.dx, ⟨X.B.log.l, X.B.log.dx, d0, dk⟩⟩ X.n c' S2 :=
        ⟨nst h4.ins fun _ z => (nomatch z), ⟨nst h4.log.ins fun _ z => (nomatch z), nstT h4.log.dict0, nst h4.log.dictk fun _ z => (nomatch z), fun p hp => nst (h4.log.mv p hp) fun _ z => (nomatch z), h4.log.fine, h4.log.keys⟩⟩
      walk_at "rd"
      refine q H9 { X with B := ⟨X.B.l, X.B.dx, ⟨X.B.log.l, X.B.log.dx, d0, dk⟩⟩, c := c', S := S2, kp := kr, bs := nb, L := X.L.drop (gN t X.L) } ⟨rfl, rfl, rfl, rfl, rfl, rfl⟩
        ⟨h9, st9, kr9, fun x hx => ⟨I.tup f9 (I.mv x (List.mem_of_mem_drop hx)).1, (I.mv x (List.mem_of_mem_drop hx)).2⟩, List.Pairwise.sublist (List.drop_sublist ..) I.rise, pS, fun x hx => ⟨lS x hx, ?_⟩, ?_, I.nm, I.mm, nstT hnb, Nat.le_trans zS (Nat.le_trans I.size (Nat.le_succ _)), nkr, I.nd, nst hl4 fun _ z => (nomatch z), I.lst f9 I.dps I.nd, fun b hb => I.pair f9 (I.two b hb)⟩
      · show x.2.t ≤ c'
        have := (I.late x (List.mem_of_mem_drop hx)).2
        omega
      · show 0 ≤ S2.since ∧ S2.since ≤ c' + 1 ∧ 0 ≤ c'
        omega
/-! ### _law_other -/
def hasB (L : List AM) (m : Mv) : Bool := L.any fun x => decide (x.2 = m)
theorem has_in (L : List AM) (m : Mv) : ((L.map fun x => mvD x.2).any fun z => PyData.eqv z (mvD m)) = hasB L m := by
  rw [List.any_map]
  unfold hasB
  refine congrArg (fun p => L.any p) (funext fun x => ?_)
  exact mvD_eqv _ _
theorem mem_to {l k : List AM} (p : (mvs l).Perm (mvs k)) {x : AM} (hx : x ∈ l) : ∃ y ∈ k, y.2 = x.2 :=
  List.mem_map.mp (p.mem_iff.mp (List.mem_map.mpr ⟨x, hx, rfl⟩))
theorem clash_perm {S : LogS} {L : List AM} (p : (mvs L).Perm (mvs S.kept)) (m : Mv) : clashB L m = isClash S m := by
  rw [Bool.eq_iff_iff]
  unfold clashB isClash
  constructor
  · intro h
    obtain ⟨x, hx, e⟩ := List.any_eq_true.mp h
    obtain ⟨y, hy, ey⟩ := mem_to p hx
    exact List.any_eq_true.mpr ⟨y, hy, by rw [ey]; exact e⟩
  · intro h
    obtain ⟨x, hx, e⟩ := List.any_eq_true.mp h
    obtain ⟨y, hy, ey⟩ := mem_to p.symm hx
    exact List.any_eq_true.mpr ⟨y, hy, by rw [ey]; exact e⟩
theorem has_perm {S : LogS} {L : List AM} (p : (mvs L).Perm (mvs S.kept)) {m : Mv} (h : isClash S m = false) : S.has m = hasB L m := by
  rw [Bool.eq_iff_iff]
  constructor
  · intro k
    obtain ⟨x, hx, e⟩ := List.any_eq_true.mp k
    have e := of_decide_eq_true e
    obtain ⟨y, hy, ey⟩ := mem_to p.symm hx
    refine List.any_eq_true.mpr ⟨y, hy, decide_eq_true ?_⟩
    rw [ey]
    exact Classical.byContradiction fun n => absurd (List.any_eq_true.mpr ⟨x, hx, decide_eq_true ⟨e, n⟩⟩ : isClash S m = true) (show ¬ isClash S m = true by rw [h]; exact Bool.false_ne_true)
  · intro k
    obtain ⟨x, hx, e⟩ := List.any_eq_true.mp k
    have e := of_decide_eq_true e
    obtain ⟨y, hy, ey⟩ := mem_to p hx
    exact List.any_eq_true.mpr ⟨y, hy, decide_eq_true (by rw [ey, e]; exact ⟨rfl, rfl⟩)⟩
theorem other_due {S : LogS} {L : List AM} (p : (mvs L).Perm (mvs S.kept)) {a : Addr} {m : Mv} : (if m.t < S.since then V.str "too late" else if clashB L m = true then .str "clash" else .bl (!hasB L m)) = ansV (outOf S (some (a, m))) := by
  by_cases c : m.t < S.since
  · rw [if_pos c, out_late c]
    rfl
  rw [if_neg c, clash_perm p]
  by_cases d : isClash S m = true
  · rw [if_pos d, out_clash c d]
    rfl
  rw [if_neg d]
  rw [Bool.not_eq_true] at d
  rw [← has_perm p d]
  by_cases e : S.has m = true
  · rw [out_kept c d e, e]
    rfl
  · rw [out_new c d e, show S.has m = false by rw [Bool.not_eq_true] at e; exact e]
    rfl
def sp_law_other (T : Tx K mg) : Sp := fun vs H Q _ => ∃ (X : D11) (k : Nat) (pk cell : Int), vs = [.ref X.B.l, .ref X.st, .int pk, .int cell] ∧ Inv11 T.o_Hand T.o_Log H X k ∧ k ≤ 300 ∧ 0 ≤ pk ∧
  ∀ H' Y, SameD X Y → Inv11 T.o_Hand T.o_Log H' Y (k + 1) → Q (.bl true) H'
set_option maxHeartbeats 4000000 in
theorem ok_law_other (T : Tx K mg) : FnOk P w K mg base CX0 6 T.a_law_other T.d_law_other ["_law_hand", "_law_state", "_law_pick", "_law_cell"] (sp_law_other T) := by
  refine T.F_law_other.ok sc_law_other (fun vs H Q E h => ?_) (fun cdv A outer s H vs Q E hr h => ?_)
  · obtain ⟨X, k, pk, cell, rfl, _⟩ := h
    rfl
  · obtain ⟨X, k, pk, cell, rfl, I, hk, p0, q⟩ := h
    have hu := hu_of hr
    refine ⟨_, pss_cons (ps_set (i := 4) sc_law_other.nd rfl (.inl rfl) (pe_dget hu (pv 1) pe_str (fun _ _ => rfl)))
      (pss_cons (ps_set (i := 5) sc_law_other.nd rfl (.inl rfl) (pe_callB (call_min2 rfl) (by rfl) T.m_min (by decide +kernel) (pa_cons (pe_op op_pow pe_int pe_int) (pa_cons (pe_callB (call_max2 rfl) (by rfl) T.m_max (by decide +kernel) (pa_cons pe_int (pa_cons (pe_op op_sub (pe_op op_add (pe_dget hu (pv 1) pe_str (fun _ _ => rfl)) (pe_op op_mod (pe_op op_fdiv (pv 2) pe_int) pe_int)) pe_int) pa_nil))) pa_nil))))
      (pss_cons (ps_set (i := 6) sc_law_other.nd rfl (.inl rfl) (pe_tup (pa_cons (pv 5) (pa_cons (pe_op op_add (pe_dget hu (pv 1) pe_str (fun _ _ => rfl)) (pe_op op_mod (pe_op op_fdiv (pv 2) pe_int) pe_int)) (pa_cons (pe_call (ok_law_name T) (hr.mono (by decide)) (by rfl) T.g_law_name T.F_law_name.kp T.b_law_name .nil pass0 (pa_cons (pe_op op_mod (pe_op op_fdiv (pv 2) pe_int) pe_int) (pa_cons (pv 3) pa_nil))) (pa_cons (pe_call (ok_law_name T) (hr.mono (by decide)) (by rfl) T.g_law_name T.F_law_name.kp T.b_law_name .nil pass0 (pa_cons pe_int (pa_cons (pv 3) pa_nil))) pa_nil))))))
      (C8.pss_cut (ps_if (PW.pt (pw_and (pt_cmpR op_eq (pe_op op_mod (pv 2) pe_int) pe_int (nomark _)) (pw_and1 (pt_cmpR op_gt (pe_callB call_len_seq (by rfl) T.m_len PySem.boot_len (pa_cons (pv 4) pa_nil)) pe_int (nomark _))))) (pss_one (ps_set (i := 6) sc_law_other.nd rfl (.inl rfl) (pe_ix ix_list (pv 4) (pe_op op_mod (pe_op op_fdiv (pv 2) pe_int) (pe_callB call_len_seq (by rfl) T.m_len PySem.boot_len (pa_cons (pv 4) pa_nil))) (fun _ _ => rfl)))) pss_nil)
      (pss_cons (ps_set (i := 7) sc_law_other.nd rfl (.inl rfl) (pe_cmpR (op_notInD (Nat.lt_of_succ_lt (Room.u66 hr))) (pv 6) (pv 4) (by rfl)))
      (C8.pss_cut (ps_if (pt_val (pe_call (ok_law_clash T) (hr.mono (by decide)) (by rfl) T.g_law_clash T.F_law_clash.kp T.b_law_clash .nil pass0 (pa_cons (pv 4) (pa_cons (pv 6) pa_nil)))) (pss_one (ps_set (i := 7) sc_law_other.nd rfl (.inl rfl) pe_str)) pss_nil)
      (C8.pss_cut (ps_if (pt_cmpR op_lt (pe_ix ix_tup (pv 6) pe_int (fun _ _ => rfl)) (pe_dget hu (pv 1) pe_str (fun _ _ => rfl)) (nomark _)) (pss_one (ps_set (i := 7) sc_law_other.nd rfl (.inl rfl) pe_str)) pss_nil)
      (C8.pss_cut (ps_if (pt_cmpR op_eq (pe_op op_mod (pe_op op_fdiv (pv 2) pe_int) pe_int) pe_int (nomark _)) (pss_cons (ps_set (i := 8) sc_law_other.nd rfl (.inl rfl) (pe_lst (pa_cons (pe_op op_catT (pe_tup (pa_cons (pe_op op_add (pe_op op_add (pe_op op_pow pe_int pe_int) pe_int) (pv 5)) pa_nil)) (pe_slice sl_tup (pv 6) (po_some pe_int) po_none)) (pa_cons (pe_op op_catT (pe_op op_catT (pe_tup (pa_cons (pe_op op_add (pe_dget hu (pv 1) pe_str (fun _ _ => rfl)) pe_int) pa_nil)) (pe_slice sl_tup (pv 6) (po_some pe_int) (po_some pe_int))) (pe_tup (pa_cons (pe_un un_neg pe_int) pa_nil))) (pa_cons pe_non (pa_cons (pe_lst (pa_cons (pv 5) pa_nil)) pa_nil))))))
      (pss_cons (ps_set (i := 6) sc_law_other.nd rfl (.inl rfl) (pe_ix ix_list (pv 8) (pe_op op_mod (pe_op op_fdiv (pv 2) pe_int) pe_int) (fun _ _ => rfl)))
      (pss_one (ps_set (i := 7) sc_law_other.nd rfl (.inl rfl) pe_str)))) pss_nil)
      (pss_cons (ps_if (pt_not (pt_val (pe_call (ok_law_answer T) (hr.mono (by decide)) (by rfl) T.g_law_answer T.F_law_answer.kp T.b_law_answer .nil pass0 (pa_cons (pe_call (ok_law_heard T) (hr.mono (by decide)) (by rfl) T.g_law_heard T.F_law_heard.kp T.b_law_heard .nil pass0 (pa_cons (pv 0) (pa_cons (pv 6) pa_nil))) (pa_cons (pv 7) pa_nil))))) (pss_one (ps_ret pe_bl)) pss_nil)
      (C8.pss_cut (ps_if (pt_cmpR op_isBlS (pv 7) pe_bl (nomark _)) (pss_cons (ps_dput hu (pv 1) pe_str (pe_call (ok_law_told T) (hr.mono (by decide)) (by rfl) T.g_law_told T.F_law_told.kp T.b_law_told .nil pass0 (pa_cons (pv 4) (pa_cons (pv 6) pa_nil))) rfl)
      (pss_one (ps_dput hu (pv 1) pe_str (pe_callB (call_max2 rfl) (by rfl) T.m_max (by decide +kernel) (pa_cons (pe_dget hu (pv 1) pe_str (fun _ _ => rfl)) (pa_cons (pe_ix ix_tup (pv 6) pe_int (fun _ _ => rfl)) pa_nil))) rfl))) pss_nil)
      (pss_one (ps_ret pe_bl))))))))))), ?_⟩
    rw [st_law_other]
    have hp := p60
    have gc := I.gc
    have gn := I.gn
    have gk := I.gk
    have cl := I.cl
    have nm := I.nm
    walk_at "rd"
    intro H1 s1
    rw [hp]
    have t0 : 1 ≤ (if (if X.c + pk / 147 % 7 - 3 > 1 then X.c + pk / 147 % 7 - 3 else 1) < N60 then if X.c + pk / 147 % 7 - 3 > 1 then X.c + pk / 147 % 7 - 3 else 1 else N60) ∧ (if (if X.c + pk / 147 % 7 - 3 > 1 then X.c + pk / 147 % 7 - 3 else 1) < N60 then if X.c + pk / 147 % 7 - 3 > 1 then X.c + pk / 147 % 7 - 3 else 1 else N60) ≤ N60 := by
      have h1 : 1 ≤ (if X.c + pk / 147 % 7 - 3 > 1 then X.c + pk / 147 % 7 - 3 else 1) := by split <;> omega
      generalize (if X.c + pk / 147 % 7 - 3 > 1 then X.c + pk / 147 % 7 - 3 else 1) = x at h1 ⊢
      have h2 : 1 ≤ N60 := by decide
      split <;> omega
    generalize (if (if X.c + pk / 147 % 7 - 3 > 1 then X.c + pk / 147 % 7 - 3 else 1) < N60 then if X.c + pk / 147 % 7 - 3 > 1 then X.c + pk / 147 % 7 - 3 else 1 else N60) = t at t0 ⊢
    walk_at "rd"
    intro H2 s2
    refine ⟨by show 4 ≤ sizeLine; decide, ?_⟩
    have fn1 := nameOf_pos (c := cell) (k := pk / 3 % 7) (by omega) (by omega)
    have fn2 := nameOf_le (c := cell) (k := pk / 3 % 7) (by omega) (by omega)
    have un1 := nameOf_pos (c := cell) (k := 7) (by omega) (by omega)
    have un2 := nameOf_le (c := cell) (k := 7) (by omega) (by omega)
    generalize nameOf cell (pk / 3 % 7) = fi at fn1 fn2 ⊢
    generalize nameOf cell 7 = ui at un1 un2 ⊢
    have x3 : 0 ≤ pk / 1029 % 3 ∧ pk / 1029 % 3 ≤ 2 := by omega
    generalize pk / 1029 % 3 = e3 at x3 ⊢
    intro a0 n_a0
    have s_a0 := same_upd (o := HO.tup [V.int t, V.int (X.n + e3), V.int fi, V.int ui]) n_a0
    have t_a0 := upd_same (H := H2) (a := a0) (o := HO.tup [V.int t, V.int (X.n + e3), V.int fi, V.int ui])
    generalize upd H2 a0 (HO.tup [V.int t, V.int (X.n + e3), V.int fi, V.int ui]) = H3 at s_a0 t_a0 ⊢
    have s03 := s1.trans (s2.trans s_a0)
    have I3 := I.same s03
    have im0 : IsMv ⟨t, X.n + e3, fi, ui⟩ := .of t0.1 t0.2 (by show 0 ≤ X.n + e3; omega) (by show X.n + e3 ≤ N60; omega) fn1 fn2 (by show 0 ≤ ui; omega) un2
    refine ⟨fun σ' H' => ∃ (a : Addr) (m : Mv), σ' = [some (.ref X.B.l), some (.ref X.st), some (.int pk), some (.int cell), some (.ref X.kp), some (.int t), some (.ref a), none, none] ∧ H' = H3 ∧ MvAt H3 a m ∧ IsMv m, ?_, ?_⟩
    · have kp3 := I3.kpt
      have kpS3 := SqL.of (K := K) kp3
      have llr : (refsA X.L).length = X.L.length := List.length_map ..
      walk_at "rd"
      refine ite2 (fun _ => ?_) (fun _ => ?_)
      · walk_at "rd"
        refine ⟨X.kp, _, rfl, .inl kpS3, ?_⟩
        rw [llr]
        walk_at "rd"
        refine ite2 (fun c => ?_) (fun c => ?_)
        · have c : (0 : Int) < X.L.length := of_decide_eq_true c
          walk_at "rd"
          refine ⟨X.kp, _, rfl, .inl kpS3, ?_⟩
          rw [llr]
          have j0 : 0 ≤ pk / 3 % (X.L.length : Int) := Int.emod_nonneg _ (by omega)
          have j1 : pk / 3 % (X.L.length : Int) < X.L.length := Int.emod_lt_of_pos _ c
          obtain ⟨j, ej⟩ := Int.eq_ofNat_of_zero_le j0
          rw [ej] at j1
          have hj : j < X.L.length := by omega
          have hat : atI (refsA X.L) (pk / 3 % (X.L.length : Int)) = some (.ref (X.L[j]'hj).1) := by
            rw [ej]
            refine atI_nat ?_
            unfold refsA
            rw [List.getElem?_map, List.getElem?_eq_getElem hj]
            rfl
          have zm := List.getElem_mem hj
          walk_at "rd"
          exact ⟨_, _, rfl, rfl, (I3.mv _ zm).1, (I3.mv _ zm).2⟩
        · exact ⟨a0, ⟨t, X.n + e3, fi, ui⟩, rfl, rfl, t_a0, im0⟩
      · exact ⟨a0, ⟨t, X.n + e3, fi, ui⟩, rfl, rfl, t_a0, im0⟩
    rintro σ' H4 ⟨a, m, rfl, rfl, ha, im⟩
    obtain ⟨lL, lk⟩ := I.len
    have mv4 : ∀ x ∈ X.L, MvAt H4 x.1 x.2 := fun x hx => (I3.mv x hx).1
    have kp4 := I3.kpt
    walk_at "rd"
    refine ⟨mvD m, _, ha.dp, .lst (SqL.of kp4) (refsA_dp mv4), (mvD_flat m).shaped (by decide), (mvs_flat X.L).shaped (by decide), ?_⟩
    rw [has_in]
    refine ⟨fun σ' H' => σ' = [some (.ref X.B.l), some (.ref X.st), some (.int pk), some (.int cell), some (.ref X.kp), some (.int t), some (.ref a), some (if clashB X.L m = true then .str "clash" else .bl (!hasB X.L m)), none] ∧ Same H4 H', ?_, ?_⟩
    · walk_at "rd"
      refine ⟨X.kp, a, X.L, m, rfl, kp4, mv4, ha, by omega, fun H5 s5 => ⟨_, rfl, ?_⟩⟩
      refine ite2 (fun c => ?_) (fun c => ?_)
      · rw [if_pos c]
        exact ⟨rfl, s5⟩
      · rw [if_neg c]
        exact ⟨rfl, s5⟩
    rintro σ' H5 ⟨rfl, s5⟩
    have I5 := I3.same s5
    have gs5 := I5.gs
    have ha5 : MvAt H5 a m := s5 _ _ ha
    have haS5 := SqT.of (K := K) ha5
    have at0 : atI (mvV m) 0 = some (.int m.t) := atI_nat (j := 0) rfl
    refine ⟨fun σ' H' => σ' = [some (.ref X.B.l), some (.ref X.st), some (.int pk), some (.int cell), some (.ref X.kp), some (.int t), some (.ref a), some (ansV (outOf X.S (some (a, m)))), none] ∧ H' = H5, ?_, ?_⟩
    · walk_at "rd"
      rw [← other_due I.perm]
      refine ite2 (fun c => ?_) (fun c => ?_)
      · rw [if_pos (of_decide_eq_true c)]
        exact ⟨rfl, rfl⟩
      · rw [if_neg (fun k => c (decide_eq_true k))]
        exact ⟨rfl, rfl⟩
    rintro σ' H6 ⟨rfl, rfl⟩
    have gc6 := I5.gc
    refine ⟨fun σ' H' => ∃ (v : V) (o : Option AM) (w : Option V), σ' = [some (.ref X.B.l), some (.ref X.st), some (.int pk), some (.int cell), some (.ref X.kp), some (.int t), some v, some (ansV (outOf X.S o)), w] ∧ Same H6 H' ∧ VAt H' v o, ?_, ?_⟩
    · walk_at "rd"
      refine ite2 (fun c => ?_) (fun c => ?_)
      · walk_at "rd"
        intro p1 n_p1
        have s_p1 := same_upd (o := HO.tup [V.int (10 ^ Int.toNat 60 + 1 + t)]) n_p1
        have t_p1 := upd_same (H := H6) (a := p1) (o := HO.tup [V.int (10 ^ Int.toNat 60 + 1 + t)])
        generalize upd H6 p1 (HO.tup [V.int (10 ^ Int.toNat 60 + 1 + t)]) = Ha at s_p1 t_p1 ⊢
        have haSa := SqT.of (K := K) (s_p1 _ _ ha5)
        walk_at "rd"
        refine ⟨fun h => absurd h.1 (show ¬ HT.sIx 4 0 (some 1) = 0 by decide), ?_⟩
        rw [show cutV (mvV m) (some 1) none = [V.int m.h, V.int m.f, V.int m.u] from rfl]
        intro p2 n_p2
        have s_p2 := same_upd (o := HO.tup [V.int m.h, V.int m.f, V.int m.u]) n_p2
        have t_p2 := upd_same (H := Ha) (a := p2) (o := HO.tup [V.int m.h, V.int m.f, V.int m.u])
        generalize upd Ha p2 (HO.tup [V.int m.h, V.int m.f, V.int m.u]) = Hb at s_p2 t_p2 ⊢
        have p1S := SqT.of (K := K) (s_p2 _ _ t_p1)
        have p2S := SqT.of (K := K) t_p2
        walk_at "rd"
        refine ⟨fun z => (nomatch z), (by show 1 + 3 ≤ sizeLine; decide), fun z => (nomatch z), fun _ => ?_⟩
        intro p3 n_p3
        have s_p3 := same_upd (o := HO.tup ([V.int (10 ^ Int.toNat 60 + 1 + t)] ++ [V.int m.h, V.int m.f, V.int m.u])) n_p3
        have t_p3 := upd_same (H := Hb) (a := p3) (o := HO.tup ([V.int (10 ^ Int.toNat 60 + 1 + t)] ++ [V.int m.h, V.int m.f, V.int m.u]))
        generalize upd Hb p3 (HO.tup ([V.int (10 ^ Int.toNat 60 + 1 + t)] ++ [V.int m.h, V.int m.f, V.int m.u])) = Hc at s_p3 t_p3 ⊢
        have s6c := s_p1.trans (s_p2.trans s_p3)
        have gcc := (I5.same s6c).gc
        walk_at "rd"
        intro p4 n_p4
        have s_p4 := same_upd (o := HO.tup [V.int (X.c + 9)]) n_p4
        have t_p4 := upd_same (H := Hc) (a := p4) (o := HO.tup [V.int (X.c + 9)])
        generalize upd Hc p4 (HO.tup [V.int (X.c + 9)]) = Hd at s_p4 t_p4 ⊢
        have haSd := SqT.of (K := K) (s_p4 _ _ (s6c _ _ ha5))
        walk_at "rd"
        refine ⟨fun h => absurd h.1 (show ¬ HT.sIx 4 0 (some 1) = 0 by decide), ?_⟩
        rw [show cutV (mvV m) (some 1) (some 3) = [V.int m.h, V.int m.f] from rfl]
        intro p5 n_p5
        have s_p5 := same_upd (o := HO.tup [V.int m.h, V.int m.f]) n_p5
        have t_p5 := upd_same (H := Hd) (a := p5) (o := HO.tup [V.int m.h, V.int m.f])
        generalize upd Hd p5 (HO.tup [V.int m.h, V.int m.f]) = He at s_p5 t_p5 ⊢
        have p4S := SqT.of (K := K) (s_p5 _ _ t_p4)
        have p5S := SqT.of (K := K) t_p5
        walk_at "rd"
        refine ⟨fun z => (nomatch z), (by show 1 + 2 ≤ sizeLine; decide), fun z => (nomatch z), fun _ => ?_⟩
        intro p6 n_p6
        have s_p6 := same_upd (o := HO.tup ([V.int (X.c + 9)] ++ [V.int m.h, V.int m.f])) n_p6
        have t_p6 := upd_same (H := He) (a := p6) (o := HO.tup ([V.int (X.c + 9)] ++ [V.int m.h, V.int m.f]))
        generalize upd He p6 (HO.tup ([V.int (X.c + 9)] ++ [V.int m.h, V.int m.f])) = Hf at s_p6 t_p6 ⊢
        walk_at "rd"
        intro p7 n_p7
        have s_p7 := same_upd (o := HO.tup [V.int (-1)]) n_p7
        have t_p7 := upd_same (H := Hf) (a := p7) (o := HO.tup [V.int (-1)])
        generalize upd Hf p7 (HO.tup [V.int (-1)]) = Hg at s_p7 t_p7 ⊢
        have p6S := SqT.of (K := K) (s_p7 _ _ t_p6)
        have p7S := SqT.of (K := K) t_p7
        walk_at "rd"
        refine ⟨fun z => (nomatch z), (by show 3 + 1 ≤ sizeLine; decide), fun z => (nomatch z), fun _ => ?_⟩
        intro p8 n_p8
        have s_p8 := same_upd (o := HO.tup ([V.int (X.c + 9)] ++ [V.int m.h, V.int m.f] ++ [V.int (-1)])) n_p8
        have t_p8 := upd_same (H := Hg) (a := p8) (o := HO.tup ([V.int (X.c + 9)] ++ [V.int m.h, V.int m.f] ++ [V.int (-1)]))
        generalize upd Hg p8 (HO.tup ([V.int (X.c + 9)] ++ [V.int m.h, V.int m.f] ++ [V.int (-1)])) = Hh at s_p8 t_p8 ⊢
        walk_at "rd"
        intro p9 n_p9
        have s_p9 := same_upd (o := HO.lst [V.int t]) n_p9
        have t_p9 := upd_same (H := Hh) (a := p9) (o := HO.lst [V.int t])
        generalize upd Hh p9 (HO.lst [V.int t]) = Hi at s_p9 t_p9 ⊢
        walk_at "rd"
        intro q1 n_q1
        have s_q1 := same_upd (o := HO.lst [V.ref p3, V.ref p8, V.non, V.ref p9]) n_q1
        have t_q1 := upd_same (H := Hi) (a := q1) (o := HO.lst [V.ref p3, V.ref p8, V.non, V.ref p9])
        generalize upd Hi q1 (HO.lst [V.ref p3, V.ref p8, V.non, V.ref p9]) = Hj at s_q1 t_q1 ⊢
        have q1S := SqL.of (K := K) t_q1
        have sci := s_p4.trans (s_p5.trans (s_p6.trans (s_p7.trans (s_p8.trans (s_p9.trans s_q1)))))
        have big : N60 < 10 ^ Int.toNat 60 + 1 + t := by
          rw [show (10 : Int) ^ Int.toNat 60 = N60 from hp]
          omega
        have hat : ∃ v, atI [V.ref p3, V.ref p8, V.non, V.ref p9] (pk / 18522 % 4) = some v ∧ NoMv Hj v := by
          have h : pk / 18522 % 4 = 0 ∨ pk / 18522 % 4 = 1 ∨ pk / 18522 % 4 = 2 ∨ pk / 18522 % 4 = 3 := by omega
          rcases h with h | h | h | h <;> rw [h]
          · refine ⟨_, atI_nat (j := 0) rfl, .inl ⟨p3, _, _, _, _, rfl, sci _ _ t_p3, .int _, .int _, .int _, .int _, ?_⟩⟩
            unfold moveB
            rw [show numB 1 (.int (10 ^ Int.toNat 60 + 1 + t)) = false from numB_hi big]
            rfl
          · refine ⟨_, atI_nat (j := 1) rfl, .inl ⟨p8, _, _, _, _, rfl, s_q1 _ _ (s_p9 _ _ t_p8), .int _, .int _, .int _, .int _, move_bad (.inr (numB_lo (by decide)))⟩⟩
          · exact ⟨_, atI_nat (j := 2) rfl, .inr (.inr (.inr (.inr (.inr (.inl rfl)))))⟩
          · exact ⟨_, atI_nat (j := 3) rfl, .inr (.inr (.inr (.inr (.inr (.inr (.inl ⟨_, _, rfl, s_q1 _ _ t_p9⟩))))))⟩
        obtain ⟨v, hv, nv⟩ := hat
        walk_at "rd"
        exact ⟨v, none, some (.ref q1), rfl, s6c.trans sci, nv⟩
      · exact ⟨.ref a, some (a, m), none, rfl, Same.refl _, rfl, ha5, im⟩
    rintro σ' H7 ⟨v, o, w8, rfl, s7, hv⟩
    have I7 := I5.same s7
    walk_at "rd"
    refine ⟨X.B, X.n, X.c, X.S, v, o, rfl, I7.hand, hv, by omega, fun H8 fr h8 => ?_⟩
    have f8 := FrH.fr3 I7.hand fr
    have f58 : Fr5 X.st X.hl H7 H8 := .of f8
    have st8 := f8.dK I7.stt
    have hl8 := f8.lst I7.held
    walk_at "rd"
    refine ⟨fun σ' H' => ∃ Y, SameD X Y ∧ Inv11 T.o_Hand T.o_Log H' Y (k + 1), ?_, ?_⟩
    · unfold clockOf at h8
      walk_at "rd"
      cases e : outOf X.S o with
      | noMove =>
        rw [e, got_same (by rw [e]; exact fun z => nomatch z)] at h8
        refine .inr ⟨_, rfl, _, rfl, iteF ?_⟩
        exact ⟨X, ⟨rfl, rfl, rfl, rfl, rfl, rfl⟩, (I7.fr f58 h8 st8 hl8).mono (Nat.le_succ k)⟩
      | tooLate =>
        rw [e, got_same (by rw [e]; exact fun z => nomatch z)] at h8
        refine .inr ⟨_, rfl, _, rfl, iteF ?_⟩
        exact ⟨X, ⟨rfl, rfl, rfl, rfl, rfl, rfl⟩, (I7.fr f58 h8 st8 hl8).mono (Nat.le_succ k)⟩
      | clash =>
        rw [e, got_same (by rw [e]; exact fun z => nomatch z)] at h8
        refine .inr ⟨_, rfl, _, rfl, iteF ?_⟩
        exact ⟨X, ⟨rfl, rfl, rfl, rfl, rfl, rfl⟩, (I7.fr f58 h8 st8 hl8).mono (Nat.le_succ k)⟩
      | kept =>
        cases o with
        | none => cases e
        | some z =>
          have hk8 : z.2.t ≤ X.c := by
            have h2 : outOf X.S (some z) = if z.2.t < X.S.since then .tooLate else if isClash X.S z.2 = true then .clash else if X.S.has z.2 = true then .kept else .new := rfl
            rw [e] at h2
            split at h2
            · cases h2
            split at h2
            · cases h2
            split at h2
            · rename_i hs
              obtain ⟨p, hp, hk⟩ := List.any_eq_true.mp hs
              have := (of_decide_eq_true hk).1
              have := (I.keptT p hp).2
              omega
            · cases h2
          rw [e, got_same (by rw [e]; exact fun z => nomatch z)] at h8
          have h8 : HandAt T.o_Hand T.o_Log H8 X.B X.n (if z.2.t > X.c then z.2.t else X.c) X.S := h8
          rw [if_neg (by omega)] at h8
          refine .inl ⟨false, rfl, _, rfl, iteF ?_⟩
          exact ⟨X, ⟨rfl, rfl, rfl, rfl, rfl, rfl⟩, (I7.fr f58 h8 st8 hl8).mono (Nat.le_succ k)⟩
      | new =>
        cases o with
        | none => cases e
        | some z =>
          rw [e, got_new e] at h8
          have h8 : HandAt T.o_Hand T.o_Log H8 X.B X.n (if z.2.t > X.c then z.2.t else X.c) ⟨X.S.since, X.S.base, X.S.kept ++ [z]⟩ := h8
          obtain ⟨rfl, hz7, iz⟩ := hv
          have hz8 : MvAt H8 z.1 z.2 := f8.tup hz7
          have n12 : ¬ z.2.t < X.S.since ∧ ¬ X.S.has z.2 = true := by
            have h2 : outOf X.S (some z) = if z.2.t < X.S.since then .tooLate else if isClash X.S z.2 = true then .clash else if X.S.has z.2 = true then .kept else .new := rfl
            rw [e] at h2
            split at h2
            · cases h2
            split at h2
            · cases h2
            split at h2
            · cases h2
            · rename_i h1 _ h3
              exact ⟨h1, h3⟩
          obtain ⟨n1, n2⟩ := n12
          have fresh : ∀ x ∈ X.L, ¬ SameKey x.2 z.2 := fun x hx kk => by
            obtain ⟨y, hy, ey⟩ := mem_to I.perm hx
            exact n2 (List.any_eq_true.mpr ⟨y, hy, decide_eq_true (by rw [ey]; exact kk)⟩)
          have kp8 := I7.lst f58 I7.kpt I7.nk
          have mv8 : ∀ x ∈ X.L, MvAt H8 x.1 x.2 := fun x hx => f8.tup (I7.mv x hx).1
          refine .inl ⟨true, rfl, _, rfl, iteT ?_⟩
          walk_at "rd"
          refine ⟨X.kp, z.1, X.L, z.2, rfl, kp8, mv8, hz8, by omega, fun H9 ta s9 nta hta => ?_⟩
          have st9 := s9 _ _ st8
          walk_at "rd"
          refine ⟨X.st, _, rfl, DPut.k (k := Sum.inr ("kept" : Str)) st9 (small1000 (by rw [st_length]; decide)), ?_⟩
          rw [st_put_kept]
          have st10 := upd_same (H := H9) (a := X.st) (o := HO.dK (stK X.n X.c X.S.since X.m ta X.bs X.hl))
          have gc10 : DGet (upd H9 X.st (HO.dK (stK X.n X.c X.S.since X.m ta X.bs X.hl))) X.st (.str ("clock" : Str)) (some (.int X.c)) := by
            have g := DGet.k (k := Sum.inr ("clock" : Str)) st10
            rw [st_clock] at g
            exact g
          have hz10 := SqT.of (K := K) ((upd_ne (o := HO.dK (stK X.n X.c X.S.since X.m ta X.bs X.hl)) (ne_of (s9 _ _ hz8) st9 fun z => nomatch z)).trans (s9 _ _ hz8))
          have atz : atI (mvV z.2) 0 = some (.int z.2.t) := atI_nat (j := 0) rfl
          walk_at "rd"
          refine ⟨X.st, _, rfl, DPut.k (k := Sum.inr ("clock" : Str)) st10 (small1000 (by rw [st_length]; decide)), ?_⟩
          rw [st_put_clock, upd_upd]
          have cl' : X.c ≤ (if z.2.t > X.c then z.2.t else X.c) ∧ z.2.t ≤ (if z.2.t > X.c then z.2.t else X.c) := by
            constructor <;> split <;> omega
          generalize (if z.2.t > X.c then z.2.t else X.c) = c' at cl' h8 ⊢
          have st11 := upd_same (H := H9) (a := X.st) (o := HO.dK (stK X.n c' X.S.since X.m ta X.bs X.hl))
          have f11 : Fr5 X.st X.hl H7 (upd H9 X.st (HO.dK (stK X.n c' X.S.since X.m ta X.bs X.hl))) := f58.trans ((Fr5.of (.of s9)).trans .put)
          have k11 : ∀ b o, H9 b = some o → b ≠ X.st → upd H9 X.st (HO.dK (stK X.n c' X.S.since X.m ta X.bs X.hl)) b = some o := fun b o h n => (upd_ne n).trans h
          generalize upd H9 X.st (HO.dK (stK X.n c' X.S.since X.m ta X.bs X.hl)) = H11 at st11 f11 k11 ⊢
          have h9 := h8.same s9
          have nst : ∀ {b o}, H9 b = some o → (∀ kv, o ≠ .dK kv) → H11 b = some o := fun {b o} h n => k11 _ _ h (fun e => by
            rw [e, st9] at h
            cases h
            exact n _ rfl)
          have nstT : ∀ {b} {t : List (Int × Int)}, H9 b = some (.dK (kvT t)) → H11 b = some (.dK (kvT t)) := fun {b t} h => k11 _ _ h (fun e => by
            rw [e, st9] at h
            exact kvT_not_st (HO.dK.inj (Option.some.inj h)).symm)
          have h11 : HandAt T.o_Hand T.o_Log H11 X.B X.n c' ⟨X.S.since, X.S.base, X.S.kept ++ [z]⟩ :=
            ⟨nst h9.ins fun _ z => (nomatch z), ⟨nst h9.log.ins fun _ z => (nomatch z), nstT h9.log.dict0, nst h9.log.dictk fun _ z => (nomatch z), fun p hp => nst (h9.log.mv p hp) fun _ z => (nomatch z), h9.log.fine, h9.log.keys⟩⟩
          have nth : ta ≠ X.hl := fun e => by rw [e, hl8] at nta; cases nta
          have e11 := nst hta fun _ z => (nomatch z)
          refine ⟨{ X with c := c', S := ⟨X.S.since, X.S.base, X.S.kept ++ [z]⟩, kp := ta, L := insM (fun x : AM => x.2) X.L z }, ⟨rfl, rfl, rfl, rfl, rfl, rfl⟩,
            ⟨h11, st11, e11, fun x hx => ?_, I.rise.insM fresh, ?_, fun x hx => ?_, ?_, I.nm, I.mm, I7.dkT f11 I7.bst, ?_, nth, I.nd, nst (s9 _ _ hl8) fun _ z => (nomatch z), I7.lst f11 I7.dps I7.nd, fun b hb => I7.pair f11 (I7.two b hb)⟩⟩
          · rcases List.mem_cons.mp ((insM_perm _ _ _).mem_iff.mp hx) with rfl | hx
            · exact ⟨nst (s9 _ _ hz8) fun _ z => (nomatch z), iz⟩
            · exact ⟨I7.tup f11 (I7.mv x hx).1, (I7.mv x hx).2⟩
          · refine ((insM_perm _ _ _).map (fun x : AM => x.2)).trans ?_
            show (List.Perm _ (mvs (X.S.kept ++ [z])))
            unfold mvs
            rw [List.map_append]
            exact (I.perm.cons _).trans (List.perm_append_comm (l₁ := [_]))
          · show X.S.since ≤ x.2.t ∧ x.2.t ≤ c'
            rcases List.mem_cons.mp ((insM_perm _ _ _).mem_iff.mp hx) with rfl | hx
            · omega
            · have := I.late x hx
              omega
          · show 0 ≤ X.S.since ∧ X.S.since ≤ c' + 1 ∧ 0 ≤ c'
            omega
          · show X.S.base.length + (X.S.kept ++ [z]).length ≤ k + 1
            rw [List.length_append, List.length_singleton]
            have := I.size
            omega
    · rintro σ' H' ⟨Y, sd, IY⟩
      walk_at "rd"
      exact q H' Y sd IY
/-! ### _law_as_told -/
theorem Inv11.told {CH CL : Addr} {H H' : Hp} {X : D11} {k : Nat} {b : Addr} (I : Inv11 CH CL H X k) (f : ∀ x o, H x = some o → x ≠ X.hl → H' x = some o) (hh : H' X.hl = some (.lst ((X.hs ++ [b]).map V.ref))) (p : Pair11 H' X.hl b) : Inv11 CH CL H' { X with hs := X.hs ++ [b] } k := by
  have nt : ∀ {x o}, H x = some o → (∀ xs, o ≠ .lst xs) → H' x = some o := fun {x o} h n => f _ _ h fun e => by
    rw [e, I.held] at h
    cases h
    exact n _ rfl
  have f5 : Fr5 X.st X.hl H H' := .app f
  refine ⟨⟨nt I.hand.ins fun _ z => (nomatch z), I.hand.log.lists fun x o h n => nt h n⟩, nt I.stt fun _ z => (nomatch z), f _ _ I.kpt I.nk, fun x hx => ⟨nt (I.mv x hx).1 fun _ z => (nomatch z), (I.mv x hx).2⟩, I.rise, I.perm, I.late, I.cl, I.nm, I.mm, nt I.bst fun _ z => (nomatch z), I.size, I.nk, I.nd, hh, f _ _ I.dps I.nd, fun c hc => ?_⟩
  rcases List.mem_append.mp hc with hc | hc
  · exact I.pair f5 (I.two c hc)
  · rw [List.mem_singleton.mp hc]
    exact p
theorem Inv11.app {CH CL : Addr} {H : Hp} {X : D11} {k : Nat} {b : Addr} (I : Inv11 CH CL H X k) (p : Pair11 H X.hl b) :
    Inv11 CH CL (upd H X.hl (.lst (X.hs.map V.ref ++ [V.ref b]))) { X with hs := X.hs ++ [b] } k ∧ ∀ x o, H x = some o → x ≠ X.hl → upd H X.hl (.lst (X.hs.map V.ref ++ [V.ref b])) x = some o := by
  have f : ∀ x o, H x = some o → x ≠ X.hl → upd H X.hl (.lst (X.hs.map V.ref ++ [V.ref b])) x = some o := fun b o h n => (upd_ne n).trans h
  exact ⟨I.told f (by rw [upd_same, List.map_append]; rfl) (I.pair (.app f) p), f⟩
theorem told_mvs {S : LogS} {ms L : List AM} (r2 : Rising (·.2) ms) (p2 : ms.Perm S.kept) (rise : Rising (·.2) L) (perm : (mvs L).Perm (mvs S.kept)) : mvs ms = mvs L :=
  Rising.uniq (k := id) (Rising.map (f := fun x : AM => x.2) r2) (Rising.map (f := fun x : AM => x.2) rise) ((p2.map fun x : AM => x.2).trans perm.symm)
def sp_law_as_told (T : Tx K mg) : Sp := fun vs H Q _ => ∃ (X : D11) (k : Nat), vs = [.ref X.B.l, .ref X.st] ∧ Inv11 T.o_Hand T.o_Log H X k ∧ k ≤ 300 ∧ X.hs.length ≤ 300 ∧
  ∀ H' bs, bs.length = 4 → (∀ x o, H x = some o → x ≠ X.hl → H' x = some o) → Inv11 T.o_Hand T.o_Log H' { X with hs := X.hs ++ bs } k → Q (.bl true) H'
local macro_rules | `(tactic| walk_at "rd1") => `(tactic| first
  | refine ⟨_, _, _, _, _, rfl, by assumption, Tx.cl_Hand _, Tx.n_Hand_number _, hf_number .., ?_⟩
  | refine ⟨_, _, _, _, _, rfl, by assumption, Tx.cl_Hand _, Tx.n_Hand_clock _, hf_clock .., ?_⟩
  | refine ⟨_, _, _, _, _, rfl, by assumption, Tx.cl_Hand _, Tx.n_Hand_log _, hf_log .., ?_⟩)
set_option maxHeartbeats 4000000 in
theorem ok_law_as_told (T : Tx K mg) : FnOk P w K mg base CX0 5 T.a_law_as_told T.d_law_as_told ["_law_hand", "_law_state"] (sp_law_as_told T) := by
  refine T.F_law_as_told.ok sc_law_as_told (fun vs H Q E h => ?_) (fun cdv A outer s H vs Q E hr h => ?_)
  · obtain ⟨X, k, rfl, _⟩ := h
    rfl
  · obtain ⟨X, k, rfl, I, hk, hhs, q⟩ := h
    have hu := hu_of hr
    refine ⟨_, pss_cons (ps_if (PW.pt (pw_or (pt_not (pt_val (pe_call (ok_law_whole T) (hr.mono (by decide)) (by rfl) T.g_law_whole T.F_law_whole.kp T.b_law_whole .nil pass0 (pa_cons (pe_fld (pv 0) rfl) pa_nil)))) (pw_or1 (pt_cmpR op_ne (pe_fld (pv 0) rfl) (pe_dget hu (pv 1) pe_str (fun _ _ => rfl)) (nomark _))))) (pss_one (ps_ret pe_bl)) pss_nil)
      (pss_cons (ps_if (PW.pt (pw_or (pt_not (pt_val (pe_call (ok_law_whole T) (hr.mono (by decide)) (by rfl) T.g_law_whole T.F_law_whole.kp T.b_law_whole .nil pass0 (pa_cons (pe_fld (pv 0) rfl) pa_nil)))) (pw_or1 (pt_cmpR op_ne (pe_fld (pv 0) rfl) (pe_dget hu (pv 1) pe_str (fun _ _ => rfl)) (nomark _))))) (pss_one (ps_ret pe_bl)) pss_nil)
      (pss_cons (ps_set (i := 2) sc_law_as_told.nd rfl (.inl rfl) (pe_call (ok_law_fold T) (hr.mono (by decide)) (by rfl) T.g_law_fold T.F_law_fold.kp T.b_law_fold .nil pass0 (pa_cons (pe_dget hu (pv 1) pe_str (fun _ _ => rfl)) (pa_cons (pe_dget hu (pv 1) pe_str (fun _ _ => rfl)) pa_nil))))
      (pss_cons (ps_set (i := 3) sc_law_as_told.nd rfl (.inl rfl) (pe_lst (pa_cons (pe_meth0 (pv 0) T.cl_Hand T.mt_Hand_tree (ok_Hand_tree T) (hr.mono (by decide)) T.b_Hand_tree .nil pass0) (pa_cons (pe_meth0 (pe_fld (pv 0) rfl) T.cl_Log T.mt_Log_tree (ok_Log_tree T) (hr.mono (by decide)) T.b_Log_tree .nil pass0) pa_nil))))
      (pss_cons (ps_if (PW.pt (pw_or (pt_not (pt_val (pe_call (ok_law_same_tree T) (hr.mono (by decide)) (by rfl) T.g_law_same_tree T.F_law_same_tree.kp T.b_law_same_tree .nil pass0 (pa_cons (pe_ix ix_list (pv 3) pe_int (fun _ _ => rfl)) (pa_cons (pv 2) pa_nil))))) (pw_or1 (pt_not (pt_val (pe_call (ok_law_same_tree T) (hr.mono (by decide)) (by rfl) T.g_law_same_tree T.F_law_same_tree.kp T.b_law_same_tree .nil pass0 (pa_cons (pe_ix ix_list (pv 3) pe_int (fun _ _ => rfl)) (pa_cons (pv 2) pa_nil)))))))) (pss_one (ps_ret pe_bl)) pss_nil)
      (pss_cons (ps_if (pt_not (pt_val (pe_call (ok_law_steps_asked T) (hr.mono (by decide)) (by rfl) T.g_law_steps_asked T.F_law_steps_asked.kp T.b_law_steps_asked .nil pass0 (pa_cons (pe_fld (pv 0) rfl) (pa_cons (pe_dget hu (pv 1) pe_str (fun _ _ => rfl)) (pa_cons (pe_dget hu (pv 1) pe_str (fun _ _ => rfl)) (pa_cons (pe_dget hu (pv 1) pe_str (fun _ _ => rfl)) pa_nil))))))) (pss_one (ps_ret pe_bl)) pss_nil)
      (pss_cons (ps_set (i := 4) sc_law_as_told.nd rfl (.inl rfl) (pe_meth0 (pe_fld (pv 0) rfl) T.cl_Log T.mt_Log_moves (ok_Log_moves T) (hr.mono (by decide)) T.b_Log_moves .nil pass0))
      (pss_cons (ps_expr (pe_bm PySem.F.plainAttrs_list PySem.F.slot_list_append PySem.F.type_list_append mt_append (pe_dget hu (pv 1) pe_str (fun _ _ => rfl)) (pa_cons (pe_tup (pa_cons (pe_ix ix_list (pv 3) pe_int (fun _ _ => rfl)) (pa_cons (pv 2) pa_nil))) pa_nil)))
      (pss_cons (ps_expr (pe_bm PySem.F.plainAttrs_list PySem.F.slot_list_append PySem.F.type_list_append mt_append (pe_dget hu (pv 1) pe_str (fun _ _ => rfl)) (pa_cons (pe_tup (pa_cons (pe_ix ix_list (pv 3) pe_int (fun _ _ => rfl)) (pa_cons (pv 2) pa_nil))) pa_nil)))
      (pss_cons (ps_expr (pe_bm PySem.F.plainAttrs_list PySem.F.slot_list_append PySem.F.type_list_append mt_append (pe_dget hu (pv 1) pe_str (fun _ _ => rfl)) (pa_cons (pe_tup (pa_cons (pv 4) (pa_cons (pe_callTy call_list_of (by rfl) T.m_list (by decide +kernel) (pa_cons (pe_dget hu (pv 1) pe_str (fun _ _ => rfl)) pa_nil)) pa_nil))) pa_nil)))
      (pss_one (ps_ret (pe_call (ok_law_same_moves T) (hr.mono (by decide)) (by rfl) T.g_law_same_moves T.F_law_same_moves.kp T.b_law_same_moves .nil pass0 (pa_cons (pv 4) (pa_cons (pe_dget hu (pv 1) pe_str (fun _ _ => rfl)) pa_nil)))))))))))))), ?_⟩
    rw [st_law_as_told]
    obtain ⟨lL, lk⟩ := I.len
    have sz := I.size
    have gc := I.gc
    have gn := I.gn
    have gk := I.gk
    have gb := I.gb
    have hi := I.hand.ins
    walk_at "rd"
    refine ⟨X.bs, X.kp, X.S.base, X.L, rfl, I.bst, I.kpt, fun x hx => (I.mv x hx).1, I.hand.log.fine, by omega, fun H1 dt s1 ndt hdt => ?_⟩
    have I1 := I.same s1
    walk_at "rd"
    refine ⟨X.B.l, X.B.dx, _, rfl, I1.hand.ins, rfl, X.B, X.n, X.c, X.S, rfl, I1.hand, by omega, fun H2 ta ms2 s2 nta hta td2 => ?_⟩
    rw [told_mvs td2.2 td2.1 I.rise I.perm] at hta
    have I2 := I1.same s2
    have hi2 := I2.hand.ins
    walk_at "rd"
    refine ⟨X.B.log.l, X.B.log.dx, _, rfl, I2.hand.log.ins, rfl, X.B.log, X.S, rfl, I2.hand.log, by omega, fun H3 tb ms3 s3 ntb htb td3 => ?_⟩
    rw [told_mvs td3.2 td3.1 I.rise I.perm] at htb
    walk_at "rd"
    intro tl n_tl
    have s_tl := same_upd (o := HO.lst [V.ref ta, V.ref tb]) n_tl
    have t_tl := upd_same (H := H3) (a := tl) (o := HO.lst [V.ref ta, V.ref tb])
    generalize upd H3 tl (HO.lst [V.ref ta, V.ref tb]) = H4 at s_tl t_tl ⊢
    have tlS := SqL.of (K := K) t_tl
    have hdt4 := s_tl _ _ (s3 _ _ (s2 _ _ hdt))
    have hta4 := s_tl _ _ (s3 _ _ hta)
    have htb4 := s_tl _ _ htb
    have at0 : atI [V.ref ta, V.ref tb] 0 = some (.ref ta) := atI_nat (j := 0) rfl
    have at1 : atI [V.ref ta, V.ref tb] 1 = some (.ref tb) := atI_nat (j := 1) rfl
    have FT : Fine (foldT X.S.base (mvs X.L)) := I.hand.log.fine.fold
    have nad : ta ≠ dt := fun e => by rw [e, hdt] at nta; cases nta
    have nbd : tb ≠ dt := fun e => by rw [e, s2 _ _ hdt] at ntb; cases ntb
    have I4 := I2.same (s3.trans s_tl)
    generalize foldT X.S.base (mvs X.L) = tr at hdt4 hta4 htb4 FT
    walk_at "rd"
    refine ⟨ta, dt, tr, tr, rfl, hta4, hdt4, nad, rfl, FT.nd, fun p hp => mem_look FT.nd hp, ?_⟩
    walk_at "rd"
    refine ⟨tb, dt, tr, tr, rfl, htb4, hdt4, nbd, rfl, FT.nd, fun p hp => mem_look FT.nd hp, ?_⟩
    have hi4 := I4.hand.ins
    have gb4 := I4.gb
    have gk4 := I4.gk
    have gh4 := I4.gh
    walk_at "rd"
    refine ⟨X.B.log, X.S, X.bs, X.kp, X.hl, X.L, X.hs, rfl, I4.hand.log, I4.bst, I4.kpt, fun x hx => (I4.mv x hx).1, I.rise, I.perm, by omega, I4.held, by omega, fun H5 b1 f5 hh5 p1 => ?_⟩
    have I5 := I4.told f5 hh5 (.inl p1)
    have hi5 := I5.hand.ins
    walk_at "rd"
    refine ⟨X.B.log.l, X.B.log.dx, _, rfl, I5.hand.log.ins, rfl, X.B.log, X.S, rfl, I5.hand.log, by show X.S.kept.length ≤ 1000; omega, fun H6 fo ms6 s6 nfo hfo pm6 rs6 => ?_⟩
    have em6 := told_mvs rs6 pm6 I.rise I.perm
    have I6 := I5.same s6
    have ntl : tl ≠ X.hl := fun e => by rw [e, I2.same s3 |>.held] at n_tl; cases n_tl
    have tl6 := s6 _ _ (f5 _ _ t_tl ntl)
    have k46 : ∀ {b} {t : List (Int × Int)}, H4 b = some (.dK (kvT t)) → H6 b = some (.dK (kvT t)) := fun {b t} h => s6 _ _ (f5 _ _ h (ne_of h I4.held fun z => nomatch z))
    have hdt6 := k46 hdt4
    have hta6 := k46 hta4
    have htb6 := k46 htb4
    have tlS6 := SqL.of (K := K) tl6
    have gh6 := I6.gh
    walk_at "rd"
    refine ⟨.inl ⟨rfl, _, SqL.of I6.held⟩, ?_⟩
    walk_at "rd"
    intro pa n_pa
    have s_pa := same_upd (o := HO.tup [V.ref ta, V.ref dt]) n_pa
    have t_pa := upd_same (H := H6) (a := pa) (o := HO.tup [V.ref ta, V.ref dt])
    generalize upd H6 pa (HO.tup [V.ref ta, V.ref dt]) = H7 at s_pa t_pa ⊢
    have I7 := I6.same s_pa
    walk_at "rd"
    refine ⟨X.hl, _, _, rfl, rfl, I7.held, small1000 (by rw [List.length_map]; show (X.hs ++ [b1]).length ≤ 1000; rw [List.length_append]; show X.hs.length + 1 ≤ 1000; omega), ?_⟩
    obtain ⟨I8, k8⟩ := I7.app (b := pa) (.inr (.inl ⟨ta, dt, tr, t_pa, s_pa _ _ hta6, s_pa _ _ hdt6, FT.nd⟩))
    generalize upd H7 X.hl _ = H8 at I8 k8 ⊢
    have nh : ∀ {b : Addr} {t : List (Int × Int)}, H7 b = some (.dK (kvT t)) → H8 b = some (.dK (kvT t)) := fun {b t} h => k8 _ _ h (ne_of h I7.held fun z => nomatch z)
    have tl8 := k8 _ _ (s_pa _ _ tl6) ntl
    have tlS8 := SqL.of (K := K) tl8
    have htb8 := nh (s_pa _ _ htb6)
    have hdt8 := nh (s_pa _ _ hdt6)
    have gh8 := I8.gh
    walk_at "rd"
    refine ⟨.inl ⟨rfl, _, SqL.of I8.held⟩, ?_⟩
    walk_at "rd"
    intro pb n_pb
    have s_pb := same_upd (o := HO.tup [V.ref tb, V.ref dt]) n_pb
    have t_pb := upd_same (H := H8) (a := pb) (o := HO.tup [V.ref tb, V.ref dt])
    generalize upd H8 pb (HO.tup [V.ref tb, V.ref dt]) = H9 at s_pb t_pb ⊢
    have I9 := I8.same s_pb
    walk_at "rd"
    refine ⟨X.hl, _, _, rfl, rfl, I9.held, small1000 (by rw [List.length_map]; show (X.hs ++ [b1] ++ [pa]).length ≤ 1000; rw [List.length_append, List.length_append]; show X.hs.length + 1 + 1 ≤ 1000; omega), ?_⟩
    obtain ⟨I10, k10⟩ := I9.app (b := pb) (.inr (.inl ⟨tb, dt, tr, t_pb, s_pb _ _ htb8, s_pb _ _ hdt8, FT.nd⟩))
    generalize upd H9 X.hl _ = H10 at I10 k10 ⊢
    have nfh : fo ≠ X.hl := fun e => by rw [e, I5.held] at nfo; cases nfo
    have fo10 := k10 _ _ (s_pb _ _ (k8 _ _ (s_pa _ _ hfo) nfh)) nfh
    have gh10 := I10.gh
    have gk10 := I10.gk
    have kp10 := I10.kpt
    walk_at "rd"
    refine ⟨.inl ⟨rfl, _, SqL.of I10.held⟩, ?_⟩
    walk_at "rd"
    refine ⟨X.kp, _, rfl, .inl (SqL.of kp10), ?_⟩
    intro cp n_cp
    have s_cp := same_upd (o := HO.lst (refsA X.L)) n_cp
    have t_cp := upd_same (H := H10) (a := cp) (o := HO.lst (refsA X.L))
    generalize upd H10 cp (HO.lst (refsA X.L)) = H11 at s_cp t_cp ⊢
    walk_at "rd"
    intro pc n_pc
    have s_pc := same_upd (o := HO.tup [V.ref fo, V.ref cp]) n_pc
    have t_pc := upd_same (H := H11) (a := pc) (o := HO.tup [V.ref fo, V.ref cp])
    generalize upd H11 pc (HO.tup [V.ref fo, V.ref cp]) = H12 at s_pc t_pc ⊢
    have s12 := s_cp.trans s_pc
    have I12 := I10.same s12
    walk_at "rd"
    refine ⟨X.hl, _, _, rfl, rfl, I12.held, small1000 (by rw [List.length_map]; show (X.hs ++ [b1] ++ [pa] ++ [pb]).length ≤ 1000; rw [List.length_append, List.length_append, List.length_append]; show X.hs.length + 1 + 1 + 1 ≤ 1000; omega), ?_⟩
    have ncp : cp ≠ X.hl := fun e => by rw [e, I10.held] at n_cp; cases n_cp
    have fo12 := s12 _ _ fo10
    have cp12 := s_pc _ _ t_cp
    obtain ⟨I13, k13⟩ := I12.app (b := pc) (.inr (.inr ⟨fo, cp, ms6, X.L, t_pc, fo12, cp12, fun x hx => I12.hand.log.mv x (pm6.mem_iff.mp hx), fun x hx => (I12.mv x hx).1, em6, nfh, ncp⟩))
    generalize upd H12 X.hl _ = H13 at I13 k13 ⊢
    have I13 : Inv11 T.o_Hand T.o_Log H13 { X with hs := X.hs ++ [b1] ++ [pa] ++ [pb] ++ [pc] } k := I13
    rw [show X.hs ++ [b1] ++ [pa] ++ [pb] ++ [pc] = X.hs ++ [b1, pa, pb, pc] by simp only [List.append_assoc, List.cons_append, List.nil_append]] at I13
    have gk13 := I13.gk
    have lm6 := pm6.length_eq
    walk_at "rd"
    refine ⟨fo, X.kp, ms6, X.L, rfl, k13 _ _ fo12 nfh, I13.kpt, fun x hx => I13.hand.log.mv x (pm6.mem_iff.mp hx), fun x hx => (I13.mv x hx).1, em6, by omega, ?_⟩
    exact q H13 [b1, pa, pb, pc] rfl (fun x o h n => k13 _ _ (s12 _ _ (k10 _ _ (s_pb _ _ (k8 _ _ (s_pa _ _ (s6 _ _ (f5 _ _ (s_tl _ _ (s3 _ _ (s2 _ _ (s1 _ _ h)))) n))) n)) n)) n) I13
/-! ### the law -/
theorem sql_keep {K : PySem.W.Frag} {H H' : Hp} {a : Addr} {xs : List V} (h : SqL K H a xs) (k : ∀ o, H a = some o → H' a = some o) : SqL K H' a xs := by
  rcases h with (h | ⟨o, h⟩) | h
  · exact .inl (.inl (k _ h))
  · exact .inl (.inr ⟨o, k _ h⟩)
  · exact .inr h
theorem PairS.data {K : PySem.W.Frag} {H : Hp} {hl b : Addr} (p : PairS H hl b) : ∃ a1 a2 d, H b = some (.tup [.ref a1, .ref a2]) ∧ Dp K H (.ref a1) (.list d) ∧ Dp K H (.ref a2) (.list d) ∧ Flat 4 (.list d) := by
  obtain ⟨a1, a2, rows, rows2, h1, h2, h3, h4, h5, h6, _⟩ := p
  refine ⟨a1, a2, rows.map rowD ++ [.none], h1, .lst (SqL.of h2) (rowsD_dp (.cons .non .nil) h4), .lst (SqL.of h3) ?_, rowsD_flat rows⟩
  rw [h6]
  exact rowsD_dp (.cons .non .nil) h5
theorem PairM.data {K : PySem.W.Frag} {H : Hp} {hl b : Addr} (p : PairM H hl b) : ∃ a1 a2 d, H b = some (.tup [.ref a1, .ref a2]) ∧ Dp K H (.ref a1) (.list d) ∧ Dp K H (.ref a2) (.list d) ∧ Flat 4 (.list d) := by
  obtain ⟨a1, a2, ms, ns, h1, h2, h3, h4, h5, h6, _⟩ := p
  have e : ∀ l : List AM, (l.map fun x => mvD x.2) = (mvs l).map mvD := fun l => by unfold mvs; rw [List.map_map]; rfl
  refine ⟨a1, a2, (mvs ms).map mvD, h1, ?_, ?_, ?_⟩
  · rw [← e]
    exact .lst (SqL.of h2) (refsA_dp h4)
  · rw [h6, ← e]
    exact .lst (SqL.of h3) (refsA_dp h5)
  · exact ⟨(mvsD_flat _).1, Nat.le_trans (mvsD_flat (mvs ms)).2 (by decide)⟩
def sp_law (K : PySem.W.Frag) : Sp := fun vs H Q _ => ∃ (a : Addr) (ns : List Int), vs = [.ref a] ∧ SqL K H a (ns.map V.int) ∧ ns.length ≤ 63 ∧ ∀ H', Q (.bl true) H'
local macro_rules | `(tactic| walk_at "rd1") => `(tactic| first
  | refine ⟨_, _, _, _, _, rfl, by assumption, Tx.cl_Hand _, Tx.n_Hand_number _, hf_number .., ?_⟩)
set_option maxHeartbeats 8000000 in
theorem ok_law (T : Tx K mg) : FnOk P w K mg base CX0 7 T.a_law T.d_law ["_law_script"] (sp_law K) := by
  refine T.F_law.ok sc_law (fun vs H Q E h => ?_) (fun cdv A outer s H vs Q E hr h => ?_)
  · obtain ⟨a, ns, rfl, _⟩ := h
    rfl
  · obtain ⟨a, ns, rfl, hS, hl, q⟩ := h
    have hu := hu_of hr
    refine ⟨_, pss_cons (ps_set (i := 1) sc_law.nd rfl (.inl rfl) (pe_call (ok_law_cell_at T) (hr.mono (by decide)) (by rfl) T.g_law_cell_at T.F_law_cell_at.kp T.b_law_cell_at .nil pass0 (pa_cons (pv 0) (pa_cons pe_int pa_nil))))
      (pss_cons (ps_set (i := 2) sc_law.nd rfl (.inl rfl) (pe_op op_mul (pe_op op_mod (pe_call (ok_law_cell_at T) (hr.mono (by decide)) (by rfl) T.g_law_cell_at T.F_law_cell_at.kp T.b_law_cell_at .nil pass0 (pa_cons (pv 0) (pa_cons pe_int pa_nil))) pe_int) (pe_op op_mod (pe_op op_fdiv (pe_call (ok_law_cell_at T) (hr.mono (by decide)) (by rfl) T.g_law_cell_at T.F_law_cell_at.kp T.b_law_cell_at .nil pass0 (pa_cons (pv 0) (pa_cons pe_int pa_nil))) pe_int) (pe_op op_pow pe_int pe_int))))
      (pss_cons (ps_set (i := 3) sc_law.nd rfl (.inl rfl) (pe_disp (pps_cons pe_str (pv 2) (pps_cons pe_str pe_int (pps_cons pe_str pe_int (pps_cons pe_str (pe_op op_add pe_int (pe_op op_mod (pe_op op_fdiv (pv 1) pe_int) pe_int)) (pps_cons pe_str (pe_lst pa_nil) pps_nil))))) (by rfl) (by rfl) (fun z => by cases z) (by decide)))
      (pss_cons (ps_dput hu (pv 3) pe_str pe_dnewK rfl)
      (pss_cons (ps_dput hu (pv 3) pe_str (pe_lst pa_nil) rfl)
      (pss_cons (ps_set (i := 4) sc_law.nd rfl (.inl rfl) (pe_make T.mk_Hand (ok_Hand_init_g T) (hr.mono (by decide)) (by rfl) T.go_Hand T.b_Hand_init .nil pass0 (pa_cons (pv 2) pa_nil)))
      (pss_cons (ps_if (pt_not (pt_val (pe_call (ok_law_as_told T) (hr.mono (by decide)) (by rfl) T.g_law_as_told T.F_law_as_told.kp T.b_law_as_told .nil pass0 (pa_cons (pv 4) (pa_cons (pv 3) pa_nil))))) (pss_one (ps_ret pe_bl)) pss_nil)
      (pss_cons (ps_for PassesOwn.never rfl (pi_list (pe_call (ok_law_deeds T) (hr.mono (by decide)) (by rfl) T.g_law_deeds T.F_law_deeds.kp T.b_law_deeds .nil pass0 (pa_cons (pv 0) (pa_cons pe_int (pa_cons pe_int pa_nil))))) (pg_name (i := 5) sc_law.nd rfl (Or.inl rfl)) (C8.pss_cut (ps_if (pt_cmpR op_lt (pe_op op_mod (pv 5) pe_int) pe_int (nomark _)) (pss_one (ps_set (i := 6) sc_law.nd rfl (.inl rfl) (pe_call (ok_law_own T) (hr.mono (by decide)) (by rfl) T.g_law_own T.F_law_own.kp T.b_law_own .nil pass0 (pa_cons (pv 4) (pa_cons (pv 3) (pa_cons (pe_op op_fdiv (pv 5) pe_int) (pa_cons (pv 1) pa_nil))))))) (pss_one (ps_if (pt_cmpR op_lt (pe_op op_mod (pv 5) pe_int) pe_int (nomark _)) (pss_one (ps_set (i := 6) sc_law.nd rfl (.inl rfl) (pe_call (ok_law_other T) (hr.mono (by decide)) (by rfl) T.g_law_other T.F_law_other.kp T.b_law_other .nil pass0 (pa_cons (pv 4) (pa_cons (pv 3) (pa_cons (pe_op op_fdiv (pv 5) pe_int) (pa_cons (pv 1) pa_nil))))))) (pss_one (ps_set (i := 6) sc_law.nd rfl (.inl rfl) (pe_call (ok_law_settled T) (hr.mono (by decide)) (by rfl) T.g_law_settled T.F_law_settled.kp T.b_law_settled .nil pass0 (pa_cons (pv 4) (pa_cons (pv 3) (pa_cons (pe_op op_fdiv (pv 5) pe_int) (pa_cons (pe_cmpR op_eq (pe_op op_mod (pe_op op_fdiv (pv 1) pe_int) pe_int) pe_int (nomark _)) pa_nil))))))))))
      (pss_one (ps_if (PW.pt (pw_or (pt_not (pt_val (pv 6))) (pw_or1 (pt_not (pt_val (pe_call (ok_law_as_told T) (hr.mono (by decide)) (by rfl) T.g_law_as_told T.F_law_as_told.kp T.b_law_as_told .nil pass0 (pa_cons (pv 4) (pa_cons (pv 3) pa_nil)))))))) (pss_one (ps_ret pe_bl)) pss_nil))))
      (pss_cons (ps_for PassesOwn.never rfl (pi_list (pe_dget hu (pv 3) pe_str (fun _ _ => rfl))) (pg_name (i := 7) sc_law.nd rfl (Or.inl rfl)) (pss_one (ps_if (pt_cmpR (op_neAny (Room.u66 hr)) (pe_ix ix_tup (pv 7) pe_int (fun _ _ => rfl)) (pe_ix ix_tup (pv 7) pe_int (fun _ _ => rfl)) (nomark _)) (pss_one (ps_ret pe_bl)) pss_nil)))
      (pss_one (ps_ret (pe_and (pe_call (ok_law_no_hand T) (hr.mono (by decide)) (by rfl) T.g_law_no_hand T.F_law_no_hand.kp T.b_law_no_hand .nil pass0 (pa_cons (pv 1) pa_nil)) (pe_one (pe_cmpR op_eq (pe_fld (pe_make T.mk_Hand (ok_Hand_init_g T) (hr.mono (by decide)) (by rfl) T.go_Hand T.b_Hand_init .nil pass0 (pa_cons (pe_op op_pow pe_int pe_int) pa_nil)) rfl) (pe_op op_pow pe_int pe_int) (nomark _)))))))))))))), ?_⟩
    rw [st_law]
    refine ⟨_, rfl, a, ns, 0, rfl, hS, by decide, ?_⟩
    generalize cellOf ns (Int.toNat 0) = c
    refine ⟨_, rfl, a, ns, 1, rfl, hS, by decide, ?_⟩
    generalize cellOf ns (Int.toNat 1) = c2
    walk_at "rd"
    generalize cellOf ns (Int.toNat 1) = c3
    have hp := p59
    rw [hp]
    have nb : 0 ≤ c2 % 3 * (c3 / 3 % 100000000000000000000000000000000000000000000000000000000000) ∧ c2 % 3 * (c3 / 3 % 100000000000000000000000000000000000000000000000000000000000) + 2 ≤ N60 := by
      have h : c2 % 3 = 0 ∨ c2 % 3 = 1 ∨ c2 % 3 = 2 := by omega
      rcases h with h | h | h <;> rw [h]
      · exact ⟨by omega, by rw [Int.zero_mul]; decide⟩
      · constructor
        · omega
        · show _ ≤ (1000000000000000000000000000000000000000000000000000000000000 : Int)
          omega
      · constructor
        · omega
        · show _ ≤ (1000000000000000000000000000000000000000000000000000000000000 : Int)
          omega
    generalize c2 % 3 * (c3 / 3 % 100000000000000000000000000000000000000000000000000000000000) = n at nb ⊢
    intro st nst
    walk_at "rd"
    intro kp0 nkp0
    have nks : st ≠ kp0 := fun e => by rw [← e, upd_same] at nkp0; cases nkp0
    refine ⟨(upd_ne nks).trans upd_same, [(Sum.inr ("number" : Str), .int n), (Sum.inr ("clock" : Str), .int 0), (Sum.inr ("since" : Str), .int 0), (Sum.inr ("many" : Str), .int (1 + c / 4 % 7)), (Sum.inr ("kept" : Str), .ref kp0)], rfl, (by show 5 ≤ 15; decide), ?_⟩
    have sA := (same_upd (o := HO.dK []) nst).trans (same_upd (o := HO.lst []) nkp0)
    have kpA : upd (upd H st (HO.dK [])) kp0 (HO.lst []) kp0 = some (.lst []) := upd_same
    generalize upd (upd H st (HO.dK [])) kp0 (HO.lst []) = HA at sA kpA ⊢
    generalize eK0 : mergeK [] [(Sum.inr ("number" : Str), V.int n), (Sum.inr ("clock" : Str), .int 0), (Sum.inr ("since" : Str), .int 0), (Sum.inr ("many" : Str), .int (1 + c / 4 % 7)), (Sum.inr ("kept" : Str), .ref kp0)] = K0
    have sB := same_set (o := HO.dK K0) sA nst
    have kpB := (upd_ne (o := HO.dK K0) nks.symm).trans kpA
    have stB := upd_same (H := HA) (a := st) (o := HO.dK K0)
    generalize upd HA st (HO.dK K0) = HB at sB kpB stB ⊢
    intro bs nbs
    have sC := sB.trans (same_upd (o := HO.dK []) nbs)
    have bsC := upd_same (H := HB) (a := bs) (o := HO.dK [])
    have stC := same_upd (o := HO.dK []) nbs _ _ stB
    have kpC := same_upd (o := HO.dK []) nbs _ _ kpB
    have nbst : bs ≠ st := fun e => by rw [e, stB] at nbs; cases nbs
    generalize upd HB bs (HO.dK []) = HC at sC bsC stC kpC ⊢
    walk_at "rd"
    refine ⟨st, _, rfl, DPut.k (k := Sum.inr ("base" : Str)) stC (small1000 (by rw [← eK0]; show 5 ≤ 1000; decide)), ?_⟩
    have sD := same_set (o := HO.dK (putK K0 (Sum.inr ("base" : Str)) (.ref bs))) sC nst
    have bsD := (upd_ne (o := HO.dK (putK K0 (Sum.inr ("base" : Str)) (.ref bs))) nbst).trans bsC
    have kpD := (upd_ne (o := HO.dK (putK K0 (Sum.inr ("base" : Str)) (.ref bs))) nks.symm).trans kpC
    have stD := upd_same (H := HC) (a := st) (o := HO.dK (putK K0 (Sum.inr ("base" : Str)) (.ref bs)))
    generalize upd HC st (HO.dK (putK K0 (Sum.inr ("base" : Str)) (.ref bs))) = HD at sD bsD kpD stD ⊢
    walk_at "rd"
    intro hl0 n_hl0
    have s_hl0 := same_upd (o := HO.lst []) n_hl0
    have t_hl0 := upd_same (H := HD) (a := hl0) (o := HO.lst [])
    generalize upd HD hl0 (HO.lst []) = HE at s_hl0 t_hl0 ⊢
    have stE := s_hl0 _ _ stD
    have nhst : hl0 ≠ st := fun e => by rw [e, stD] at n_hl0; cases n_hl0
    have nhkp : kp0 ≠ hl0 := fun e => by rw [← e, kpD] at n_hl0; cases n_hl0
    walk_at "rd"
    refine ⟨st, _, rfl, DPut.k (k := Sum.inr ("held" : Str)) stE (small1000 (by rw [← eK0]; show 6 ≤ 1000; decide)), ?_⟩
    have e2 : putK (putK K0 (Sum.inr ("base" : Str)) (.ref bs)) (Sum.inr ("held" : Str)) (.ref hl0) = stK n 0 0 (1 + c / 4 % 7) kp0 bs hl0 := by rw [← eK0]; exact st_make ..
    rw [e2]
    have sF := same_set (o := HO.dK (stK n 0 0 (1 + c / 4 % 7) kp0 bs hl0)) (sD.trans s_hl0) nst
    have bsF := (upd_ne (o := HO.dK (stK n 0 0 (1 + c / 4 % 7) kp0 bs hl0)) nbst).trans (s_hl0 _ _ bsD)
    have kpF := (upd_ne (o := HO.dK (stK n 0 0 (1 + c / 4 % 7) kp0 bs hl0)) nks.symm).trans (s_hl0 _ _ kpD)
    have hlF := (upd_ne (o := HO.dK (stK n 0 0 (1 + c / 4 % 7) kp0 bs hl0)) nhst).trans t_hl0
    have stF := upd_same (H := HE) (a := st) (o := HO.dK (stK n 0 0 (1 + c / 4 % 7) kp0 bs hl0))
    generalize upd HE st (HO.dK (stK n 0 0 (1 + c / 4 % 7) kp0 bs hl0)) = HF at sF bsF kpF hlF stF ⊢
    clear sA sB sC stB stC stD stE kpA kpB kpC kpD bsC bsD s_hl0 t_hl0
    walk_at "rd"
    intro x dx nx ndx nex
    have s0 : Same HF (upd (upd HF dx (.own x)) x (.ins T.o_Hand dx [])) := (same_upd ndx).trans (same_upd (by rw [upd_ne nex.symm]; exact nx))
    refine ⟨x, dx, n, rfl, upd_same, numB_in (by omega) (Int.not_lt.mpr (show n ≤ N60 by omega)), fun HG B eB eDx nl ndk nd0 fr hh => ⟨rfl, ?_⟩⟩
    have sG : Same HF HG := fun b o e => fr _ _ (s0 _ _ e) (ne_of_none e nx)
    have nhst : st ≠ hl0 := fun e => by rw [← e, stF] at hlF; cases hlF
    have I0 : Inv11 T.o_Hand T.o_Log HG ⟨B, n, 0, 1 + c / 4 % 7, ⟨0, [], []⟩, st, kp0, bs, hl0, kp0, [], [], []⟩ 0 :=
      ⟨hh, sG _ _ stF, sG _ _ kpF, (fun x hx => nomatch hx), List.Pairwise.nil, List.Perm.refl _, (fun x hx => nomatch hx), by show (0 : Int) ≤ 0 ∧ (0 : Int) ≤ 0 + 1 ∧ (0 : Int) ≤ 0; omega, nb, by show 1 ≤ 1 + c / 4 % 7 ∧ 1 + c / 4 % 7 ≤ 7; omega, sG _ _ bsF, Nat.le_refl _, nhkp, nhkp, sG _ _ hlF, sG _ _ kpF, fun b hb => nomatch hb⟩
    have hSG : SqL K HG a (ns.map V.int) := sG.seq (sF.seq hS)
    subst eB
    walk_at "nm"
    show tSeq _ _ _ _ _
    walk_at "rd"
    intro H4 hs4 l4 f4 I4
    refine ⟨true, rfl, iteF ?_⟩
    have hS4 : SqL K H4 a (ns.map V.int) := sql_keep hS fun o h => f4 _ _ (sG _ _ (sF _ _ h)) (ne_of_none (sD _ _ h) n_hl0)
    have lh4 : hs4.length = 4 := l4
    walk_at "rq"
    refine ⟨a, ns, 30, 60, rfl, hS4, hl, by decide, fun H5 dp ds s5 nd hd dok => ?_⟩
    have I5a := I4.same s5
    have ndh : dp ≠ hl0 := fun e => by rw [e, I4.held] at nd; cases nd
    have I5 : Inv11 T.o_Hand T.o_Log H5 ⟨B, n, 0, 1 + c / 4 % 7, ⟨0, [], []⟩, st, kp0, bs, hl0, dp, [], hs4, ds⟩ 0 := ⟨I5a.hand, I5a.stt, I5a.kpt, I5a.mv, I5a.rise, I5a.perm, I5a.late, I5a.cl, I5a.nm, I5a.mm, I5a.bst, I5a.size, I5a.nk, ndh, I5a.held, hd, I5a.two⟩
    have ld := dok.1
    refine ⟨dp, rfl, ⟨_, SqL.of hd⟩, for_list (K := K) (a := dp) (xs := ds.map V.int) (fun i σ H6 => ∃ (X : D11) (v5 v6 : Option V), σ = [some (.ref a), some (.int c), some (.int n), some (.ref st), some (.ref B.l), v5, v6, none] ∧
        X.B.l = B.l ∧ X.st = st ∧ X.hl = hl0 ∧ X.dp = dp ∧ X.ds = ds ∧ Inv11 T.o_Hand T.o_Log H6 X i ∧ X.hs.length = 4 + 4 * i)
      ⟨_, none, none, rfl, rfl, rfl, rfl, rfl, rfl, I5, by show hs4.length = 4 + 4 * 0; omega⟩ (fun i σ H6 _ ⟨_, _, _, _, _, _, _, e1, e2, z, _⟩ => by rw [← e1, ← e2]; exact SqL.of z.dps) ?_ ?_⟩
    · rintro i xv σ H6 hi ⟨X, v5, v6, rfl, eB, eS, eH, eD, eds, I, lhs⟩
      subst eS eH eD eds
      rw [List.getElem?_map] at hi
      obtain ⟨deed, hdi, rfl⟩ := Option.map_eq_some_iff.mp hi
      have il : i < X.ds.length := (List.getElem?_eq_some_iff.mp hdi).1
      obtain ⟨p0, p1⟩ := dok.2 deed (List.mem_of_getElem? hdi)
      rw [← eB]
      walk_at "nm"
      refine ⟨fun σ' H' => ∃ Y : D11, σ' = [some (.ref a), some (.int c), some (.int n), some (.ref X.st), some (.ref X.B.l), some (.int deed), some (.bl true), none] ∧ SameD X Y ∧ Inv11 T.o_Hand T.o_Log H' Y (i + 1), ?_, ?_⟩
      · walk_at "rd"
        refine ite2 (fun _ => ?_) (fun _ => ?_)
        · walk_at "rd"
          exact ⟨X, i, deed / 6, c, rfl, I, by omega, by omega, fun H' Y sd IY => ⟨Y, rfl, sd, IY⟩⟩
        walk_at "rd"
        refine ite2 (fun _ => ?_) (fun _ => ?_)
        · walk_at "rd"
          exact ⟨X, i, deed / 6, c, rfl, I, by omega, by omega, fun H' Y sd IY => ⟨Y, rfl, sd, IY⟩⟩
        · walk_at "rd"
          exact ⟨X, i, deed / 6, _, rfl, I, by omega, by omega, fun H' Y sd IY => ⟨Y, rfl, sd, IY⟩⟩
      · rintro σ' H7 ⟨Y, rfl, sd, I7⟩
        obtain ⟨d1, d2, d3, d4, d5, d6⟩ := sd
        have lY : Y.hs.length = 4 + 4 * i := by rw [d5]; exact lhs
        walk_at "rd"
        refine ⟨Y, i + 1, by rw [d1, d2]; rfl, I7, by omega, by omega, fun H8 bs4 l4 f8 IZ => ⟨true, rfl, iteF ?_⟩⟩
        refine ⟨{ Y with hs := Y.hs ++ bs4 }, _, _, rfl, d1, d2, d3, d4, d6, IZ, ?_⟩
        show (Y.hs ++ bs4).length = 4 + 4 * (i + 1)
        rw [List.length_append]
        omega
    · rintro σ H6 ⟨X, v5, v6, rfl, eB, eS, eH, eD, eds, I, lhs⟩
      subst eS eH eD eds
      walk_at "rq"
      refine ⟨X.st, _, rfl, I.gh, X.hl, rfl, ⟨_, SqL.of I.held⟩, for_list (K := K) (a := X.hl) (xs := X.hs.map V.ref) (fun i σ H7 => ∃ v7, σ = [some (.ref a), some (.int c), some (.int n), some (.ref X.st), some (.ref B.l), v5, v6, v7] ∧ H7 = H6) ⟨none, rfl, rfl⟩ (fun i σ H7 _ ⟨_, _, e⟩ => by rw [e]; exact SqL.of I.held) ?_ ?_⟩
      · rintro i xv σ H7 hi ⟨v7, rfl, rfl⟩
        rw [List.getElem?_map] at hi
        obtain ⟨b, hb, rfl⟩ := Option.map_eq_some_iff.mp hi
        rcases I.two b (List.mem_of_getElem? hb) with p | ⟨a1, a2, t, h1, h2, h3, nd1⟩ | p
        · obtain ⟨a1, a2, d, h1, k1, k2, fl⟩ := PairS.data (K := K) p
          have hbS := SqT.of (K := K) h1
          walk_at "rd"
          refine .inl ⟨_, _, k1, k2, fl.shaped (by decide), fl.shaped (by decide), _, rfl, ?_⟩
          rw [fl.refl]
          exact iteF ⟨_, rfl, rfl⟩
        · have hbS := SqT.of (K := K) h1
          walk_at "rd"
          refine .inr ⟨a1, a2, kvT t, kvT t, rfl, rfl, h2, h3, rfl, fun p hp => ?_, _, rfl, iteF ⟨_, rfl, rfl⟩⟩
          obtain ⟨q, hq, rfl⟩ := List.mem_map.mp hp
          refine ⟨?_, rfl⟩
          rw [valV_kvT, mem_look nd1 hq]
          rfl
        · obtain ⟨a1, a2, d, h1, k1, k2, fl⟩ := PairM.data (K := K) p
          have hbS := SqT.of (K := K) h1
          walk_at "rd"
          refine .inl ⟨_, _, k1, k2, fl.shaped (by decide), fl.shaped (by decide), _, rfl, ?_⟩
          rw [fl.refl]
          exact iteF ⟨_, rfl, rfl⟩
      · rintro σ H7 ⟨v7, rfl, rfl⟩
        walk_at "rd"
        intro H8 s8
        refine ⟨true, rfl, iteT ?_⟩
        walk_at "rd"
        intro x2 dx2 nx2 ndx2 nex2
        refine ⟨x2, dx2, _, rfl, upd_same, numB_in (by rw [p60]; decide) (by rw [p60]; decide), fun HG2 B2 eB2 _ _ _ _ fr2 hh2 => ⟨rfl, ?_⟩⟩
        have hi2 := hh2.ins
        rw [← eB2]
        walk_at "rd"
        rw [decide_eq_true rfl]
        exact q _
end
set_option maxHeartbeats 0 in
theorem all_mk {l : PySem.W.OpenLaw} {w : World} {K : PySem.W.Frag} {h : Heap} {mg : Str → Option Value} {fa : Addr} (X : K.In h) (G : h.Ns mainGlobals mg) (hfa : mg "law" = some (.ref fa))
    {f0 : Addr} {od0 an0 : Option Addr} {sl0 : Array (Option Value)} {oc0 kV0 dc0 pm0 cd0 ct0 : Value} {f1 : Addr} {od1 an1 : Option Addr} {sl1 : Array (Option Value)} {oc1 kV1 dc1 pm1 cd1 ct1 : Value} {f2 : Addr} {od2 an2 : Option Addr} {sl2 : Array (Option Value)} {oc2 kV2 dc2 pm2 cd2 ct2 : Value} {f3 : Addr} {od3 an3 : Option Addr} {sl3 : Array (Option Value)} {oc3 kV3 dc3 pm3 cd3 ct3 : Value} {f4 : Addr} {od4 an4 : Option Addr} {sl4 : Array (Option Value)} {oc4 kV4 dc4 pm4 cd4 ct4 : Value} {f5 : Addr} {od5 an5 : Option Addr} {sl5 : Array (Option Value)} {oc5 kV5 dc5 pm5 cd5 ct5 : Value} {f6 : Addr} {od6 an6 : Option Addr} {sl6 : Array (Option Value)} {oc6 kV6 dc6 pm6 cd6 ct6 : Value} {f7 : Addr} {od7 an7 : Option Addr} {sl7 : Array (Option Value)} {oc7 kV7 dc7 pm7 cd7 ct7 : Value} {f8 : Addr} {od8 an8 : Option Addr} {sl8 : Array (Option Value)} {oc8 kV8 dc8 pm8 cd8 ct8 : Value} {f9 : Addr} {od9 an9 : Option Addr} {sl9 : Array (Option Value)} {oc9 kV9 dc9 pm9 cd9 ct9 : Value} {f10 : Addr} {od10 an10 : Option Addr} {sl10 : Array (Option Value)} {oc10 kV10 dc10 pm10 cd10 ct10 : Value} {f11 : Addr} {od11 an11 : Option Addr} {sl11 : Array (Option Value)} {oc11 kV11 dc11 pm11 cd11 ct11 : Value} {f12 : Addr} {od12 an12 : Option Addr} {sl12 : Array (Option Value)} {oc12 kV12 dc12 pm12 cd12 ct12 : Value} {f13 : Addr} {od13 an13 : Option Addr} {sl13 : Array (Option Value)} {oc13 kV13 dc13 pm13 cd13 ct13 : Value} {f14 : Addr} {od14 an14 : Option Addr} {sl14 : Array (Option Value)} {oc14 kV14 dc14 pm14 cd14 ct14 : Value} {f15 : Addr} {od15 an15 : Option Addr} {sl15 : Array (Option Value)} {oc15 kV15 dc15 pm15 cd15 ct15 : Value} {f16 : Addr} {od16 an16 : Option Addr} {sl16 : Array (Option Value)} {oc16 kV16 dc16 pm16 cd16 ct16 : Value} {f17 : Addr} {od17 an17 : Option Addr} {sl17 : Array (Option Value)} {oc17 kV17 dc17 pm17 cd17 ct17 : Value} {f18 : Addr} {od18 an18 : Option Addr} {sl18 : Array (Option Value)} {oc18 kV18 dc18 pm18 cd18 ct18 : Value} {f19 : Addr} {od19 an19 : Option Addr} {sl19 : Array (Option Value)} {oc19 kV19 dc19 pm19 cd19 ct19 : Value} {f20 : Addr} {od20 an20 : Option Addr} {sl20 : Array (Option Value)} {oc20 kV20 dc20 pm20 cd20 ct20 : Value} {f21 : Addr} {od21 an21 : Option Addr} {sl21 : Array (Option Value)} {oc21 kV21 dc21 pm21 cd21 ct21 : Value} {f22 : Addr} {od22 an22 : Option Addr} {sl22 : Array (Option Value)} {oc22 kV22 dc22 pm22 cd22 ct22 : Value} {f23 : Addr} {od23 an23 : Option Addr} {sl23 : Array (Option Value)} {oc23 kV23 dc23 pm23 cd23 ct23 : Value} {f24 : Addr} {od24 an24 : Option Addr} {sl24 : Array (Option Value)} {oc24 kV24 dc24 pm24 cd24 ct24 : Value} {f25 : Addr} {od25 an25 : Option Addr} {sl25 : Array (Option Value)} {oc25 kV25 dc25 pm25 cd25 ct25 : Value} {f26 : Addr} {od26 an26 : Option Addr} {sl26 : Array (Option Value)} {oc26 kV26 dc26 pm26 cd26 ct26 : Value} {f27 : Addr} {od27 an27 : Option Addr} {sl27 : Array (Option Value)} {oc27 kV27 dc27 pm27 cd27 ct27 : Value} {f28 : Addr} {od28 an28 : Option Addr} {sl28 : Array (Option Value)} {oc28 kV28 dc28 pm28 cd28 ct28 : Value} {f29 : Addr} {od29 an29 : Option Addr} {sl29 : Array (Option Value)} {oc29 kV29 dc29 pm29 cd29 ct29 : Value} {f30 : Addr} {od30 an30 : Option Addr} {sl30 : Array (Option Value)} {oc30 kV30 dc30 pm30 cd30 ct30 : Value} {f31 : Addr} {od31 an31 : Option Addr} {sl31 : Array (Option Value)} {oc31 kV31 dc31 pm31 cd31 ct31 : Value} {f32 : Addr} {od32 an32 : Option Addr} {sl32 : Array (Option Value)} {oc32 kV32 dc32 pm32 cd32 ct32 : Value} {f33 : Addr} {od33 an33 : Option Addr} {sl33 : Array (Option Value)} {oc33 kV33 dc33 pm33 cd33 ct33 : Value} {f34 : Addr} {od34 an34 : Option Addr} {sl34 : Array (Option Value)} {oc34 kV34 dc34 pm34 cd34 ct34 : Value} {f35 : Addr} {od35 an35 : Option Addr} {sl35 : Array (Option Value)} {oc35 kV35 dc35 pm35 cd35 ct35 : Value} {f36 : Addr} {od36 an36 : Option Addr} {sl36 : Array (Option Value)} {oc36 kV36 dc36 pm36 cd36 ct36 : Value}
    {O_Log : Addr} (aC_Log : PySem.W.nsIn K mainGlobals "Log" = some (some (.ref O_Log))) (pg_Log : PySem.W.plainGet K O_Log Str.empty = true) (hd_Log : PySem.W.hasDictIn K O_Log = true) (po_Log : PySem.W.plainOver K O_Log = true) (sa_Log : PySem.W.findIn K (.ref O_Log) "__setattr__" = some (some (.builtin "object.__setattr__"))) (mk_Log : PySem.W.makesIn K O_Log = true) (kC_Log : PySem.W.keepIn K (.ref O_Log) = true)
    (n_Log_since : PySem.W.findIn K (.ref O_Log) "since" = some none)
    (n_Log_settled : PySem.W.findIn K (.ref O_Log) "_settled" = some none)
    (n_Log_kept : PySem.W.findIn K (.ref O_Log) "_kept" = some none)
    {O_Hand : Addr} (aC_Hand : PySem.W.nsIn K mainGlobals "Hand" = some (some (.ref O_Hand))) (pg_Hand : PySem.W.plainGet K O_Hand Str.empty = true) (hd_Hand : PySem.W.hasDictIn K O_Hand = true) (po_Hand : PySem.W.plainOver K O_Hand = true) (sa_Hand : PySem.W.findIn K (.ref O_Hand) "__setattr__" = some (some (.builtin "object.__setattr__"))) (mk_Hand : PySem.W.makesIn K O_Hand = true) (kC_Hand : PySem.W.keepIn K (.ref O_Hand) = true)
    (n_Hand_number : PySem.W.findIn K (.ref O_Hand) "number" = some none)
    (n_Hand_clock : PySem.W.findIn K (.ref O_Hand) "clock" = some none)
    (n_Hand_log : PySem.W.findIn K (.ref O_Hand) "log" = some none)
    (a0 : PySem.W.nsIn K mainGlobals "is_number" = some (some (.ref f0))) (l0 : K.lookup f0 = some ⟨oc0, od0, .func (PySem.W.fnOf "is_number" "is_number" (defArgs s_is_number) (defBody s_is_number) (defScope s_is_number) .none kV0 dc0 pm0 an0 cd0 ct0), sl0⟩) (c0 : PySem.W.codeIn K cd0 "is_number" = true) (k0 : PySem.W.keepIn K (.ref f0) = true)
    (a1 : PySem.W.nsIn K mainGlobals "is_move" = some (some (.ref f1))) (l1 : K.lookup f1 = some ⟨oc1, od1, .func (PySem.W.fnOf "is_move" "is_move" (defArgs s_is_move) (defBody s_is_move) (defScope s_is_move) .none kV1 dc1 pm1 an1 cd1 ct1), sl1⟩) (c1 : PySem.W.codeIn K cd1 "is_move" = true) (k1 : PySem.W.keepIn K (.ref f1) = true)
    (a2 : PySem.W.nsIn K mainGlobals "way_up" = some (some (.ref f2))) (l2 : K.lookup f2 = some ⟨oc2, od2, .func (PySem.W.fnOf "way_up" "way_up" (defArgs s_way_up) (defBody s_way_up) (defScope s_way_up) .none kV2 dc2 pm2 an2 cd2 ct2), sl2⟩) (c2 : PySem.W.codeIn K cd2 "way_up" = true) (k2 : PySem.W.keepIn K (.ref f2) = true)
    (a3 : PySem.W.findIn K (.ref O_Log) "__init__" = some (some (.ref f3))) (i3 : PySem.W.isFn K (.ref f3) = true) (l3 : K.lookup f3 = some ⟨oc3, od3, .func (PySem.W.fnOf "__init__" "Log.__init__" (defArgs s_Log_init) (defBody s_Log_init) (defScope s_Log_init) .none kV3 dc3 pm3 an3 cd3 ct3), sl3⟩) (c3 : PySem.W.codeIn K cd3 "Log.__init__" = true) (k3 : PySem.W.keepIn K (.ref f3) = true)
    (a4 : PySem.W.findIn K (.ref O_Log) "hear" = some (some (.ref f4))) (i4 : PySem.W.isFn K (.ref f4) = true) (l4 : K.lookup f4 = some ⟨oc4, od4, .func (PySem.W.fnOf "hear" "Log.hear" (defArgs s_Log_hear) (defBody s_Log_hear) (defScope s_Log_hear) .none kV4 dc4 pm4 an4 cd4 ct4), sl4⟩) (c4 : PySem.W.codeIn K cd4 "Log.hear" = true) (k4 : PySem.W.keepIn K (.ref f4) = true)
    (a5 : PySem.W.findIn K (.ref O_Log) "moves" = some (some (.ref f5))) (i5 : PySem.W.isFn K (.ref f5) = true) (l5 : K.lookup f5 = some ⟨oc5, od5, .func (PySem.W.fnOf "moves" "Log.moves" (defArgs s_Log_moves) (defBody s_Log_moves) (defScope s_Log_moves) .none kV5 dc5 pm5 an5 cd5 ct5), sl5⟩) (c5 : PySem.W.codeIn K cd5 "Log.moves" = true) (k5 : PySem.W.keepIn K (.ref f5) = true)
    (a6 : PySem.W.findIn K (.ref O_Log) "tree" = some (some (.ref f6))) (i6 : PySem.W.isFn K (.ref f6) = true) (l6 : K.lookup f6 = some ⟨oc6, od6, .func (PySem.W.fnOf "tree" "Log.tree" (defArgs s_Log_tree) (defBody s_Log_tree) (defScope s_Log_tree) .none kV6 dc6 pm6 an6 cd6 ct6), sl6⟩) (c6 : PySem.W.codeIn K cd6 "Log.tree" = true) (k6 : PySem.W.keepIn K (.ref f6) = true)
    (a7 : PySem.W.findIn K (.ref O_Log) "steps" = some (some (.ref f7))) (i7 : PySem.W.isFn K (.ref f7) = true) (l7 : K.lookup f7 = some ⟨oc7, od7, .func (PySem.W.fnOf "steps" "Log.steps" (defArgs s_Log_steps) (defBody s_Log_steps) (defScope s_Log_steps) .none kV7 dc7 pm7 an7 cd7 ct7), sl7⟩) (c7 : PySem.W.codeIn K cd7 "Log.steps" = true) (k7 : PySem.W.keepIn K (.ref f7) = true)
    (a8 : PySem.W.findIn K (.ref O_Log) "settle" = some (some (.ref f8))) (i8 : PySem.W.isFn K (.ref f8) = true) (l8 : K.lookup f8 = some ⟨oc8, od8, .func (PySem.W.fnOf "settle" "Log.settle" (defArgs s_Log_settle) (defBody s_Log_settle) (defScope s_Log_settle) .none kV8 dc8 pm8 an8 cd8 ct8), sl8⟩) (c8 : PySem.W.codeIn K cd8 "Log.settle" = true) (k8 : PySem.W.keepIn K (.ref f8) = true)
    (a9 : PySem.W.nsIn K mainGlobals "_gone_through" = some (some (.ref f9))) (l9 : K.lookup f9 = some ⟨oc9, od9, .func (PySem.W.fnOf "_gone_through" "_gone_through" (defArgs s_gone_through) (defBody s_gone_through) (defScope s_gone_through) .none kV9 dc9 pm9 an9 cd9 ct9), sl9⟩) (c9 : PySem.W.codeIn K cd9 "_gone_through" = true) (k9 : PySem.W.keepIn K (.ref f9) = true)
    (a10 : PySem.W.findIn K (.ref O_Hand) "__init__" = some (some (.ref f10))) (i10 : PySem.W.isFn K (.ref f10) = true) (l10 : K.lookup f10 = some ⟨oc10, od10, .func (PySem.W.fnOf "__init__" "Hand.__init__" (defArgs s_Hand_init) (defBody s_Hand_init) (defScope s_Hand_init) .none kV10 dc10 pm10 an10 cd10 ct10), sl10⟩) (c10 : PySem.W.codeIn K cd10 "Hand.__init__" = true) (k10 : PySem.W.keepIn K (.ref f10) = true)
    (a11 : PySem.W.findIn K (.ref O_Hand) "move" = some (some (.ref f11))) (i11 : PySem.W.isFn K (.ref f11) = true) (l11 : K.lookup f11 = some ⟨oc11, od11, .func (PySem.W.fnOf "move" "Hand.move" (defArgs s_Hand_move) (defBody s_Hand_move) (defScope s_Hand_move) .none kV11 dc11 pm11 an11 cd11 ct11), sl11⟩) (c11 : PySem.W.codeIn K cd11 "Hand.move" = true) (k11 : PySem.W.keepIn K (.ref f11) = true)
    (a12 : PySem.W.findIn K (.ref O_Hand) "hear" = some (some (.ref f12))) (i12 : PySem.W.isFn K (.ref f12) = true) (l12 : K.lookup f12 = some ⟨oc12, od12, .func (PySem.W.fnOf "hear" "Hand.hear" (defArgs s_Hand_hear) (defBody s_Hand_hear) (defScope s_Hand_hear) .none kV12 dc12 pm12 an12 cd12 ct12), sl12⟩) (c12 : PySem.W.codeIn K cd12 "Hand.hear" = true) (k12 : PySem.W.keepIn K (.ref f12) = true)
    (a13 : PySem.W.findIn K (.ref O_Hand) "tree" = some (some (.ref f13))) (i13 : PySem.W.isFn K (.ref f13) = true) (l13 : K.lookup f13 = some ⟨oc13, od13, .func (PySem.W.fnOf "tree" "Hand.tree" (defArgs s_Hand_tree) (defBody s_Hand_tree) (defScope s_Hand_tree) .none kV13 dc13 pm13 an13 cd13 ct13), sl13⟩) (c13 : PySem.W.codeIn K cd13 "Hand.tree" = true) (k13 : PySem.W.keepIn K (.ref f13) = true)
    (a14 : PySem.W.findIn K (.ref O_Hand) "settle" = some (some (.ref f14))) (i14 : PySem.W.isFn K (.ref f14) = true) (l14 : K.lookup f14 = some ⟨oc14, od14, .func (PySem.W.fnOf "settle" "Hand.settle" (defArgs s_Hand_settle) (defBody s_Hand_settle) (defScope s_Hand_settle) .none kV14 dc14 pm14 an14 cd14 ct14), sl14⟩) (c14 : PySem.W.codeIn K cd14 "Hand.settle" = true) (k14 : PySem.W.keepIn K (.ref f14) = true)
    (a15 : PySem.W.nsIn K mainGlobals "_law_whole" = some (some (.ref f15))) (l15 : K.lookup f15 = some ⟨oc15, od15, .func (PySem.W.fnOf "_law_whole" "_law_whole" (defArgs s_law_whole) (defBody s_law_whole) (defScope s_law_whole) .none kV15 dc15 pm15 an15 cd15 ct15), sl15⟩) (c15 : PySem.W.codeIn K cd15 "_law_whole" = true) (k15 : PySem.W.keepIn K (.ref f15) = true)
    (a16 : PySem.W.nsIn K mainGlobals "_law_cell_at" = some (some (.ref f16))) (l16 : K.lookup f16 = some ⟨oc16, od16, .func (PySem.W.fnOf "_law_cell_at" "_law_cell_at" (defArgs s_law_cell_at) (defBody s_law_cell_at) (defScope s_law_cell_at) .none kV16 dc16 pm16 an16 cd16 ct16), sl16⟩) (c16 : PySem.W.codeIn K cd16 "_law_cell_at" = true) (k16 : PySem.W.keepIn K (.ref f16) = true)
    (a17 : PySem.W.nsIn K mainGlobals "_law_name" = some (some (.ref f17))) (l17 : K.lookup f17 = some ⟨oc17, od17, .func (PySem.W.fnOf "_law_name" "_law_name" (defArgs s_law_name) (defBody s_law_name) (defScope s_law_name) .none kV17 dc17 pm17 an17 cd17 ct17), sl17⟩) (c17 : PySem.W.codeIn K cd17 "_law_name" = true) (k17 : PySem.W.keepIn K (.ref f17) = true)
    (a18 : PySem.W.nsIn K mainGlobals "_law_same_tree" = some (some (.ref f18))) (l18 : K.lookup f18 = some ⟨oc18, od18, .func (PySem.W.fnOf "_law_same_tree" "_law_same_tree" (defArgs s_law_same_tree) (defBody s_law_same_tree) (defScope s_law_same_tree) .none kV18 dc18 pm18 an18 cd18 ct18), sl18⟩) (c18 : PySem.W.codeIn K cd18 "_law_same_tree" = true) (k18 : PySem.W.keepIn K (.ref f18) = true)
    (a19 : PySem.W.nsIn K mainGlobals "_law_same_move" = some (some (.ref f19))) (l19 : K.lookup f19 = some ⟨oc19, od19, .func (PySem.W.fnOf "_law_same_move" "_law_same_move" (defArgs s_law_same_move) (defBody s_law_same_move) (defScope s_law_same_move) .none kV19 dc19 pm19 an19 cd19 ct19), sl19⟩) (c19 : PySem.W.codeIn K cd19 "_law_same_move" = true) (k19 : PySem.W.keepIn K (.ref f19) = true)
    (a20 : PySem.W.nsIn K mainGlobals "_law_same_moves" = some (some (.ref f20))) (l20 : K.lookup f20 = some ⟨oc20, od20, .func (PySem.W.fnOf "_law_same_moves" "_law_same_moves" (defArgs s_law_same_moves) (defBody s_law_same_moves) (defScope s_law_same_moves) .none kV20 dc20 pm20 an20 cd20 ct20), sl20⟩) (c20 : PySem.W.codeIn K cd20 "_law_same_moves" = true) (k20 : PySem.W.keepIn K (.ref f20) = true)
    (a21 : PySem.W.nsIn K mainGlobals "_law_told" = some (some (.ref f21))) (l21 : K.lookup f21 = some ⟨oc21, od21, .func (PySem.W.fnOf "_law_told" "_law_told" (defArgs s_law_told) (defBody s_law_told) (defScope s_law_told) .none kV21 dc21 pm21 an21 cd21 ct21), sl21⟩) (c21 : PySem.W.codeIn K cd21 "_law_told" = true) (k21 : PySem.W.keepIn K (.ref f21) = true)
    (a22 : PySem.W.nsIn K mainGlobals "_law_deeds" = some (some (.ref f22))) (l22 : K.lookup f22 = some ⟨oc22, od22, .func (PySem.W.fnOf "_law_deeds" "_law_deeds" (defArgs s_law_deeds) (defBody s_law_deeds) (defScope s_law_deeds) .none kV22 dc22 pm22 an22 cd22 ct22), sl22⟩) (c22 : PySem.W.codeIn K cd22 "_law_deeds" = true) (k22 : PySem.W.keepIn K (.ref f22) = true)
    (a23 : PySem.W.nsIn K mainGlobals "_law_clash" = some (some (.ref f23))) (l23 : K.lookup f23 = some ⟨oc23, od23, .func (PySem.W.fnOf "_law_clash" "_law_clash" (defArgs s_law_clash) (defBody s_law_clash) (defScope s_law_clash) .none kV23 dc23 pm23 an23 cd23 ct23), sl23⟩) (c23 : PySem.W.codeIn K cd23 "_law_clash" = true) (k23 : PySem.W.keepIn K (.ref f23) = true)
    (a24 : PySem.W.nsIn K mainGlobals "_law_heard" = some (some (.ref f24))) (l24 : K.lookup f24 = some ⟨oc24, od24, .func (PySem.W.fnOf "_law_heard" "_law_heard" (defArgs s_law_heard) (defBody s_law_heard) (defScope s_law_heard) .none kV24 dc24 pm24 an24 cd24 ct24), sl24⟩) (c24 : PySem.W.codeIn K cd24 "_law_heard" = true) (k24 : PySem.W.keepIn K (.ref f24) = true)
    (a25 : PySem.W.nsIn K mainGlobals "_law_answer" = some (some (.ref f25))) (l25 : K.lookup f25 = some ⟨oc25, od25, .func (PySem.W.fnOf "_law_answer" "_law_answer" (defArgs s_law_answer) (defBody s_law_answer) (defScope s_law_answer) .none kV25 dc25 pm25 an25 cd25 ct25), sl25⟩) (c25 : PySem.W.codeIn K cd25 "_law_answer" = true) (k25 : PySem.W.keepIn K (.ref f25) = true)
    (a26 : PySem.W.nsIn K mainGlobals "_law_way" = some (some (.ref f26))) (l26 : K.lookup f26 = some ⟨oc26, od26, .func (PySem.W.fnOf "_law_way" "_law_way" (defArgs s_law_way) (defBody s_law_way) (defScope s_law_way) .none kV26 dc26 pm26 an26 cd26 ct26), sl26⟩) (c26 : PySem.W.codeIn K cd26 "_law_way" = true) (k26 : PySem.W.keepIn K (.ref f26) = true)
    (a27 : PySem.W.nsIn K mainGlobals "_law_fold" = some (some (.ref f27))) (l27 : K.lookup f27 = some ⟨oc27, od27, .func (PySem.W.fnOf "_law_fold" "_law_fold" (defArgs s_law_fold) (defBody s_law_fold) (defScope s_law_fold) .none kV27 dc27 pm27 an27 cd27 ct27), sl27⟩) (c27 : PySem.W.codeIn K cd27 "_law_fold" = true) (k27 : PySem.W.keepIn K (.ref f27) = true)
    (a28 : PySem.W.nsIn K mainGlobals "_law_steps_of" = some (some (.ref f28))) (l28 : K.lookup f28 = some ⟨oc28, od28, .func (PySem.W.fnOf "_law_steps_of" "_law_steps_of" (defArgs s_law_steps_of) (defBody s_law_steps_of) (defScope s_law_steps_of) .none kV28 dc28 pm28 an28 cd28 ct28), sl28⟩) (c28 : PySem.W.codeIn K cd28 "_law_steps_of" = true) (k28 : PySem.W.keepIn K (.ref f28) = true)
    (a29 : PySem.W.nsIn K mainGlobals "_law_same_steps" = some (some (.ref f29))) (l29 : K.lookup f29 = some ⟨oc29, od29, .func (PySem.W.fnOf "_law_same_steps" "_law_same_steps" (defArgs s_law_same_steps) (defBody s_law_same_steps) (defScope s_law_same_steps) .none kV29 dc29 pm29 an29 cd29 ct29), sl29⟩) (c29 : PySem.W.codeIn K cd29 "_law_same_steps" = true) (k29 : PySem.W.keepIn K (.ref f29) = true)
    (a30 : PySem.W.nsIn K mainGlobals "_law_steps_asked" = some (some (.ref f30))) (l30 : K.lookup f30 = some ⟨oc30, od30, .func (PySem.W.fnOf "_law_steps_asked" "_law_steps_asked" (defArgs s_law_steps_asked) (defBody s_law_steps_asked) (defScope s_law_steps_asked) .none kV30 dc30 pm30 an30 cd30 ct30), sl30⟩) (c30 : PySem.W.codeIn K cd30 "_law_steps_asked" = true) (k30 : PySem.W.keepIn K (.ref f30) = true)
    (a31 : PySem.W.nsIn K mainGlobals "_law_no_hand" = some (some (.ref f31))) (l31 : K.lookup f31 = some ⟨oc31, od31, .func (PySem.W.fnOf "_law_no_hand" "_law_no_hand" (defArgs s_law_no_hand) (defBody s_law_no_hand) (defScope s_law_no_hand) .none kV31 dc31 pm31 an31 cd31 ct31), sl31⟩) (c31 : PySem.W.codeIn K cd31 "_law_no_hand" = true) (k31 : PySem.W.keepIn K (.ref f31) = true)
    (a32 : PySem.W.nsIn K mainGlobals "_law_own" = some (some (.ref f32))) (l32 : K.lookup f32 = some ⟨oc32, od32, .func (PySem.W.fnOf "_law_own" "_law_own" (defArgs s_law_own) (defBody s_law_own) (defScope s_law_own) .none kV32 dc32 pm32 an32 cd32 ct32), sl32⟩) (c32 : PySem.W.codeIn K cd32 "_law_own" = true) (k32 : PySem.W.keepIn K (.ref f32) = true)
    (a33 : PySem.W.nsIn K mainGlobals "_law_other" = some (some (.ref f33))) (l33 : K.lookup f33 = some ⟨oc33, od33, .func (PySem.W.fnOf "_law_other" "_law_other" (defArgs s_law_other) (defBody s_law_other) (defScope s_law_other) .none kV33 dc33 pm33 an33 cd33 ct33), sl33⟩) (c33 : PySem.W.codeIn K cd33 "_law_other" = true) (k33 : PySem.W.keepIn K (.ref f33) = true)
    (a34 : PySem.W.nsIn K mainGlobals "_law_settled" = some (some (.ref f34))) (l34 : K.lookup f34 = some ⟨oc34, od34, .func (PySem.W.fnOf "_law_settled" "_law_settled" (defArgs s_law_settled) (defBody s_law_settled) (defScope s_law_settled) .none kV34 dc34 pm34 an34 cd34 ct34), sl34⟩) (c34 : PySem.W.codeIn K cd34 "_law_settled" = true) (k34 : PySem.W.keepIn K (.ref f34) = true)
    (a35 : PySem.W.nsIn K mainGlobals "_law_as_told" = some (some (.ref f35))) (l35 : K.lookup f35 = some ⟨oc35, od35, .func (PySem.W.fnOf "_law_as_told" "_law_as_told" (defArgs s_law_as_told) (defBody s_law_as_told) (defScope s_law_as_told) .none kV35 dc35 pm35 an35 cd35 ct35), sl35⟩) (c35 : PySem.W.codeIn K cd35 "_law_as_told" = true) (k35 : PySem.W.keepIn K (.ref f35) = true)
    (a36 : PySem.W.nsIn K mainGlobals "law" = some (some (.ref f36))) (l36 : K.lookup f36 = some ⟨oc36, od36, .func (PySem.W.fnOf "law" "law" (defArgs s_law) (defBody s_law) (defScope s_law) .none kV36 dc36 pm36 an36 cd36 ct36), sl36⟩) (c36 : PySem.W.codeIn K cd36 "law" = true) (k36 : PySem.W.keepIn K (.ref f36) = true)
    (z0 : PySem.W.nsIn K mainGlobals "ValueError" = some none)
    (z1 : PySem.W.nsIn K mainGlobals "bool" = some none)
    (z2 : PySem.W.nsIn K mainGlobals "dict" = some none)
    (z3 : PySem.W.nsIn K mainGlobals "int" = some none)
    (z4 : PySem.W.nsIn K mainGlobals "isinstance" = some none)
    (z5 : PySem.W.nsIn K mainGlobals "len" = some none)
    (z6 : PySem.W.nsIn K mainGlobals "list" = some none)
    (z7 : PySem.W.nsIn K mainGlobals "max" = some none)
    (z8 : PySem.W.nsIn K mainGlobals "min" = some none)
    (z9 : PySem.W.nsIn K mainGlobals "range" = some none)
    (z10 : PySem.W.nsIn K mainGlobals "sorted" = some none)
    (z11 : PySem.W.nsIn K mainGlobals "str" = some none)
    (z12 : PySem.W.nsIn K mainGlobals "tuple" = some none)
    {C_TreeError : Addr} (gc_TreeError : PySem.W.nsIn K mainGlobals "TreeError" = some (some (.ref C_TreeError))) (x_TreeError : PySem.W.excIn K C_TreeError [.type "ValueError", .type "Exception", .type "BaseException", .type "object"] "ValueError.__new__" = true) (kc_TreeError : PySem.W.keepIn K (.ref C_TreeError) = true) (bc_TreeError : PySem.W.subIn K (.ref C_TreeError) (.type "BaseException") = some true) (tc_TreeError : PySem.W.typeIn K (.ref C_TreeError) = some (.type "type"))
    (e1_TreeError : PySem.W.findIn K (.ref C_TreeError) "__getattribute__" = some (some (.builtin "BaseException.__getattribute__"))) (e2_TreeError : PySem.W.findIn K (.ref C_TreeError) "__getattr__" = some none) (e3_TreeError : PySem.W.hasDictIn K C_TreeError = true) (e4_TreeError : PySem.W.findIn K (.ref C_TreeError) "__class__" = some (some (.builtin "object.__class__"))) (e5_TreeError : PySem.W.specialIn K (.builtin "object.__class__") "__get__" = some (some (.builtin "getset_descriptor.__get__"))) (e6_TreeError : PySem.W.takesIn K (.builtin "object.__class__") = some true) (e7_TreeError : PySem.W.mroIn K C_TreeError (.type "object") = some true) (kv_TreeError : PySem.W.subIn K (.ref C_TreeError) (.type "ValueError") = some true)
    {C_NoMove : Addr} (gc_NoMove : PySem.W.nsIn K mainGlobals "NoMove" = some (some (.ref C_NoMove))) (x_NoMove : PySem.W.excIn K C_NoMove [.type "ValueError", .type "Exception", .type "BaseException", .type "object"] "ValueError.__new__" = true) (kc_NoMove : PySem.W.keepIn K (.ref C_NoMove) = true) (bc_NoMove : PySem.W.subIn K (.ref C_NoMove) (.type "BaseException") = some true) (tc_NoMove : PySem.W.typeIn K (.ref C_NoMove) = some (.type "type"))
    (e1_NoMove : PySem.W.findIn K (.ref C_NoMove) "__getattribute__" = some (some (.builtin "BaseException.__getattribute__"))) (e2_NoMove : PySem.W.findIn K (.ref C_NoMove) "__getattr__" = some none) (e3_NoMove : PySem.W.hasDictIn K C_NoMove = true) (e4_NoMove : PySem.W.findIn K (.ref C_NoMove) "__class__" = some (some (.builtin "object.__class__"))) (e5_NoMove : PySem.W.specialIn K (.builtin "object.__class__") "__get__" = some (some (.builtin "getset_descriptor.__get__"))) (e6_NoMove : PySem.W.takesIn K (.builtin "object.__class__") = some true) (e7_NoMove : PySem.W.mroIn K C_NoMove (.type "object") = some true) (kv_NoMove : PySem.W.subIn K (.ref C_NoMove) (.type "ValueError") = some true)
    {C_TooLate : Addr} (gc_TooLate : PySem.W.nsIn K mainGlobals "TooLate" = some (some (.ref C_TooLate))) (x_TooLate : PySem.W.excIn K C_TooLate [.type "ValueError", .type "Exception", .type "BaseException", .type "object"] "ValueError.__new__" = true) (kc_TooLate : PySem.W.keepIn K (.ref C_TooLate) = true) (bc_TooLate : PySem.W.subIn K (.ref C_TooLate) (.type "BaseException") = some true) (tc_TooLate : PySem.W.typeIn K (.ref C_TooLate) = some (.type "type"))
    (e1_TooLate : PySem.W.findIn K (.ref C_TooLate) "__getattribute__" = some (some (.builtin "BaseException.__getattribute__"))) (e2_TooLate : PySem.W.findIn K (.ref C_TooLate) "__getattr__" = some none) (e3_TooLate : PySem.W.hasDictIn K C_TooLate = true) (e4_TooLate : PySem.W.findIn K (.ref C_TooLate) "__class__" = some (some (.builtin "object.__class__"))) (e5_TooLate : PySem.W.specialIn K (.builtin "object.__class__") "__get__" = some (some (.builtin "getset_descriptor.__get__"))) (e6_TooLate : PySem.W.takesIn K (.builtin "object.__class__") = some true) (e7_TooLate : PySem.W.mroIn K C_TooLate (.type "object") = some true) (kv_TooLate : PySem.W.subIn K (.ref C_TooLate) (.type "ValueError") = some true)
    {C_Clash : Addr} (gc_Clash : PySem.W.nsIn K mainGlobals "Clash" = some (some (.ref C_Clash))) (x_Clash : PySem.W.excIn K C_Clash [.type "ValueError", .type "Exception", .type "BaseException", .type "object"] "ValueError.__new__" = true) (kc_Clash : PySem.W.keepIn K (.ref C_Clash) = true) (bc_Clash : PySem.W.subIn K (.ref C_Clash) (.type "BaseException") = some true) (tc_Clash : PySem.W.typeIn K (.ref C_Clash) = some (.type "type"))
    (e1_Clash : PySem.W.findIn K (.ref C_Clash) "__getattribute__" = some (some (.builtin "BaseException.__getattribute__"))) (e2_Clash : PySem.W.findIn K (.ref C_Clash) "__getattr__" = some none) (e3_Clash : PySem.W.hasDictIn K C_Clash = true) (e4_Clash : PySem.W.findIn K (.ref C_Clash) "__class__" = some (some (.builtin "object.__class__"))) (e5_Clash : PySem.W.specialIn K (.builtin "object.__class__") "__get__" = some (some (.builtin "getset_descriptor.__get__"))) (e6_Clash : PySem.W.takesIn K (.builtin "object.__class__") = some true) (e7_Clash : PySem.W.mroIn K C_Clash (.type "object") = some true) (kv_Clash : PySem.W.subIn K (.ref C_Clash) (.type "ValueError") = some true)
    {C_NoHand : Addr} (gc_NoHand : PySem.W.nsIn K mainGlobals "NoHand" = some (some (.ref C_NoHand))) (x_NoHand : PySem.W.excIn K C_NoHand [.type "ValueError", .type "Exception", .type "BaseException", .type "object"] "ValueError.__new__" = true) (kc_NoHand : PySem.W.keepIn K (.ref C_NoHand) = true) (bc_NoHand : PySem.W.subIn K (.ref C_NoHand) (.type "BaseException") = some true) (tc_NoHand : PySem.W.typeIn K (.ref C_NoHand) = some (.type "type"))
    (e1_NoHand : PySem.W.findIn K (.ref C_NoHand) "__getattribute__" = some (some (.builtin "BaseException.__getattribute__"))) (e2_NoHand : PySem.W.findIn K (.ref C_NoHand) "__getattr__" = some none) (e3_NoHand : PySem.W.hasDictIn K C_NoHand = true) (e4_NoHand : PySem.W.findIn K (.ref C_NoHand) "__class__" = some (some (.builtin "object.__class__"))) (e5_NoHand : PySem.W.specialIn K (.builtin "object.__class__") "__get__" = some (some (.builtin "getset_descriptor.__get__"))) (e6_NoHand : PySem.W.takesIn K (.builtin "object.__class__") = some true) (e7_NoHand : PySem.W.mroIn K C_NoHand (.type "object") = some true) (kv_NoHand : PySem.W.subIn K (.ref C_NoHand) (.type "ValueError") = some true)
    (s_TreeError_TreeError : PySem.W.subIn K (.ref C_TreeError) (.ref C_TreeError) = some true)
    (s_TreeError_NoMove : PySem.W.subIn K (.ref C_TreeError) (.ref C_NoMove) = some false)
    (s_TreeError_TooLate : PySem.W.subIn K (.ref C_TreeError) (.ref C_TooLate) = some false)
    (s_TreeError_Clash : PySem.W.subIn K (.ref C_TreeError) (.ref C_Clash) = some false)
    (s_TreeError_NoHand : PySem.W.subIn K (.ref C_TreeError) (.ref C_NoHand) = some false)
    (s_NoMove_TreeError : PySem.W.subIn K (.ref C_NoMove) (.ref C_TreeError) = some true)
    (s_NoMove_NoMove : PySem.W.subIn K (.ref C_NoMove) (.ref C_NoMove) = some true)
    (s_NoMove_TooLate : PySem.W.subIn K (.ref C_NoMove) (.ref C_TooLate) = some false)
    (s_NoMove_Clash : PySem.W.subIn K (.ref C_NoMove) (.ref C_Clash) = some false)
    (s_NoMove_NoHand : PySem.W.subIn K (.ref C_NoMove) (.ref C_NoHand) = some false)
    (s_TooLate_TreeError : PySem.W.subIn K (.ref C_TooLate) (.ref C_TreeError) = some true)
    (s_TooLate_NoMove : PySem.W.subIn K (.ref C_TooLate) (.ref C_NoMove) = some false)
    (s_TooLate_TooLate : PySem.W.subIn K (.ref C_TooLate) (.ref C_TooLate) = some true)
    (s_TooLate_Clash : PySem.W.subIn K (.ref C_TooLate) (.ref C_Clash) = some false)
    (s_TooLate_NoHand : PySem.W.subIn K (.ref C_TooLate) (.ref C_NoHand) = some false)
    (s_Clash_TreeError : PySem.W.subIn K (.ref C_Clash) (.ref C_TreeError) = some true)
    (s_Clash_NoMove : PySem.W.subIn K (.ref C_Clash) (.ref C_NoMove) = some false)
    (s_Clash_TooLate : PySem.W.subIn K (.ref C_Clash) (.ref C_TooLate) = some false)
    (s_Clash_Clash : PySem.W.subIn K (.ref C_Clash) (.ref C_Clash) = some true)
    (s_Clash_NoHand : PySem.W.subIn K (.ref C_Clash) (.ref C_NoHand) = some false)
    (s_NoHand_TreeError : PySem.W.subIn K (.ref C_NoHand) (.ref C_TreeError) = some true)
    (s_NoHand_NoMove : PySem.W.subIn K (.ref C_NoHand) (.ref C_NoMove) = some false)
    (s_NoHand_TooLate : PySem.W.subIn K (.ref C_NoHand) (.ref C_TooLate) = some false)
    (s_NoHand_Clash : PySem.W.subIn K (.ref C_NoHand) (.ref C_Clash) = some false)
    (s_NoHand_NoHand : PySem.W.subIn K (.ref C_NoHand) (.ref C_NoHand) = some true)
    {t0 : Tok} (v0 : PySem.W.nsIn K mainGlobals "GREATEST" = some (some (.int 1000000000000000000000000000000000000000000000000000000000000 t0)))
    : ∃ fd : FuncData, (∀ (s : Shared) (v : Value), BindsTo s fd ⟨[v], []⟩ [("_law_script", v)]) ∧ ∀ base : Heap, K.In base → base.Ns mainGlobals mg → FnOk l.prog w K mg base CX0 7 fa fd ["_law_script"] (sp_law K) := by
  have e := hfa.symm.trans (PySem.W.mg_of X G a36)
  cases e
  have F0 := fun_mk (st := s_is_number) l0 c0 k0
  have b0 := F0.binds (ps := ["thing", "least"]) fun _ _ _ _ _ _ us hl => match us, hl with | [_, _], _ => rfl
  have F1 := fun_mk (st := s_is_move) l1 c1 k1
  have b1 := F1.binds (ps := ["thing"]) fun _ _ _ _ _ _ us hl => match us, hl with | [_], _ => rfl
  have F2 := fun_mk (st := s_way_up) l2 c2 k2
  have b2 := F2.binds (ps := ["tree", "folder"]) fun _ _ _ _ _ _ us hl => match us, hl with | [_, _], _ => rfl
  have F3 := fun_mk (st := s_Log_init) l3 c3 k3
  have b3 := F3.binds (ps := ["self"]) fun _ _ _ _ _ _ us hl => match us, hl with | [_], _ => rfl
  have F4 := fun_mk (st := s_Log_hear) l4 c4 k4
  have b4 := F4.binds (ps := ["self", "move"]) fun _ _ _ _ _ _ us hl => match us, hl with | [_, _], _ => rfl
  have F5 := fun_mk (st := s_Log_moves) l5 c5 k5
  have b5 := F5.binds (ps := ["self"]) fun _ _ _ _ _ _ us hl => match us, hl with | [_], _ => rfl
  have F6 := fun_mk (st := s_Log_tree) l6 c6 k6
  have b6 := F6.binds (ps := ["self"]) fun _ _ _ _ _ _ us hl => match us, hl with | [_], _ => rfl
  have F7 := fun_mk (st := s_Log_steps) l7 c7 k7
  have b7 := F7.binds (ps := ["self"]) fun _ _ _ _ _ _ us hl => match us, hl with | [_], _ => rfl
  have F8 := fun_mk (st := s_Log_settle) l8 c8 k8
  have b8 := F8.binds (ps := ["self", "time"]) fun _ _ _ _ _ _ us hl => match us, hl with | [_, _], _ => rfl
  have F9 := fun_mk (st := s_gone_through) l9 c9 k9
  have b9 := F9.binds (ps := ["ahead_of_all", "moves"]) fun _ _ _ _ _ _ us hl => match us, hl with | [_, _], _ => rfl
  have F10 := fun_mk (st := s_Hand_init) l10 c10 k10
  have b10 := F10.binds (ps := ["self", "number"]) fun _ _ _ _ _ _ us hl => match us, hl with | [_, _], _ => rfl
  have F11 := fun_mk (st := s_Hand_move) l11 c11 k11
  have b11 := F11.binds (ps := ["self", "folder", "under"]) fun _ _ _ _ _ _ us hl => match us, hl with | [_, _, _], _ => rfl
  have F12 := fun_mk (st := s_Hand_hear) l12 c12 k12
  have b12 := F12.binds (ps := ["self", "move"]) fun _ _ _ _ _ _ us hl => match us, hl with | [_, _], _ => rfl
  have F13 := fun_mk (st := s_Hand_tree) l13 c13 k13
  have b13 := F13.binds (ps := ["self"]) fun _ _ _ _ _ _ us hl => match us, hl with | [_], _ => rfl
  have F14 := fun_mk (st := s_Hand_settle) l14 c14 k14
  have b14 := F14.binds (ps := ["self", "time"]) fun _ _ _ _ _ _ us hl => match us, hl with | [_, _], _ => rfl
  have F15 := fun_mk (st := s_law_whole) l15 c15 k15
  have b15 := F15.binds (ps := ["_law_found"]) fun _ _ _ _ _ _ us hl => match us, hl with | [_], _ => rfl
  have F16 := fun_mk (st := s_law_cell_at) l16 c16 k16
  have b16 := F16.binds (ps := ["_law_script", "_law_k"]) fun _ _ _ _ _ _ us hl => match us, hl with | [_, _], _ => rfl
  have F17 := fun_mk (st := s_law_name) l17 c17 k17
  have b17 := F17.binds (ps := ["_law_k", "_law_cell"]) fun _ _ _ _ _ _ us hl => match us, hl with | [_, _], _ => rfl
  have F18 := fun_mk (st := s_law_same_tree) l18 c18 k18
  have b18 := F18.binds (ps := ["_law_found", "_law_due"]) fun _ _ _ _ _ _ us hl => match us, hl with | [_, _], _ => rfl
  have F19 := fun_mk (st := s_law_same_move) l19 c19 k19
  have b19 := F19.binds (ps := ["_law_found", "_law_due"]) fun _ _ _ _ _ _ us hl => match us, hl with | [_, _], _ => rfl
  have F20 := fun_mk (st := s_law_same_moves) l20 c20 k20
  have b20 := F20.binds (ps := ["_law_found", "_law_due"]) fun _ _ _ _ _ _ us hl => match us, hl with | [_, _], _ => rfl
  have F21 := fun_mk (st := s_law_told) l21 c21 k21
  have b21 := F21.binds (ps := ["_law_moves", "_law_move"]) fun _ _ _ _ _ _ us hl => match us, hl with | [_, _], _ => rfl
  have F22 := fun_mk (st := s_law_deeds) l22 c22 k22
  have b22 := F22.binds (ps := ["_law_script", "_law_few", "_law_many"]) fun _ _ _ _ _ _ us hl => match us, hl with | [_, _, _], _ => rfl
  have F23 := fun_mk (st := s_law_clash) l23 c23 k23
  have b23 := F23.binds (ps := ["_law_moves", "_law_move"]) fun _ _ _ _ _ _ us hl => match us, hl with | [_, _], _ => rfl
  have F24 := fun_mk (st := s_law_heard) l24 c24 k24
  have b24 := F24.binds (ps := ["_law_log", "_law_move"]) fun _ _ _ _ _ _ us hl => match us, hl with | [_, _], _ => rfl
  have F25 := fun_mk (st := s_law_answer) l25 c25 k25
  have b25 := F25.binds (ps := ["_law_found", "_law_due"]) fun _ _ _ _ _ _ us hl => match us, hl with | [_, _], _ => rfl
  have F26 := fun_mk (st := s_law_way) l26 c26 k26
  have b26 := F26.binds (ps := ["_law_tree", "_law_folder"]) fun _ _ _ _ _ _ us hl => match us, hl with | [_, _], _ => rfl
  have F27 := fun_mk (st := s_law_fold) l27 c27 k27
  have b27 := F27.binds (ps := ["_law_tree", "_law_moves"]) fun _ _ _ _ _ _ us hl => match us, hl with | [_, _], _ => rfl
  have F28 := fun_mk (st := s_law_steps_of) l28 c28 k28
  have b28 := F28.binds (ps := ["_law_base", "_law_moves"]) fun _ _ _ _ _ _ us hl => match us, hl with | [_, _], _ => rfl
  have F29 := fun_mk (st := s_law_same_steps) l29 c29 k29
  have b29 := F29.binds (ps := ["_law_found", "_law_due"]) fun _ _ _ _ _ _ us hl => match us, hl with | [_, _], _ => rfl
  have F30 := fun_mk (st := s_law_steps_asked) l30 c30 k30
  have b30 := F30.binds (ps := ["_law_log", "_law_base", "_law_moves", "_law_held"]) fun _ _ _ _ _ _ us hl => match us, hl with | [_, _, _, _], _ => rfl
  have F31 := fun_mk (st := s_law_no_hand) l31 c31 k31
  have b31 := F31.binds (ps := ["_law_cell"]) fun _ _ _ _ _ _ us hl => match us, hl with | [_], _ => rfl
  have F32 := fun_mk (st := s_law_own) l32 c32 k32
  have b32 := F32.binds (ps := ["_law_hand", "_law_state", "_law_pick", "_law_cell"]) fun _ _ _ _ _ _ us hl => match us, hl with | [_, _, _, _], _ => rfl
  have F33 := fun_mk (st := s_law_other) l33 c33 k33
  have b33 := F33.binds (ps := ["_law_hand", "_law_state", "_law_pick", "_law_cell"]) fun _ _ _ _ _ _ us hl => match us, hl with | [_, _, _, _], _ => rfl
  have F34 := fun_mk (st := s_law_settled) l34 c34 k34
  have b34 := F34.binds (ps := ["_law_hand", "_law_state", "_law_pick", "_law_great"]) fun _ _ _ _ _ _ us hl => match us, hl with | [_, _, _, _], _ => rfl
  have F35 := fun_mk (st := s_law_as_told) l35 c35 k35
  have b35 := F35.binds (ps := ["_law_hand", "_law_state"]) fun _ _ _ _ _ _ us hl => match us, hl with | [_, _], _ => rfl
  have F36 := fun_mk (st := s_law) l36 c36 k36
  have b36 := F36.binds (ps := ["_law_script"]) fun _ _ _ _ _ _ us hl => match us, hl with | [_], _ => rfl
  refine ⟨PySem.W.fnOf "law" "law" (defArgs s_law) (defBody s_law) (defScope s_law) .none kV36 dc36 pm36 an36 cd36 ct36, fun s v => .of_eq rfl, fun base _ _ => ?_⟩
  exact ok_law ⟨f0, _, F0, b0, PySem.W.mg_of X G a0, f1, _, F1, b1, PySem.W.mg_of X G a1, f2, _, F2, b2, PySem.W.mg_of X G a2, f3, _, F3, b3, f4, _, F4, b4, f5, _, F5, b5, f6, _, F6, b6, f7, _, F7, b7, f8, _, F8, b8, f9, _, F9, b9, PySem.W.mg_of X G a9, f10, _, F10, b10, f11, _, F11, b11, f12, _, F12, b12, f13, _, F13, b13, f14, _, F14, b14, f15, _, F15, b15, PySem.W.mg_of X G a15, f16, _, F16, b16, PySem.W.mg_of X G a16, f17, _, F17, b17, PySem.W.mg_of X G a17, f18, _, F18, b18, PySem.W.mg_of X G a18, f19, _, F19, b19, PySem.W.mg_of X G a19, f20, _, F20, b20, PySem.W.mg_of X G a20, f21, _, F21, b21, PySem.W.mg_of X G a21, f22, _, F22, b22, PySem.W.mg_of X G a22, f23, _, F23, b23, PySem.W.mg_of X G a23, f24, _, F24, b24, PySem.W.mg_of X G a24, f25, _, F25, b25, PySem.W.mg_of X G a25, f26, _, F26, b26, PySem.W.mg_of X G a26, f27, _, F27, b27, PySem.W.mg_of X G a27, f28, _, F28, b28, PySem.W.mg_of X G a28, f29, _, F29, b29, PySem.W.mg_of X G a29, f30, _, F30, b30, PySem.W.mg_of X G a30, f31, _, F31, b31, PySem.W.mg_of X G a31, f32, _, F32, b32, PySem.W.mg_of X G a32, f33, _, F33, b33, PySem.W.mg_of X G a33, f34, _, F34, b34, PySem.W.mg_of X G a34, f35, _, F35, b35, PySem.W.mg_of X G a35, fa, _, F36, b36, PySem.W.mg_of X G a36, O_Log, PySem.W.mg_of X G aC_Log, ⟨pg_Log, hd_Log, po_Log, sa_Log⟩, ⟨mk_Log, a3, i3, kC_Log⟩, ⟨a4, i4, k4⟩, ⟨a5, i5, k5⟩, ⟨a6, i6, k6⟩, ⟨a7, i7, k7⟩, ⟨a8, i8, k8⟩, n_Log_since, n_Log_settled, n_Log_kept, O_Hand, PySem.W.mg_of X G aC_Hand, ⟨pg_Hand, hd_Hand, po_Hand, sa_Hand⟩, ⟨mk_Hand, a10, i10, kC_Hand⟩, ⟨a11, i11, k11⟩, ⟨a12, i12, k12⟩, ⟨a13, i13, k13⟩, ⟨a14, i14, k14⟩, n_Hand_number, n_Hand_clock, n_Hand_log, PySem.W.mg_none_of X G z0, PySem.W.mg_none_of X G z1, PySem.W.mg_none_of X G z2, PySem.W.mg_none_of X G z3, PySem.W.mg_none_of X G z4, PySem.W.mg_none_of X G z5, PySem.W.mg_none_of X G z6, PySem.W.mg_none_of X G z7, PySem.W.mg_none_of X G z8, PySem.W.mg_none_of X G z9, PySem.W.mg_none_of X G z10, PySem.W.mg_none_of X G z11, PySem.W.mg_none_of X G z12, C_TreeError, PySem.W.mg_of X G gc_TreeError, x_TreeError, kc_TreeError, bc_TreeError, tc_TreeError, ⟨e1_TreeError, e2_TreeError, bc_TreeError, e3_TreeError, e4_TreeError, e5_TreeError, e6_TreeError, e7_TreeError⟩, kit_sub (by decide +kernel) kv_TreeError, C_NoMove, PySem.W.mg_of X G gc_NoMove, x_NoMove, kc_NoMove, bc_NoMove, tc_NoMove, ⟨e1_NoMove, e2_NoMove, bc_NoMove, e3_NoMove, e4_NoMove, e5_NoMove, e6_NoMove, e7_NoMove⟩, kit_sub (by decide +kernel) kv_NoMove, C_TooLate, PySem.W.mg_of X G gc_TooLate, x_TooLate, kc_TooLate, bc_TooLate, tc_TooLate, ⟨e1_TooLate, e2_TooLate, bc_TooLate, e3_TooLate, e4_TooLate, e5_TooLate, e6_TooLate, e7_TooLate⟩, kit_sub (by decide +kernel) kv_TooLate, C_Clash, PySem.W.mg_of X G gc_Clash, x_Clash, kc_Clash, bc_Clash, tc_Clash, ⟨e1_Clash, e2_Clash, bc_Clash, e3_Clash, e4_Clash, e5_Clash, e6_Clash, e7_Clash⟩, kit_sub (by decide +kernel) kv_Clash, C_NoHand, PySem.W.mg_of X G gc_NoHand, x_NoHand, kc_NoHand, bc_NoHand, tc_NoHand, ⟨e1_NoHand, e2_NoHand, bc_NoHand, e3_NoHand, e4_NoHand, e5_NoHand, e6_NoHand, e7_NoHand⟩, kit_sub (by decide +kernel) kv_NoHand, PySem.W.exm_ref bc_TreeError e3_TreeError tc_TreeError s_TreeError_TreeError, PySem.W.exm_ref bc_NoMove e3_NoMove tc_NoMove s_TreeError_NoMove, PySem.W.exm_ref bc_TooLate e3_TooLate tc_TooLate s_TreeError_TooLate, PySem.W.exm_ref bc_Clash e3_Clash tc_Clash s_TreeError_Clash, PySem.W.exm_ref bc_NoHand e3_NoHand tc_NoHand s_TreeError_NoHand, PySem.W.exm_ref bc_TreeError e3_TreeError tc_TreeError s_NoMove_TreeError, PySem.W.exm_ref bc_NoMove e3_NoMove tc_NoMove s_NoMove_NoMove, PySem.W.exm_ref bc_TooLate e3_TooLate tc_TooLate s_NoMove_TooLate, PySem.W.exm_ref bc_Clash e3_Clash tc_Clash s_NoMove_Clash, PySem.W.exm_ref bc_NoHand e3_NoHand tc_NoHand s_NoMove_NoHand, PySem.W.exm_ref bc_TreeError e3_TreeError tc_TreeError s_TooLate_TreeError, PySem.W.exm_ref bc_NoMove e3_NoMove tc_NoMove s_TooLate_NoMove, PySem.W.exm_ref bc_TooLate e3_TooLate tc_TooLate s_TooLate_TooLate, PySem.W.exm_ref bc_Clash e3_Clash tc_Clash s_TooLate_Clash, PySem.W.exm_ref bc_NoHand e3_NoHand tc_NoHand s_TooLate_NoHand, PySem.W.exm_ref bc_TreeError e3_TreeError tc_TreeError s_Clash_TreeError, PySem.W.exm_ref bc_NoMove e3_NoMove tc_NoMove s_Clash_NoMove, PySem.W.exm_ref bc_TooLate e3_TooLate tc_TooLate s_Clash_TooLate, PySem.W.exm_ref bc_Clash e3_Clash tc_Clash s_Clash_Clash, PySem.W.exm_ref bc_NoHand e3_NoHand tc_NoHand s_Clash_NoHand, PySem.W.exm_ref bc_TreeError e3_TreeError tc_TreeError s_NoHand_TreeError, PySem.W.exm_ref bc_NoMove e3_NoMove tc_NoMove s_NoHand_NoMove, PySem.W.exm_ref bc_TooLate e3_TooLate tc_TooLate s_NoHand_TooLate, PySem.W.exm_ref bc_Clash e3_Clash tc_Clash s_NoHand_Clash, PySem.W.exm_ref bc_NoHand e3_NoHand tc_NoHand s_NoHand_NoHand, t0, PySem.W.mg_of X G v0⟩
end Tm
open PySem PySem.W PyProof.Rows
set_option maxHeartbeats 0 in
theorem PySem.Challenge.cw_treemove_k11_hand_and_clock_holds : PySem.Challenge.rw_treemove_k11_hand_and_clock.Holds := by
  w_on; o_law; k_head; (case hw => w_witness2)
  k_fill
  refine L2.walk_of (l := PySem.Challenge.rw_treemove_k11_hand_and_clock) (n := 63) (k := 7) (x := "_law_script") (CX := fun _ => L2.CX0) (sp := fun w => Tm.sp_law _) rfl (by decide) rfl ⟨rfl, by decide, by decide⟩ (fun w h Y => PySem.W.kIn_of Y) ?F (fun _ _ a ns hl _ hS => ⟨a, ns, rfl, hS, hl, fun _ => rfl⟩) (fun _ _ _ _ _ h => h)
  case F =>
    intro w mg fa h KX G hmg
    refine' Tm.all_mk KX G hmg ?aC_Log ?pg_Log ?hd_Log ?po_Log ?sa_Log ?mk_Log ?kC_Log ?n_Log_since ?n_Log_settled ?n_Log_kept ?aC_Hand ?pg_Hand ?hd_Hand ?po_Hand ?sa_Hand ?mk_Hand ?kC_Hand ?n_Hand_number ?n_Hand_clock ?n_Hand_log ?a0 ?l0 ?c0 ?k0 ?a1 ?l1 ?c1 ?k1 ?a2 ?l2 ?c2 ?k2 ?a3 ?i3 ?l3 ?c3 ?k3 ?a4 ?i4 ?l4 ?c4 ?k4 ?a5 ?i5 ?l5 ?c5 ?k5 ?a6 ?i6 ?l6 ?c6 ?k6 ?a7 ?i7 ?l7 ?c7 ?k7 ?a8 ?i8 ?l8 ?c8 ?k8 ?a9 ?l9 ?c9 ?k9 ?a10 ?i10 ?l10 ?c10 ?k10 ?a11 ?i11 ?l11 ?c11 ?k11 ?a12 ?i12 ?l12 ?c12 ?k12 ?a13 ?i13 ?l13 ?c13 ?k13 ?a14 ?i14 ?l14 ?c14 ?k14 ?a15 ?l15 ?c15 ?k15 ?a16 ?l16 ?c16 ?k16 ?a17 ?l17 ?c17 ?k17 ?a18 ?l18 ?c18 ?k18 ?a19 ?l19 ?c19 ?k19 ?a20 ?l20 ?c20 ?k20 ?a21 ?l21 ?c21 ?k21 ?a22 ?l22 ?c22 ?k22 ?a23 ?l23 ?c23 ?k23 ?a24 ?l24 ?c24 ?k24 ?a25 ?l25 ?c25 ?k25 ?a26 ?l26 ?c26 ?k26 ?a27 ?l27 ?c27 ?k27 ?a28 ?l28 ?c28 ?k28 ?a29 ?l29 ?c29 ?k29 ?a30 ?l30 ?c30 ?k30 ?a31 ?l31 ?c31 ?k31 ?a32 ?l32 ?c32 ?k32 ?a33 ?l33 ?c33 ?k33 ?a34 ?l34 ?c34 ?k34 ?a35 ?l35 ?c35 ?k35 ?a36 ?l36 ?c36 ?k36 ?z0 ?z1 ?z2 ?z3 ?z4 ?z5 ?z6 ?z7 ?z8 ?z9 ?z10 ?z11 ?z12 ?gc_TreeError ?x_TreeError ?kc_TreeError ?bc_TreeError ?tc_TreeError ?e1_TreeError ?e2_TreeError ?e3_TreeError ?e4_TreeError ?e5_TreeError ?e6_TreeError ?e7_TreeError ?kv_TreeError ?gc_NoMove ?x_NoMove ?kc_NoMove ?bc_NoMove ?tc_NoMove ?e1_NoMove ?e2_NoMove ?e3_NoMove ?e4_NoMove ?e5_NoMove ?e6_NoMove ?e7_NoMove ?kv_NoMove ?gc_TooLate ?x_TooLate ?kc_TooLate ?bc_TooLate ?tc_TooLate ?e1_TooLate ?e2_TooLate ?e3_TooLate ?e4_TooLate ?e5_TooLate ?e6_TooLate ?e7_TooLate ?kv_TooLate ?gc_Clash ?x_Clash ?kc_Clash ?bc_Clash ?tc_Clash ?e1_Clash ?e2_Clash ?e3_Clash ?e4_Clash ?e5_Clash ?e6_Clash ?e7_Clash ?kv_Clash ?gc_NoHand ?x_NoHand ?kc_NoHand ?bc_NoHand ?tc_NoHand ?e1_NoHand ?e2_NoHand ?e3_NoHand ?e4_NoHand ?e5_NoHand ?e6_NoHand ?e7_NoHand ?kv_NoHand ?s_TreeError_TreeError ?s_TreeError_NoMove ?s_TreeError_TooLate ?s_TreeError_Clash ?s_TreeError_NoHand ?s_NoMove_TreeError ?s_NoMove_NoMove ?s_NoMove_TooLate ?s_NoMove_Clash ?s_NoMove_NoHand ?s_TooLate_TreeError ?s_TooLate_NoMove ?s_TooLate_TooLate ?s_TooLate_Clash ?s_TooLate_NoHand ?s_Clash_TreeError ?s_Clash_NoMove ?s_Clash_TooLate ?s_Clash_Clash ?s_Clash_NoHand ?s_NoHand_TreeError ?s_NoHand_NoMove ?s_NoHand_TooLate ?s_NoHand_Clash ?s_NoHand_NoHand ?v0
    (case aC_Log => k_is); (case pg_Log => k_is); (case hd_Log => k_is); (case po_Log => k_is); (case sa_Log => k_is); (case mk_Log => k_is)
    (case kC_Log => k_is); (case n_Log_since => k_is); (case n_Log_settled => k_is); (case n_Log_kept => k_is); (case aC_Hand => k_is); (case pg_Hand => k_is)
    (case hd_Hand => k_is); (case po_Hand => k_is); (case sa_Hand => k_is); (case mk_Hand => k_is); (case kC_Hand => k_is); (case n_Hand_number => k_is)
    (case n_Hand_clock => k_is); (case n_Hand_log => k_is); (case a0 => k_is); (case l0 => k_is); (case c0 => k_is); (case k0 => k_is)
    (case a1 => k_is); (case l1 => k_is); (case c1 => k_is); (case k1 => k_is); (case a2 => k_is); (case l2 => k_is)
    (case c2 => k_is); (case k2 => k_is); (case a3 => k_is); (case i3 => k_is); (case l3 => k_is); (case c3 => k_is)
    (case k3 => k_is); (case a4 => k_is); (case i4 => k_is); (case l4 => k_is); (case c4 => k_is); (case k4 => k_is)
    (case a5 => k_is); (case i5 => k_is); (case l5 => k_is); (case c5 => k_is); (case k5 => k_is); (case a6 => k_is)
    (case i6 => k_is); (case l6 => k_is); (case c6 => k_is); (case k6 => k_is); (case a7 => k_is); (case i7 => k_is)
    (case l7 => k_is); (case c7 => k_is); (case k7 => k_is); (case a8 => k_is); (case i8 => k_is); (case l8 => k_is)
    (case c8 => k_is); (case k8 => k_is); (case a9 => k_is); (case l9 => k_is); (case c9 => k_is); (case k9 => k_is)
    (case a10 => k_is); (case i10 => k_is); (case l10 => k_is); (case c10 => k_is); (case k10 => k_is); (case a11 => k_is)
    (case i11 => k_is); (case l11 => k_is); (case c11 => k_is); (case k11 => k_is); (case a12 => k_is); (case i12 => k_is)
    (case l12 => k_is); (case c12 => k_is); (case k12 => k_is); (case a13 => k_is); (case i13 => k_is); (case l13 => k_is)
    (case c13 => k_is); (case k13 => k_is); (case a14 => k_is); (case i14 => k_is); (case l14 => k_is); (case c14 => k_is)
    (case k14 => k_is); (case a15 => k_is); (case l15 => k_is); (case c15 => k_is); (case k15 => k_is); (case a16 => k_is)
    (case l16 => k_is); (case c16 => k_is); (case k16 => k_is); (case a17 => k_is); (case l17 => k_is); (case c17 => k_is)
    (case k17 => k_is); (case a18 => k_is); (case l18 => k_is); (case c18 => k_is); (case k18 => k_is); (case a19 => k_is)
    (case l19 => k_is); (case c19 => k_is); (case k19 => k_is); (case a20 => k_is); (case l20 => k_is); (case c20 => k_is)
    (case k20 => k_is); (case a21 => k_is); (case l21 => k_is); (case c21 => k_is); (case k21 => k_is); (case a22 => k_is)
    (case l22 => k_is); (case c22 => k_is); (case k22 => k_is); (case a23 => k_is); (case l23 => k_is); (case c23 => k_is)
    (case k23 => k_is); (case a24 => k_is); (case l24 => k_is); (case c24 => k_is); (case k24 => k_is); (case a25 => k_is)
    (case l25 => k_is); (case c25 => k_is); (case k25 => k_is); (case a26 => k_is); (case l26 => k_is); (case c26 => k_is)
    (case k26 => k_is); (case a27 => k_is); (case l27 => k_is); (case c27 => k_is); (case k27 => k_is); (case a28 => k_is)
    (case l28 => k_is); (case c28 => k_is); (case k28 => k_is); (case a29 => k_is); (case l29 => k_is); (case c29 => k_is)
    (case k29 => k_is); (case a30 => k_is); (case l30 => k_is); (case c30 => k_is); (case k30 => k_is); (case a31 => k_is)
    (case l31 => k_is); (case c31 => k_is); (case k31 => k_is); (case a32 => k_is); (case l32 => k_is); (case c32 => k_is)
    (case k32 => k_is); (case a33 => k_is); (case l33 => k_is); (case c33 => k_is); (case k33 => k_is); (case a34 => k_is)
    (case l34 => k_is); (case c34 => k_is); (case k34 => k_is); (case a35 => k_is); (case l35 => k_is); (case c35 => k_is)
    (case k35 => k_is); (case a36 => k_is); (case l36 => k_is); (case c36 => k_is); (case k36 => k_is); (case z0 => k_is)
    (case z1 => k_is); (case z2 => k_is); (case z3 => k_is); (case z4 => k_is); (case z5 => k_is); (case z6 => k_is)
    (case z7 => k_is); (case z8 => k_is); (case z9 => k_is); (case z10 => k_is); (case z11 => k_is); (case z12 => k_is)
    (case gc_TreeError => k_is); (case x_TreeError => k_exc); (case kc_TreeError => k_is); (case bc_TreeError => k_is); (case tc_TreeError => k_is); (case e1_TreeError => k_is)
    (case e2_TreeError => k_is); (case e3_TreeError => k_is); (case e4_TreeError => k_is); (case e5_TreeError => k_is); (case e6_TreeError => k_is); (case e7_TreeError => k_is)
    (case kv_TreeError => k_is); (case gc_NoMove => k_is); (case x_NoMove => k_exc); (case kc_NoMove => k_is); (case bc_NoMove => k_is); (case tc_NoMove => k_is)
    (case e1_NoMove => k_is); (case e2_NoMove => k_is); (case e3_NoMove => k_is); (case e4_NoMove => k_is); (case e5_NoMove => k_is); (case e6_NoMove => k_is)
    (case e7_NoMove => k_is); (case kv_NoMove => k_is); (case gc_TooLate => k_is); (case x_TooLate => k_exc); (case kc_TooLate => k_is); (case bc_TooLate => k_is)
    (case tc_TooLate => k_is); (case e1_TooLate => k_is); (case e2_TooLate => k_is); (case e3_TooLate => k_is); (case e4_TooLate => k_is); (case e5_TooLate => k_is)
    (case e6_TooLate => k_is); (case e7_TooLate => k_is); (case kv_TooLate => k_is); (case gc_Clash => k_is); (case x_Clash => k_exc); (case kc_Clash => k_is)
    (case bc_Clash => k_is); (case tc_Clash => k_is); (case e1_Clash => k_is); (case e2_Clash => k_is); (case e3_Clash => k_is); (case e4_Clash => k_is)
    (case e5_Clash => k_is); (case e6_Clash => k_is); (case e7_Clash => k_is); (case kv_Clash => k_is); (case gc_NoHand => k_is); (case x_NoHand => k_exc)
    (case kc_NoHand => k_is); (case bc_NoHand => k_is); (case tc_NoHand => k_is); (case e1_NoHand => k_is); (case e2_NoHand => k_is); (case e3_NoHand => k_is)
    (case e4_NoHand => k_is); (case e5_NoHand => k_is); (case e6_NoHand => k_is); (case e7_NoHand => k_is); (case kv_NoHand => k_is); (case s_TreeError_TreeError => first | rfl | k_is)
    (case s_TreeError_NoMove => first | rfl | k_is); (case s_TreeError_TooLate => first | rfl | k_is); (case s_TreeError_Clash => first | rfl | k_is); (case s_TreeError_NoHand => first | rfl | k_is); (case s_NoMove_TreeError => first | rfl | k_is); (case s_NoMove_NoMove => first | rfl | k_is)
    (case s_NoMove_TooLate => first | rfl | k_is); (case s_NoMove_Clash => first | rfl | k_is); (case s_NoMove_NoHand => first | rfl | k_is); (case s_TooLate_TreeError => first | rfl | k_is); (case s_TooLate_NoMove => first | rfl | k_is); (case s_TooLate_TooLate => first | rfl | k_is)
    (case s_TooLate_Clash => first | rfl | k_is); (case s_TooLate_NoHand => first | rfl | k_is); (case s_Clash_TreeError => first | rfl | k_is); (case s_Clash_NoMove => first | rfl | k_is); (case s_Clash_TooLate => first | rfl | k_is); (case s_Clash_Clash => first | rfl | k_is)
    (case s_Clash_NoHand => first | rfl | k_is); (case s_NoHand_TreeError => first | rfl | k_is); (case s_NoHand_NoMove => first | rfl | k_is); (case s_NoHand_TooLate => first | rfl | k_is); (case s_NoHand_Clash => first | rfl | k_is); (case s_NoHand_NoHand => first | rfl | k_is)
    (case v0 => k_is)
