/-
  WALKS of the book: one row of labels more; the book's look at all it has comes behind.
-/
import Derived.Test.YtiolghcjndoigaaGreatDoorBokL
namespace Go.Proofs.YtiolghcjndoigaaGreatDoor
open Go.RowKit Go.PlainAid
set_option maxRecDepth 100000
theorem none_Texts (w : World) : Calls Tryz.prog 59 #[.slice none 0 0] w fun e w' => e = .returned (.bool true) ∧ w = w' := by
  go_enter Tryz.func59, Tryz.ntmps59
  go_wp2
  go_loop [3] (fun i => i = .int .i64 0) (fun _ => 0)
  case atStart => rfl
  case round =>
    obtain rfl := hrel
    go_wp2
    go_loop [6] (fun i => i = .int .i64 0) (fun _ => 0)
    case atStart => rfl
    case round =>
      obtain rfl := hrel
      go_wp2
      go_loop [9] (fun i => i = .int .i64 0) (fun _ => 0)
      case atStart => rfl
      case round =>
        obtain rfl := hrel
        go_wp2
        go_ret
        exact ⟨rfl, rfl⟩
theorem none_Ints (w : World) : Calls Tryz.prog 60 #[.slice none 0 0] w fun e w' => e = .returned (.bool true) ∧ w = w' := by
  go_enter Tryz.func60, Tryz.ntmps60
  go_wp2
  go_loop [3] (fun i => i = .int .i64 0) (fun _ => 0)
  case atStart => rfl
  case round =>
    obtain rfl := hrel
    go_wp2
    go_loop [6] (fun i => i = .int .i64 0) (fun _ => 0)
    case atStart => rfl
    case round =>
      obtain rfl := hrel
      go_wp2
      go_loop [9] (fun i => i = .int .i64 0) (fun _ => 0)
      case atStart => rfl
      case round =>
        obtain rfl := hrel
        go_wp2
        go_ret
        exact ⟨rfl, rfl⟩
theorem none_Longs (w : World) : Calls Tryz.prog 61 #[.slice none 0 0] w fun e w' => e = .returned (.bool true) ∧ w = w' := by
  go_enter Tryz.func61, Tryz.ntmps61
  go_wp2
  go_loop [3] (fun i => i = .int .i64 0) (fun _ => 0)
  case atStart => rfl
  case round =>
    obtain rfl := hrel
    go_wp2
    go_loop [6] (fun i => i = .int .i64 0) (fun _ => 0)
    case atStart => rfl
    case round =>
      obtain rfl := hrel
      go_wp2
      go_loop [9] (fun i => i = .int .i64 0) (fun _ => 0)
      case atStart => rfl
      case round =>
        obtain rfl := hrel
        go_wp2
        go_ret
        exact ⟨rfl, rfl⟩
theorem none_Numbers (w : World) : Calls Tryz.prog 62 #[.slice none 0 0] w fun e w' => e = .returned (.bool true) ∧ w = w' := by
  go_enter Tryz.func62, Tryz.ntmps62
  go_wp2
  go_loop [3] (fun i => i = .int .i64 0) (fun _ => 0)
  case atStart => rfl
  case round =>
    obtain rfl := hrel
    go_wp2
    go_loop [6] (fun i => i = .int .i64 0) (fun _ => 0)
    case atStart => rfl
    case round =>
      obtain rfl := hrel
      go_wp2
      go_loop [9] (fun i => i = .int .i64 0) (fun _ => 0)
      case atStart => rfl
      case round =>
        obtain rfl := hrel
        go_wp2
        go_ret
        exact ⟨rfl, rfl⟩
theorem none_Nums (w : World) : Calls Tryz.prog 63 #[.slice none 0 0] w fun e w' => e = .returned (.bool true) ∧ w = w' := by
  go_enter Tryz.func63, Tryz.ntmps63
  go_wp2
  go_loop [3] (fun i => i = .int .i64 0) (fun _ => 0)
  case atStart => rfl
  case round =>
    obtain rfl := hrel
    go_wp2
    go_loop [6] (fun i => i = .int .i64 0) (fun _ => 0)
    case atStart => rfl
    case round =>
      obtain rfl := hrel
      go_wp2
      go_loop [9] (fun i => i = .int .i64 0) (fun _ => 0)
      case atStart => rfl
      case round =>
        obtain rfl := hrel
        go_wp2
        go_ret
        exact ⟨rfl, rfl⟩
theorem none_Words (w : World) : Calls Tryz.prog 64 #[.slice none 0 0] w fun e w' => e = .returned (.bool true) ∧ w = w' := by
  go_enter Tryz.func64, Tryz.ntmps64
  go_wp2
  go_loop [3] (fun i => i = .int .i64 0) (fun _ => 0)
  case atStart => rfl
  case round =>
    obtain rfl := hrel
    go_wp2
    go_loop [6] (fun i => i = .int .i64 0) (fun _ => 0)
    case atStart => rfl
    case round =>
      obtain rfl := hrel
      go_wp2
      go_loop [9] (fun i => i = .int .i64 0) (fun _ => 0)
      case atStart => rfl
      case round =>
        obtain rfl := hrel
        go_wp2
        go_ret
        exact ⟨rfl, rfl⟩
theorem none_Types (w : World) : Calls Tryz.prog 65 #[.slice none 0 0] w fun e w' => e = .returned (.bool true) ∧ w = w' := by
  go_enter Tryz.func65, Tryz.ntmps65
  go_wp2
  go_loop [3] (fun i => i = .int .i64 0) (fun _ => 0)
  case atStart => rfl
  case round =>
    obtain rfl := hrel
    go_wp2
    go_loop [6] (fun i => i = .int .i64 0) (fun _ => 0)
    case atStart => rfl
    case round =>
      obtain rfl := hrel
      go_wp2
      go_loop [9] (fun i => i = .int .i64 0) (fun _ => 0)
      case atStart => rfl
      case round =>
        obtain rfl := hrel
        go_wp2
        go_ret
        exact ⟨rfl, rfl⟩
theorem none_Errs (w : World) : Calls Tryz.prog 66 #[.slice none 0 0] w fun e w' => e = .returned (.bool true) ∧ w = w' := by
  go_enter Tryz.func66, Tryz.ntmps66
  go_wp2
  go_loop [3] (fun i => i = .int .i64 0) (fun _ => 0)
  case atStart => rfl
  case round =>
    obtain rfl := hrel
    go_wp2
    go_loop [6] (fun i => i = .int .i64 0) (fun _ => 0)
    case atStart => rfl
    case round =>
      obtain rfl := hrel
      go_wp2
      go_loop [9] (fun i => i = .int .i64 0) (fun _ => 0)
      case atStart => rfl
      case round =>
        obtain rfl := hrel
        go_wp2
        go_ret
        exact ⟨rfl, rfl⟩
theorem none_Labels (w : World) : Calls Tryz.prog 67 #[.slice none 0 0] w fun e w' => e = .returned (.bool true) ∧ w = w' := by
  go_enter Tryz.func67, Tryz.ntmps67
  go_wp2
  go_loop [3] (fun i => i = .int .i64 0) (fun _ => 0)
  case atStart => rfl
  case round =>
    obtain rfl := hrel
    go_wp2
    go_loop [6] (fun i => i = .int .i64 0) (fun _ => 0)
    case atStart => rfl
    case round =>
      obtain rfl := hrel
      go_wp2
      go_loop [9] (fun i => i = .int .i64 0) (fun _ => 0)
      case atStart => rfl
      case round =>
        obtain rfl := hrel
        go_wp2
        go_ret
        exact ⟨rfl, rfl⟩
theorem none_Samples (w : World) : Calls Tryz.prog 68 #[.slice none 0 0] w fun e w' => e = .returned (.bool true) ∧ w = w' := by
  go_enter Tryz.func68, Tryz.ntmps68
  go_wp2
  go_loop [3] (fun i => i = .int .i64 0) (fun _ => 0)
  case atStart => rfl
  case round =>
    obtain rfl := hrel
    go_wp2
    go_loop [6] (fun i => i = .int .i64 0) (fun _ => 0)
    case atStart => rfl
    case round =>
      obtain rfl := hrel
      go_wp2
      go_loop [9] (fun i => i = .int .i64 0) (fun _ => 0)
      case atStart => rfl
      case round =>
        obtain rfl := hrel
        go_wp2
        go_ret
        exact ⟨rfl, rfl⟩
theorem none_Matchers (w : World) : Calls Tryz.prog 69 #[.slice none 0 0] w fun e w' => e = .returned (.bool true) ∧ w = w' := by
  go_enter Tryz.func69, Tryz.ntmps69
  go_wp2
  go_loop [3] (fun i => i = .int .i64 0) (fun _ => 0)
  case atStart => rfl
  case round =>
    obtain rfl := hrel
    go_wp2
    go_loop [6] (fun i => i = .int .i64 0) (fun _ => 0)
    case atStart => rfl
    case round =>
      obtain rfl := hrel
      go_wp2
      go_loop [9] (fun i => i = .int .i64 0) (fun _ => 0)
      case atStart => rfl
      case round =>
        obtain rfl := hrel
        go_wp2
        go_ret
        exact ⟨rfl, rfl⟩
theorem none_Intervals (w : World) : Calls Tryz.prog 70 #[.slice none 0 0] w fun e w' => e = .returned (.bool true) ∧ w = w' := by
  go_enter Tryz.func70, Tryz.ntmps70
  go_wp2
  go_loop [3] (fun i => i = .int .i64 0) (fun _ => 0)
  case atStart => rfl
  case round =>
    obtain rfl := hrel
    go_wp2
    go_loop [6] (fun i => i = .int .i64 0) (fun _ => 0)
    case atStart => rfl
    case round =>
      obtain rfl := hrel
      go_wp2
      go_loop [9] (fun i => i = .int .i64 0) (fun _ => 0)
      case atStart => rfl
      case round =>
        obtain rfl := hrel
        go_wp2
        go_ret
        exact ⟨rfl, rfl⟩
theorem none_Places (w : World) : Calls Tryz.prog 71 #[.slice none 0 0] w fun e w' => e = .returned (.bool true) ∧ w = w' := by
  go_enter Tryz.func71, Tryz.ntmps71
  go_wp2
  go_loop [3] (fun i => i = .int .i64 0) (fun _ => 0)
  case atStart => rfl
  case round =>
    obtain rfl := hrel
    go_wp2
    go_loop [6] (fun i => i = .int .i64 0) (fun _ => 0)
    case atStart => rfl
    case round =>
      obtain rfl := hrel
      go_wp2
      go_loop [9] (fun i => i = .int .i64 0) (fun _ => 0)
      case atStart => rfl
      case round =>
        obtain rfl := hrel
        go_wp2
        go_ret
        exact ⟨rfl, rfl⟩
theorem none_Metas (w : World) : Calls Tryz.prog 72 #[.slice none 0 0] w fun e w' => e = .returned (.bool true) ∧ w = w' := by
  go_enter Tryz.func72, Tryz.ntmps72
  go_wp2
  go_loop [3] (fun i => i = .int .i64 0) (fun _ => 0)
  case atStart => rfl
  case round =>
    obtain rfl := hrel
    go_wp2
    go_loop [6] (fun i => i = .int .i64 0) (fun _ => 0)
    case atStart => rfl
    case round =>
      obtain rfl := hrel
      go_wp2
      go_loop [9] (fun i => i = .int .i64 0) (fun _ => 0)
      case atStart => rfl
      case round =>
        obtain rfl := hrel
        go_wp2
        go_ret
        exact ⟨rfl, rfl⟩
theorem none_Files (w : World) : Calls Tryz.prog 73 #[.slice none 0 0] w fun e w' => e = .returned (.bool true) ∧ w = w' := by
  go_enter Tryz.func73, Tryz.ntmps73
  go_wp2
  go_loop [3] (fun i => i = .int .i64 0) (fun _ => 0)
  case atStart => rfl
  case round =>
    obtain rfl := hrel
    go_wp2
    go_loop [6] (fun i => i = .int .i64 0) (fun _ => 0)
    case atStart => rfl
    case round =>
      obtain rfl := hrel
      go_wp2
      go_loop [9] (fun i => i = .int .i64 0) (fun _ => 0)
      case atStart => rfl
      case round =>
        obtain rfl := hrel
        go_wp2
        go_ret
        exact ⟨rfl, rfl⟩
end Go.Proofs.YtiolghcjndoigaaGreatDoor
namespace Go.Proofs.YtiolghcjndoigaaGreatDoor
open Go.RowKit Go.PlainAid
set_option maxRecDepth 100000
theorem none_Tokens (w : World) : Calls Tryz.prog 74 #[.slice none 0 0] w fun e w' => e = .returned (.bool true) ∧ w = w' := by
  go_enter Tryz.func74, Tryz.ntmps74
  go_wp2
  go_loop [3] (fun i => i = .int .i64 0) (fun _ => 0)
  case atStart => rfl
  case round =>
    obtain rfl := hrel
    go_wp2
    go_loop [6] (fun i => i = .int .i64 0) (fun _ => 0)
    case atStart => rfl
    case round =>
      obtain rfl := hrel
      go_wp2
      go_loop [9] (fun i => i = .int .i64 0) (fun _ => 0)
      case atStart => rfl
      case round =>
        obtain rfl := hrel
        go_wp2
        go_ret
        exact ⟨rfl, rfl⟩
theorem none_Sets (w : World) : Calls Tryz.prog 75 #[.slice none 0 0] w fun e w' => e = .returned (.bool true) ∧ w = w' := by
  go_enter Tryz.func75, Tryz.ntmps75
  go_wp2
  go_loop [3] (fun i => i = .int .i64 0) (fun _ => 0)
  case atStart => rfl
  case round =>
    obtain rfl := hrel
    go_wp2
    go_loop [6] (fun i => i = .int .i64 0) (fun _ => 0)
    case atStart => rfl
    case round =>
      obtain rfl := hrel
      go_wp2
      go_loop [9] (fun i => i = .int .i64 0) (fun _ => 0)
      case atStart => rfl
      case round =>
        obtain rfl := hrel
        go_wp2
        go_ret
        exact ⟨rfl, rfl⟩
theorem none_Rows (w : World) : Calls Tryz.prog 76 #[.slice none 0 0] w fun e w' => e = .returned (.bool true) ∧ w = w' := by
  go_enter Tryz.func76, Tryz.ntmps76
  go_wp2
  go_loop [3] (fun i => i = .int .i64 0) (fun _ => 0)
  case atStart => rfl
  case round =>
    obtain rfl := hrel
    go_wp2
    go_loop [6] (fun i => i = .int .i64 0) (fun _ => 0)
    case atStart => rfl
    case round =>
      obtain rfl := hrel
      go_wp2
      go_loop [9] (fun i => i = .int .i64 0) (fun _ => 0)
      case atStart => rfl
      case round =>
        obtain rfl := hrel
        go_wp2
        go_ret
        exact ⟨rfl, rfl⟩
theorem none_Lists (w : World) : Calls Tryz.prog 77 #[.slice none 0 0] w fun e w' => e = .returned (.bool true) ∧ w = w' := by
  go_enter Tryz.func77, Tryz.ntmps77
  go_wp2
  go_loop [3] (fun i => i = .int .i64 0) (fun _ => 0)
  case atStart => rfl
  case round =>
    obtain rfl := hrel
    go_wp2
    go_loop [6] (fun i => i = .int .i64 0) (fun _ => 0)
    case atStart => rfl
    case round =>
      obtain rfl := hrel
      go_wp2
      go_loop [9] (fun i => i = .int .i64 0) (fun _ => 0)
      case atStart => rfl
      case round =>
        obtain rfl := hrel
        go_wp2
        go_ret
        exact ⟨rfl, rfl⟩
theorem none_IntLists (w : World) : Calls Tryz.prog 78 #[.slice none 0 0] w fun e w' => e = .returned (.bool true) ∧ w = w' := by
  go_enter Tryz.func78, Tryz.ntmps78
  go_wp2
  go_loop [3] (fun i => i = .int .i64 0) (fun _ => 0)
  case atStart => rfl
  case round =>
    obtain rfl := hrel
    go_wp2
    go_loop [6] (fun i => i = .int .i64 0) (fun _ => 0)
    case atStart => rfl
    case round =>
      obtain rfl := hrel
      go_wp2
      go_loop [9] (fun i => i = .int .i64 0) (fun _ => 0)
      case atStart => rfl
      case round =>
        obtain rfl := hrel
        go_wp2
        go_ret
        exact ⟨rfl, rfl⟩
theorem none_Elems (w : World) : Calls Tryz.prog 79 #[.slice none 0 0] w fun e w' => e = .returned (.bool true) ∧ w = w' := by
  go_enter Tryz.func79, Tryz.ntmps79
  go_wp2
  go_loop [3] (fun i => i = .int .i64 0) (fun _ => 0)
  case atStart => rfl
  case round =>
    obtain rfl := hrel
    go_wp2
    go_loop [6] (fun i => i = .int .i64 0) (fun _ => 0)
    case atStart => rfl
    case round =>
      obtain rfl := hrel
      go_wp2
      go_loop [9] (fun i => i = .int .i64 0) (fun _ => 0)
      case atStart => rfl
      case round =>
        obtain rfl := hrel
        go_wp2
        go_ret
        exact ⟨rfl, rfl⟩
theorem none_Series (w : World) : Calls Tryz.prog 80 #[.slice none 0 0] w fun e w' => e = .returned (.bool true) ∧ w = w' := by
  go_enter Tryz.func80, Tryz.ntmps80
  go_wp2
  go_loop [3] (fun i => i = .int .i64 0) (fun _ => 0)
  case atStart => rfl
  case round =>
    obtain rfl := hrel
    go_wp2
    go_loop [6] (fun i => i = .int .i64 0) (fun _ => 0)
    case atStart => rfl
    case round =>
      obtain rfl := hrel
      go_wp2
      go_loop [9] (fun i => i = .int .i64 0) (fun _ => 0)
      case atStart => rfl
      case round =>
        obtain rfl := hrel
        go_wp2
        go_ret
        exact ⟨rfl, rfl⟩
theorem none_Puts (w : World) : Calls Tryz.prog 81 #[.slice none 0 0] w fun e w' => e = .returned (.bool true) ∧ w = w' := by
  go_enter Tryz.func81, Tryz.ntmps81
  go_wp2
  go_loop [3] (fun i => i = .int .i64 0) (fun _ => 0)
  case atStart => rfl
  case round =>
    obtain rfl := hrel
    go_wp2
    go_loop [6] (fun i => i = .int .i64 0) (fun _ => 0)
    case atStart => rfl
    case round =>
      obtain rfl := hrel
      go_wp2
      go_loop [9] (fun i => i = .int .i64 0) (fun _ => 0)
      case atStart => rfl
      case round =>
        obtain rfl := hrel
        go_wp2
        go_ret
        exact ⟨rfl, rfl⟩
theorem none_Lasts (w : World) : Calls Tryz.prog 82 #[.slice none 0 0] w fun e w' => e = .returned (.bool true) ∧ w = w' := by
  go_enter Tryz.func82, Tryz.ntmps82
  go_wp2
  go_loop [3] (fun i => i = .int .i64 0) (fun _ => 0)
  case atStart => rfl
  case round =>
    obtain rfl := hrel
    go_wp2
    go_loop [6] (fun i => i = .int .i64 0) (fun _ => 0)
    case atStart => rfl
    case round =>
      obtain rfl := hrel
      go_wp2
      go_loop [9] (fun i => i = .int .i64 0) (fun _ => 0)
      case atStart => rfl
      case round =>
        obtain rfl := hrel
        go_wp2
        go_ret
        exact ⟨rfl, rfl⟩
theorem none_Tombs (w : World) : Calls Tryz.prog 83 #[.slice none 0 0] w fun e w' => e = .returned (.bool true) ∧ w = w' := by
  go_enter Tryz.func83, Tryz.ntmps83
  go_wp2
  go_loop [3] (fun i => i = .int .i64 0) (fun _ => 0)
  case atStart => rfl
  case round =>
    obtain rfl := hrel
    go_wp2
    go_loop [6] (fun i => i = .int .i64 0) (fun _ => 0)
    case atStart => rfl
    case round =>
      obtain rfl := hrel
      go_wp2
      go_loop [9] (fun i => i = .int .i64 0) (fun _ => 0)
      case atStart => rfl
      case round =>
        obtain rfl := hrel
        go_wp2
        go_ret
        exact ⟨rfl, rfl⟩
theorem none_Chunks (w : World) : Calls Tryz.prog 84 #[.slice none 0 0] w fun e w' => e = .returned (.bool true) ∧ w = w' := by
  go_enter Tryz.func84, Tryz.ntmps84
  go_wp2
  go_loop [3] (fun i => i = .int .i64 0) (fun _ => 0)
  case atStart => rfl
  case round =>
    obtain rfl := hrel
    go_wp2
    go_loop [6] (fun i => i = .int .i64 0) (fun _ => 0)
    case atStart => rfl
    case round =>
      obtain rfl := hrel
      go_wp2
      go_loop [9] (fun i => i = .int .i64 0) (fun _ => 0)
      case atStart => rfl
      case round =>
        obtain rfl := hrel
        go_wp2
        go_ret
        exact ⟨rfl, rfl⟩
theorem none_Entries (w : World) : Calls Tryz.prog 85 #[.slice none 0 0] w fun e w' => e = .returned (.bool true) ∧ w = w' := by
  go_enter Tryz.func85, Tryz.ntmps85
  go_wp2
  go_loop [3] (fun i => i = .int .i64 0) (fun _ => 0)
  case atStart => rfl
  case round =>
    obtain rfl := hrel
    go_wp2
    go_loop [6] (fun i => i = .int .i64 0) (fun _ => 0)
    case atStart => rfl
    case round =>
      obtain rfl := hrel
      go_wp2
      go_loop [9] (fun i => i = .int .i64 0) (fun _ => 0)
      case atStart => rfl
      case round =>
        obtain rfl := hrel
        go_wp2
        go_ret
        exact ⟨rfl, rfl⟩
theorem none_Mutations (w : World) : Calls Tryz.prog 86 #[.slice none 0 0] w fun e w' => e = .returned (.bool true) ∧ w = w' := by
  go_enter Tryz.func86, Tryz.ntmps86
  go_wp2
  go_loop [3] (fun i => i = .int .i64 0) (fun _ => 0)
  case atStart => rfl
  case round =>
    obtain rfl := hrel
    go_wp2
    go_loop [6] (fun i => i = .int .i64 0) (fun _ => 0)
    case atStart => rfl
    case round =>
      obtain rfl := hrel
      go_wp2
      go_loop [9] (fun i => i = .int .i64 0) (fun _ => 0)
      case atStart => rfl
      case round =>
        obtain rfl := hrel
        go_wp2
        go_ret
        exact ⟨rfl, rfl⟩
theorem none_Nodes (w : World) : Calls Tryz.prog 88 #[.slice none 0 0] w fun e w' => e = .returned (.bool true) ∧ w = w' := by
  go_enter Tryz.func88, Tryz.ntmps88
  go_wp2
  go_loop [3] (fun i => i = .int .i64 0) (fun _ => 0)
  case atStart => rfl
  case round =>
    obtain rfl := hrel
    go_wp2
    go_loop [6] (fun i => i = .int .i64 0) (fun _ => 0)
    case atStart => rfl
    case round =>
      obtain rfl := hrel
      go_wp2
      go_loop [9] (fun i => i = .int .i64 0) (fun _ => 0)
      case atStart => rfl
      case round =>
        obtain rfl := hrel
        go_wp2
        go_ret
        exact ⟨rfl, rfl⟩
theorem none_Jsons (w : World) : Calls Tryz.prog 89 #[.slice none 0 0] w fun e w' => e = .returned (.bool true) ∧ w = w' := by
  go_enter Tryz.func89, Tryz.ntmps89
  go_wp2
  go_loop [3] (fun i => i = .int .i64 0) (fun _ => 0)
  case atStart => rfl
  case round =>
    obtain rfl := hrel
    go_wp2
    go_loop [6] (fun i => i = .int .i64 0) (fun _ => 0)
    case atStart => rfl
    case round =>
      obtain rfl := hrel
      go_wp2
      go_loop [9] (fun i => i = .int .i64 0) (fun _ => 0)
      case atStart => rfl
      case round =>
        obtain rfl := hrel
        go_wp2
        go_ret
        exact ⟨rfl, rfl⟩
end Go.Proofs.YtiolghcjndoigaaGreatDoor
namespace Go.Proofs.YtiolghcjndoigaaGreatDoor
set_option linter.unusedVariables false
set_option linter.unusedSimpArgs false
open Go.RowKit Go.PlainAid
set_option maxRecDepth 100000 in
theorem none_Bytes (w : World) : Calls Tryz.prog 58 #[.slice none 0 0] w fun e w' => e = .returned (.bool true) ∧ w = w' := by
  go_enter Tryz.func58, Tryz.ntmps58
  go_wp2
  go_loop [3] (fun i => i = .int .i64 0) (fun _ => 0)
  case atStart => rfl
  case round =>
    obtain rfl := hrel
    go_wp2
    go_loop [6] (fun i => i = .int .i64 0) (fun _ => 0)
    case atStart => rfl
    case round =>
      obtain rfl := hrel
      go_wp2
      go_loop [9] (fun i => i = .int .i64 0) (fun _ => 0)
      case atStart => rfl
      case round =>
        obtain rfl := hrel
        go_wp2
        go_ret
        exact ⟨rfl, rfl⟩
theorem infoBools : (Tryz.prog.info? 214).map (fun i => (i.zero, i.size, i.bytes)) = some (some (.slice none 0 0), 1, 24) := by kernel_rfl
set_option maxRecDepth 100000 in
set_option maxHeartbeats 1000000 in
theorem none_Bools (w : World) : Calls Tryz.prog 87 #[.slice none 0 0] w fun e w' => e = .returned (.bool true) ∧ Below w.heap.size w w' := by
  obtain ⟨i0, hi, hz0, hz1, hz2⟩ := info_parts infoBools
  go_enter Tryz.func87, Tryz.ntmps87
  go_wp2_with (at_make; refine wpList_make_own _ rfl _ _ 63 rfl w.heap.size 214 i0 (.slice none 0 0) 1 Tryz.underlying63 hi hz0 hz1 .i64 .i64 _ 0 rfl rfl (by rfl) (by omega) (by unfold maxLen; omega) (Nat.le_refl _) ?_; intro w1 hown1 hgr1)
  have HB := Lib.hid ((Below.refl _ w).grown hgr1 (Nat.le_refl _) (fun k hk => by cases hk))
  clear hown1 hgr1
  go_loop [4] (fun i => i = .int .i64 0) (fun _ => 0)
  case atStart => rfl
  case round =>
    obtain rfl := hrel
    go_wp2
    go_ret
    exact ⟨rfl, HB.out⟩
set_option maxRecDepth 100000 in
set_option maxHeartbeats 4000000 in
theorem bown_any (S : List Nat) (pb h n N : Nat) (X : Nat → Value) (L : Nat → Nat) (w : World) (H : Bk.BookAt 67 22 9 w pb h n X) (hpb : pb ∉ S) (P : Bk.Places N w.heap.size h X) (hR : ∃ C, Bk.Lots 94 2 w N X L C) (hn : n ≤ 1000) (hL : ∀ j, L j ≤ 1000000) (hz : ∀ j, n ≤ j → L j = 0) (hS : ∀ j g, (X j).ownBlock = some g → g ∈ S) :
    Calls Tryz.prog 22 #[.pointer (some ⟨pb, 0, none⟩)] w fun e w' => e = .returned (.bool true) ∧ Only S w w' := by
  obtain ⟨a, cap, hb, hO⟩ := H.outer
  have hpl := H.lt.1
  have BK := Lib.hid hb
  have HO := Lib.hid hO
  have HP := Lib.hid P
  have HR := Lib.hid hR
  have HL := Lib.hid hL
  have HZ := Lib.hid hz
  have HSS := Lib.hid hS
  clear H hb hO P hR hL hz hS
  go_enter Tryz.func22, Tryz.ntmps22
  have c0 : w.cell? ⟨pb, 0, none⟩ = some (.slice none 0 0) := Bk.bk_cell BK.out 0 (by decide) (by decide)
  go_wp2_with fail
  refine (none_Bytes _).mono ?_
  rintro e wx ⟨rfl, hww⟩
  subst hww
  clear c0
  have c1 : w.cell? ⟨pb, 1, none⟩ = some (.slice none 0 0) := Bk.bk_cell BK.out 1 (by decide) (by decide)
  go_wp2_with fail
  refine (none_Texts _).mono ?_
  rintro e wx ⟨rfl, hww⟩
  subst hww
  clear c1
  have c2 : w.cell? ⟨pb, 2, none⟩ = some (.slice none 0 0) := Bk.bk_cell BK.out 2 (by decide) (by decide)
  go_wp2_with fail
  refine (none_Ints _).mono ?_
  rintro e wx ⟨rfl, hww⟩
  subst hww
  clear c2
  have c3 : w.cell? ⟨pb, 3, none⟩ = some (.slice none 0 0) := Bk.bk_cell BK.out 3 (by decide) (by decide)
  go_wp2_with fail
  refine (none_Longs _).mono ?_
  rintro e wx ⟨rfl, hww⟩
  subst hww
  clear c3
  have c4 : w.cell? ⟨pb, 4, none⟩ = some (.slice none 0 0) := Bk.bk_cell BK.out 4 (by decide) (by decide)
  go_wp2_with fail
  refine (none_Numbers _).mono ?_
  rintro e wx ⟨rfl, hww⟩
  subst hww
  clear c4
  have c5 : w.cell? ⟨pb, 5, none⟩ = some (.slice none 0 0) := Bk.bk_cell BK.out 5 (by decide) (by decide)
  go_wp2_with fail
  refine (none_Nums _).mono ?_
  rintro e wx ⟨rfl, hww⟩
  subst hww
  clear c5
  have c6 : w.cell? ⟨pb, 6, none⟩ = some (.slice none 0 0) := Bk.bk_cell BK.out 6 (by decide) (by decide)
  go_wp2_with fail
  refine (none_Words _).mono ?_
  rintro e wx ⟨rfl, hww⟩
  subst hww
  clear c6
  have c7 : w.cell? ⟨pb, 7, none⟩ = some (.slice none 0 0) := Bk.bk_cell BK.out 7 (by decide) (by decide)
  go_wp2_with fail
  refine (none_Types _).mono ?_
  rintro e wx ⟨rfl, hww⟩
  subst hww
  clear c7
  have c8 : w.cell? ⟨pb, 8, none⟩ = some (.slice none 0 0) := Bk.bk_cell BK.out 8 (by decide) (by decide)
  go_wp2_with fail
  refine (none_Errs _).mono ?_
  rintro e wx ⟨rfl, hww⟩
  subst hww
  clear c8
  have c9 : w.cell? ⟨pb, 9, none⟩ = some (.slice a n cap) := Bk.bk_here BK.out (by decide)
  go_wp2_with fail
  refine (ownlabels_any S a h n cap N X L _ HP.out HO.out HR.out hn HL.out HZ.out HSS.out).mono ?_
  rintro e w1 ⟨rfl, hb1⟩
  have B1 := Lib.hid hb1
  replace BK := Lib.hid ((hb1.block pb hpl hpb).trans BK.out)
  have hpl1 := (Array.getElem?_eq_some_iff.1 BK.out).1
  clear hb1 c9
  have c10 : w1.cell? ⟨pb, 10, none⟩ = some (.slice none 0 0) := Bk.bk_cell BK.out 10 (by decide) (by decide)
  go_wp2_with fail
  refine (none_Samples _).mono ?_
  rintro e wx ⟨rfl, hww⟩
  subst hww
  clear c10
  have c11 : w1.cell? ⟨pb, 11, none⟩ = some (.slice none 0 0) := Bk.bk_cell BK.out 11 (by decide) (by decide)
  go_wp2_with fail
  refine (none_Matchers _).mono ?_
  rintro e wx ⟨rfl, hww⟩
  subst hww
  clear c11
  have c12 : w1.cell? ⟨pb, 12, none⟩ = some (.slice none 0 0) := Bk.bk_cell BK.out 12 (by decide) (by decide)
  go_wp2_with fail
  refine (none_Intervals _).mono ?_
  rintro e wx ⟨rfl, hww⟩
  subst hww
  clear c12
  have c13 : w1.cell? ⟨pb, 13, none⟩ = some (.slice none 0 0) := Bk.bk_cell BK.out 13 (by decide) (by decide)
  go_wp2_with fail
  refine (none_Places _).mono ?_
  rintro e wx ⟨rfl, hww⟩
  subst hww
  clear c13
  have c14 : w1.cell? ⟨pb, 14, none⟩ = some (.slice none 0 0) := Bk.bk_cell BK.out 14 (by decide) (by decide)
  go_wp2_with fail
  refine (none_Metas _).mono ?_
  rintro e wx ⟨rfl, hww⟩
  subst hww
  clear c14
  have c15 : w1.cell? ⟨pb, 15, none⟩ = some (.slice none 0 0) := Bk.bk_cell BK.out 15 (by decide) (by decide)
  go_wp2_with fail
  refine (none_Files _).mono ?_
  rintro e wx ⟨rfl, hww⟩
  subst hww
  clear c15
  have c16 : w1.cell? ⟨pb, 16, none⟩ = some (.slice none 0 0) := Bk.bk_cell BK.out 16 (by decide) (by decide)
  go_wp2_with fail
  refine (none_Tokens _).mono ?_
  rintro e wx ⟨rfl, hww⟩
  subst hww
  clear c16
  have c17 : w1.cell? ⟨pb, 17, none⟩ = some (.slice none 0 0) := Bk.bk_cell BK.out 17 (by decide) (by decide)
  go_wp2_with fail
  refine (none_Sets _).mono ?_
  rintro e wx ⟨rfl, hww⟩
  subst hww
  clear c17
  have c18 : w1.cell? ⟨pb, 18, none⟩ = some (.slice none 0 0) := Bk.bk_cell BK.out 18 (by decide) (by decide)
  go_wp2_with fail
  refine (none_Rows _).mono ?_
  rintro e wx ⟨rfl, hww⟩
  subst hww
  clear c18
  have c19 : w1.cell? ⟨pb, 19, none⟩ = some (.slice none 0 0) := Bk.bk_cell BK.out 19 (by decide) (by decide)
  go_wp2_with fail
  refine (none_Lists _).mono ?_
  rintro e wx ⟨rfl, hww⟩
  subst hww
  clear c19
  have c20 : w1.cell? ⟨pb, 20, none⟩ = some (.slice none 0 0) := Bk.bk_cell BK.out 20 (by decide) (by decide)
  go_wp2_with fail
  refine (none_IntLists _).mono ?_
  rintro e wx ⟨rfl, hww⟩
  subst hww
  clear c20
  have c21 : w1.cell? ⟨pb, 21, none⟩ = some (.slice none 0 0) := Bk.bk_cell BK.out 21 (by decide) (by decide)
  go_wp2_with fail
  refine (none_Elems _).mono ?_
  rintro e wx ⟨rfl, hww⟩
  subst hww
  clear c21
  have c22 : w1.cell? ⟨pb, 22, none⟩ = some (.slice none 0 0) := Bk.bk_cell BK.out 22 (by decide) (by decide)
  go_wp2_with fail
  refine (none_Series _).mono ?_
  rintro e wx ⟨rfl, hww⟩
  subst hww
  clear c22
  have c23 : w1.cell? ⟨pb, 23, none⟩ = some (.slice none 0 0) := Bk.bk_cell BK.out 23 (by decide) (by decide)
  go_wp2_with fail
  refine (none_Puts _).mono ?_
  rintro e wx ⟨rfl, hww⟩
  subst hww
  clear c23
  have c24 : w1.cell? ⟨pb, 24, none⟩ = some (.slice none 0 0) := Bk.bk_cell BK.out 24 (by decide) (by decide)
  go_wp2_with fail
  refine (none_Lasts _).mono ?_
  rintro e wx ⟨rfl, hww⟩
  subst hww
  clear c24
  have c25 : w1.cell? ⟨pb, 25, none⟩ = some (.slice none 0 0) := Bk.bk_cell BK.out 25 (by decide) (by decide)
  go_wp2_with fail
  refine (none_Tombs _).mono ?_
  rintro e wx ⟨rfl, hww⟩
  subst hww
  clear c25
  have c26 : w1.cell? ⟨pb, 26, none⟩ = some (.slice none 0 0) := Bk.bk_cell BK.out 26 (by decide) (by decide)
  go_wp2_with fail
  refine (none_Chunks _).mono ?_
  rintro e wx ⟨rfl, hww⟩
  subst hww
  clear c26
  have c27 : w1.cell? ⟨pb, 27, none⟩ = some (.slice none 0 0) := Bk.bk_cell BK.out 27 (by decide) (by decide)
  go_wp2_with fail
  refine (none_Entries _).mono ?_
  rintro e wx ⟨rfl, hww⟩
  subst hww
  clear c27
  have c28 : w1.cell? ⟨pb, 28, none⟩ = some (.slice none 0 0) := Bk.bk_cell BK.out 28 (by decide) (by decide)
  go_wp2_with fail
  refine (none_Mutations _).mono ?_
  rintro e wx ⟨rfl, hww⟩
  subst hww
  clear c28
  have c29 : w1.cell? ⟨pb, 29, none⟩ = some (.slice none 0 0) := Bk.bk_cell BK.out 29 (by decide) (by decide)
  go_wp2_with fail
  refine (none_Bools _).mono ?_
  rintro e w2 ⟨rfl, hb2⟩
  have B2 := Lib.hid (B1.out.trans (Only.of_below hb2 []) (by simp))
  replace BK := Lib.hid ((hb2.block pb hpl1).trans BK.out)
  clear hb2 c29
  have c30 : w2.cell? ⟨pb, 30, none⟩ = some (.slice none 0 0) := Bk.bk_cell BK.out 30 (by decide) (by decide)
  go_wp2_with fail
  refine (none_Nodes _).mono ?_
  rintro e wx ⟨rfl, hww⟩
  subst hww
  clear c30
  have c31 : w2.cell? ⟨pb, 31, none⟩ = some (.slice none 0 0) := Bk.bk_cell BK.out 31 (by decide) (by decide)
  go_wp2_with fail
  refine (none_Jsons _).mono ?_
  rintro e wx ⟨rfl, hww⟩
  subst hww
  clear c31
  go_wp2
  go_ret
  exact ⟨rfl, B2.out⟩
end Go.Proofs.YtiolghcjndoigaaGreatDoor
namespace Go.Proofs.YtiolghcjndoigaaGreatDoor
set_option linter.unusedVariables false
set_option linter.unusedSimpArgs false
open Go.RowKit Go.PlainAid
set_option maxRecDepth 100000 in
set_option maxHeartbeats 1000000 in
theorem booklabels_any (pb h n m cap : Nat) (a : Option Addr) (X : Nat → Value) (hX : X n = .slice a m cap) (w : World) (H : Bk.BookAt 67 22 9 w pb h n X) (hn : n ≤ 1000) :
    Calls Tryz.prog 17 #[.pointer (some ⟨pb, 0, none⟩), .slice a m cap] w fun e w' => e = .returned (.tuple #[]) ∧ Bk.BookPost 67 22 9 w pb h (n + 1) X w' := by
  obtain ⟨i0, hi, hz0, hz1, hz2⟩ := info_parts info22
  obtain ⟨v, h1, h2, rfl, h4⟩ := H
  obtain ⟨av, cv, rfl⟩ := Bk.owns_shape h2
  have c0 : w.cell? ⟨pb, 9, none⟩ = some (.slice av n cv) := Bk.bk_here h1 (by decide)
  have H1 := Lib.hid h1
  have H2 := Lib.hid h2
  have H4 := Lib.hid h4
  have HX := Lib.hid hX
  clear h1 h2 h4 hX
  go_enter Tryz.func17, Tryz.ntmps17
  go_wp2_with (at_builtin; refine Bk.wpList_append_goes _ rfl (.tmp 8) (.tmp 10) 43 rfl 22 i0 (.slice none 0 0) 1 24 Tryz.underlying43 hi hz0 hz1 hz2 rfl (by decide) (.slice av n cv) n ((List.range n).map X) rfl (H2.out.alloc _) ⟨w.heap.size, 0, none⟩ 1 1 [Value.slice a m cap] rfl rfl (one_any w _ 22) (by simp [Value.oneCell']) (by unfold maxLen; omega) (by omega) (by decide) ?_)
  intro v2 w2 hown2 hgo2
  obtain ⟨a2, c3, rfl⟩ := Bk.owns_shape hown2
  obtain ⟨hb2, hpost⟩ := Bk.BookAt.put (h := 0) HX.out H1.out H4.out hown2 hgo2
  have c2 : w2.cell? ⟨pb, 9, none⟩ = some (.slice av n cv) := Bk.bk_here hb2 (by decide)
  have f2 : w2.frozen? ⟨pb, 9, none⟩ = false := frozen_of_row _ _ _ _ _ hb2
  have HN := Lib.hid hpost
  clear hown2 hgo2 hb2 hpost
  go_wp2
  go_end0
  exact ⟨rfl, HN.out⟩
end Go.Proofs.YtiolghcjndoigaaGreatDoor
