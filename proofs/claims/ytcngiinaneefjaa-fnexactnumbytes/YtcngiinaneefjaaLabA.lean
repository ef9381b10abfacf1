/- The contracts of chapter 2's helpers: markInRange, labInRange, with. -/
import Derived.Test.YtcngiinaneefjaaBase
import Derived.Test.YtcngiinaneefjaaLabPure
import Derived.DeepKeys
import Derived.Laws.StructEq
namespace Go.Proofs.Ytcngiinaneefjaa
open Go.RowKit

theorem mput (m : Nat → Int) (l : LV) (k : Nat) (hk : k < 10) (e : l.k = (k : Int)) : (#[.int .i64 (m 0), .int .i64 (m 1), .int .i64 (m 2), .int .i64 (m 3), .int .i64 (m 4), .int .i64 (m 5), .int .i64 (m 6), .int .i64 (m 7), .int .i64 (m 8), .int .i64 (m 9)] : Array Value).setIfInBounds k (.int .i64 (l.v + 1)) = #[.int .i64 (mwith m l 0), .int .i64 (mwith m l 1), .int .i64 (mwith m l 2), .int .i64 (mwith m l 3), .int .i64 (mwith m l 4), .int .i64 (mwith m l 5), .int .i64 (mwith m l 6), .int .i64 (mwith m l 7), .int .i64 (mwith m l 8), .int .i64 (mwith m l 9)] := by
  match k, hk with
  | 0, _ => simp [mwith, e]
  | 1, _ => simp [mwith, e]
  | 2, _ => simp [mwith, e]
  | 3, _ => simp [mwith, e]
  | 4, _ => simp [mwith, e]
  | 5, _ => simp [mwith, e]
  | 6, _ => simp [mwith, e]
  | 7, _ => simp [mwith, e]
  | 8, _ => simp [mwith, e]
  | 9, _ => simp [mwith, e]
theorem mcell (m : Nat → Int) (k : Nat) (hk : k < 10) : (#[.int .i64 (m 0), .int .i64 (m 1), .int .i64 (m 2), .int .i64 (m 3), .int .i64 (m 4), .int .i64 (m 5), .int .i64 (m 6), .int .i64 (m 7), .int .i64 (m 8), .int .i64 (m 9)] : Array Value)[k]? = some (.int .i64 (m k)) := by
  match k, hk with
  | 0, _ => rfl
  | 1, _ => rfl
  | 2, _ => rfl
  | 3, _ => rfl
  | 4, _ => rfl
  | 5, _ => rfl
  | 6, _ => rfl
  | 7, _ => rfl
  | 8, _ => rfl
  | 9, _ => rfl
end Go.Proofs.Ytcngiinaneefjaa
