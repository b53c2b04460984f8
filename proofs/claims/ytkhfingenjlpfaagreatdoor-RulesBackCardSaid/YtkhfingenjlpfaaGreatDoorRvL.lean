/-
  The landed package rules answers what the premise says.
-/
import Derived.Test.YtkhfingenjlpfaaGreatDoorRvG
import Derived.Test.YtkhfingenjlpfaaGreatDoorRvH
namespace Go.Proofs.YtkhfingenjlpfaaGreatDoor.Ru
open Go.RowKit Ba

/-- The landed package rules. -/
theorem rlands : RLands where
  parse := fun s hs w hL => by
    by_cases h : 65536 < s.size
    · exact parse_big s h hs w
    · exact parse_small s (by omega) w hL
  print := fun v l off hl hf _ w hL hv => print_at' v l off hl hf w hL hv
  may := fun x hf h1 h2 w hL => may_at x hf.2.2.2.1 hf.2.2.2.2.1 (by omega) (by omega) _ rfl w hL
  sign := fun v l off s hl hf _ _ w _ hv => sign_at v l off s hl hf w hv
  mark := fun v l off c hl hf hc _ w _ hv => mark_at v l off c hl hf hc w hv
  digit := fun v l off c hl hf hc _ w _ hv => digit_at v l off c hl hf hc w hv
  names := fun w hL => names_at w hL
end Go.Proofs.YtkhfingenjlpfaaGreatDoor.Ru
