import Derived.Test.YtpdehdomilnmeaaGreatDoorM1
import Derived.Test.YtpdehdomilnmeaaGreatDoorLaid
import Derived.Test.YtpdehdomilnmeaaGreatDoorIs
import Derived.Test.YtpdehdomilnmeaaGreatDoorCross
namespace Go.Proofs.YtpdehdomilnmeaaGreatDoor
open Go.ChangeShapes Go.WideShapes Go.ChangeAt Go.RowKit
set_option maxRecDepth 100000
theorem mH {p:Prop} (h:p):Hid p:=h
abbrev vS (s:Sv):Value:=.agg #[.int .i64 s.1,.int .i64 s.2.1,.int .i64 s.2.2]
abbrev vT (t:Tk):Value:=.agg #[.int .i64 t.1,.int .i64 t.2.1,.int .i64 t.2.2.1,.int .i64 t.2.2.2]
abbrev vE (a:Addr):Value:=.iface 290 (.pointer (some a))
theorem check_ok (w:World) (s:Sv) (h:okS s):Calls Tryz.prog 101 #[vS s] w fun e w'=>e=.returned .nilIface/\Below w.heap.size w w':=by
 obtain⟨k,q,t⟩:=s
 obtain⟨h1,h2,h3,h4,h5⟩:=h
 simp only at h1 h2 h3 h4 h5
 go_enter Tryz.func101,Tryz.ntmps101
 go_wp2
 go_ret
 exact⟨rfl,ba (Below.refl _ _) _⟩
theorem check_no (w:World) (s:Sv) (h:¬ okS s) (a:Addr) (he:w.cell? ⟨9,0,none⟩=some (vE a)):Calls Tryz.prog 101 #[vS s] w fun e w'=>e=.returned (vE a)/\Below w.heap.size w w':=by
 obtain⟨k,q,t⟩:=s
 have hc:k < 1 ∨ (1<=k/\3 < k) ∨ ((1<=k/\k<=3)/\q < 1) ∨ ((1<=k/\k<=3)/\1<=q/\t < q) ∨ ((1<=k/\k<=3)/\1<=q/\q<=t/\256 < t):=by
  refine Decidable.byContradiction fun hn=>h ?_
  refine⟨?_, ?_, ?_, ?_, ?_⟩ <;> simp only <;> omega
 have hb:∀ o,(w.alloc o).cell? ⟨9,0,none⟩=some (vE a):=fun o=>kl he o
 clear h
 rcases hc with h1 | ⟨h1,h2⟩ | ⟨⟨h1,h2⟩,h3⟩ | ⟨⟨h1,h2⟩,h3,h4⟩ | ⟨⟨h1,h2⟩,h3,h4,h5⟩
 all_goals
  go_enter Tryz.func101,Tryz.ntmps101
  go_wp2
  go_ret
  exact⟨rfl,ba (Below.refl _ _) _⟩
theorem task_cases {t:Tk} (h:¬ okT t):t.1 < 1 ∨ (1<=t.1/\t.2.2.1 < t.1) ∨ (1<=t.1/\t.1<=t.2.2.1/\t.2.1 < t.2.2.1) ∨ (1<=t.1/\t.1<=t.2.2.1/\t.2.2.1<=t.2.1/\256 < t.2.1) ∨ (1<=t.1/\t.1<=t.2.2.1/\t.2.2.1<=t.2.1/\t.2.1<=256/\t.2.2.2 < 0) ∨ (1<=t.1/\t.1<=t.2.2.1/\t.2.2.1<=t.2.1/\t.2.1<=256/\0<=t.2.2.2/\¬ t.2.2.2<=t.1):=by
 refine Decidable.byContradiction fun hn=>h ?_
 refine⟨?_, ?_, ?_, ?_, ?_, ?_⟩ <;> omega
theorem legalTask_is (w:World) (t:Tk):Calls Tryz.prog 159 #[vT t] w fun e w'=>e=.returned (.bool (bT t))/\Below w.heap.size w w':=by
 by_cases h:okT t
 ·rw [bT_true h]
  obtain⟨c,p,d,s⟩:=t
  obtain⟨h1,h2,h3,h4,h5,h6⟩:=h
  simp only at h1 h2 h3 h4 h5 h6
  go_enter Tryz.func159,Tryz.ntmps159
  go_wp2
  go_ret
  exact⟨rfl,ba (Below.refl _ _) _⟩
 ·rw [bT_false h]
  have hc:=task_cases h
  clear h
  obtain⟨c,p,d,s⟩:=t
  simp only at hc
  rcases hc with h1 | ⟨h1,h2⟩ | ⟨h1,h2,h3⟩ | ⟨h1,h2,h3,h4⟩ | ⟨h1,h2,h3,h4,h5⟩ | ⟨h1,h2,h3,h4,h5,h6⟩
  all_goals
   go_enter Tryz.func159,Tryz.ntmps159
   go_wp2
   go_ret
   exact⟨rfl,ba (Below.refl _ _) _⟩
end Go.Proofs.YtpdehdomilnmeaaGreatDoor
