import Derived.Test.YtpdehdomilnmeaaGreatDoorMath
namespace Go.Proofs.YtpdehdomilnmeaaGreatDoor
abbrev Sv:=Int × Int × Int
abbrev Tk:=Int × Int × Int × Int
def okS (s:Sv):Prop:=1<=s.1/\s.1<=3/\1<=s.2.1/\s.2.1<=s.2.2/\s.2.2<=256
def okT (t:Tk):Prop:=1<=t.1/\t.1<=t.2.2.1/\t.2.2.1<=t.2.1/\t.2.1<=256/\0<=t.2.2.2/\t.2.2.2<=t.1
def bT (t:Tk):Bool:=decide (1<=t.1/\t.1<=t.2.2.1/\t.2.2.1<=t.2.1/\t.2.1<=256/\0<=t.2.2.2/\t.2.2.2<=t.1)
theorem bT_true {t:Tk} (h:okT t):bT t=true:=decide_eq_true h
theorem bT_false {t:Tk} (h:¬ okT t):bT t=false:=decide_eq_false h
def qt (s:Sv):Int × Int:=(s.2.1,s.2.2)
def cp (t:Tk):Int × Int:=(t.1,t.2.1)
def okq (x:Int × Int):Prop:=1<=x.1/\x.1<=x.2/\x.2<=256
theorem okS.q {s:Sv} (h:okS s):okq (qt s):=⟨h.2.2.1,h.2.2.2.1,h.2.2.2.2⟩
theorem okT.q {t:Tk} (h:okT t):okq (cp t):=by obtain⟨h1,h2,h3,h4,_⟩:=h;exact⟨h1,by show t.1<=t.2.1;omega,h4⟩
def addp (p x:Int × Int):Int × Int:=(p.1 * x.2+p.2 * x.1,p.2 * x.2)
def sh (l:List (Int × Int)):Int × Int:=l.foldl addp (0,1)
theorem sh_snoc (l:List (Int × Int)) (x:Int × Int):sh (l ++ [x])=addp (sh l) x:=by simp [sh,List.foldl_append]
theorem addp_comm (p x y:Int × Int):addp (addp p x) y=addp (addp p y) x:=by
 obtain⟨n,d⟩:=p;obtain⟨a,b⟩:=x;obtain⟨c,e⟩:=y
 simp only [addp,Prod.mk.injEq]
 constructor <;> grind
theorem sh_perm {l l':List (Int × Int)} (h:l.Perm l'):sh l=sh l':=h.foldl_eq' (fun x _ y _ z=>addp_comm z x y) _
theorem snoc_ind {α:Type} {M:List α->Prop} (h0:M []) (h1:∀ l x,M l->M (l ++ [x])) (l:List α):M l:=by
 have:∀ r:List α,M r.reverse:=by
  intro r
  induction r with
  |nil=>simpa using h0
  |cons a r ih=>rw [List.reverse_cons];exact h1 _ _ ih
 simpa using this l.reverse
theorem sh_bounds (l:List (Int × Int)) (h:∀ x ∈ l,okq x):1<=(sh l).2/\(sh l).2<=256 ^ l.length/\0<=(sh l).1/\(sh l).1<=l.length * (sh l).2:=by
 revert h
 refine snoc_ind (M:=fun l=>(∀ x ∈ l,okq x)->1<=(sh l).2/\(sh l).2<=256 ^ l.length/\0<=(sh l).1/\(sh l).1<=l.length * (sh l).2) ?_ ?_ l
 ·intro _;simp [sh]
 ·intro l x ih h
  obtain⟨h1,h2,h3,h4⟩:=ih (fun y hy=>h y (by simp [hy]))
  obtain⟨x1,x2,x3⟩:=h x (by simp)
  rw [sh_snoc]
  obtain⟨a,b⟩:=x
  simp only at x1 x2 x3
  generalize sh l=p at *
  obtain⟨N,D⟩:=p
  simp only [addp] at *
  have hb:1<=b:=by omega
  refine⟨?_, ?_, ?_, ?_⟩
  ·have:=Int.mul_le_mul h1 hb (by omega) (by omega);omega
  ·rw [List.length_append,List.length_singleton,Int.pow_succ]
   exact Int.mul_le_mul h2 x3 (by omega) (Int.pow_nonneg (by decide))
  ·exact Int.add_nonneg (Int.mul_nonneg h3 (by omega)) (Int.mul_nonneg (by omega) (by omega))
  ·have e1:N * b<=(l.length * D) * b:=Int.mul_le_mul_of_nonneg_right h4 (by omega)
   have e2:D * a<=D * b:=Int.mul_le_mul_of_nonneg_left x2 (by omega)
   have e3:((l ++ [(a,b)]).length:Int) * (D * b)=(l.length * D) * b+D * b:=by
    rw [List.length_append,List.length_singleton]
    push_cast
    grind
   rw [e3]
   omega
theorem pow256 {n:Nat} (h:n<=8):(256:Int) ^ n<=18446744073709551616:=by
 have:n=0 ∨ n=1 ∨ n=2 ∨ n=3 ∨ n=4 ∨ n=5 ∨ n=6 ∨ n=7 ∨ n=8:=by omega
 rcases this with rfl | rfl | rfl | rfl | rfl | rfl | rfl | rfl | rfl <;> decide
theorem sh_fit (l:List (Int × Int)) (h:∀ x ∈ l,okq x) (hl:l.length<=8):1<=(sh l).2/\(sh l).2<=18446744073709551616/\0<=(sh l).1/\(sh l).1<=147573952589676412928:=by
 obtain⟨h1,h2,h3,h4⟩:=sh_bounds l h
 have:=pow256 hl
 have e:(l.length:Int) * (sh l).2<=8 * 18446744073709551616:=Int.mul_le_mul (by omega) (by omega) (by omega) (by decide)
 exact⟨h1,by omega,h3,by omega⟩
def sbF (d q m:Int):Int:=m / (d+q) * q+max 0 (m % (d+q) - d)
def sb (g d q l:Int):Int:=sbF d q (max 0 (l - g))
def sbAt (g d q i:Int):Bool:=decide (g<=i/\d<=(i - g) % (d+q))
def lsF (g d q x:Int):Int:=if x=0 then 0 else g+d+(x - 1) / q * (d+q)+(x - 1) % q+1
theorem dm {T m a r:Int} (h0:0<=r) (h1:r < T) (h:m=a * T+r):m / T=a/\m % T=r:=by
 subst h
 have hT:T ≠ 0:=by omega
 constructor
 ·rw [Int.add_comm,Int.add_mul_ediv_right _ _ hT,Int.ediv_eq_zero_of_lt h0 h1];omega
 ·rw [Int.add_comm,Int.add_mul_emod_self_right];exact Int.emod_eq_of_lt h0 h1
theorem sbF_at {d q m a r:Int} (h0:0<=r) (h1:r < d+q) (h:m=a * (d+q)+r):sbF d q m=a * q+max 0 (r - d):=by
 obtain⟨e1,e2⟩:=dm h0 h1 h
 unfold sbF;rw [e1,e2]
theorem parts {T:Int} (m:Int) (hT:1<=T):∃ a r,0<=r/\r < T/\m=a * T+r:=
 ⟨m / T,m % T,Int.emod_nonneg m (by omega),Int.emod_lt_of_pos m (by omega),by rw [Int.mul_comm];exact(Int.mul_ediv_add_emod m T).symm⟩
theorem parts0 {T:Int} (m:Int) (hT:1<=T) (hm:0<=m):∃ a r,0<=a/\0<=r/\r < T/\m=a * T+r:=
 ⟨m / T,m % T,Int.ediv_nonneg hm (by omega),Int.emod_nonneg m (by omega),Int.emod_lt_of_pos m (by omega),by rw [Int.mul_comm];exact(Int.mul_ediv_add_emod m T).symm⟩
theorem sbF_step {d q m:Int} (hd:0<=d) (hq:1<=q):sbF d q (m+1)=sbF d q m+if d<=m % (d+q) then 1 else 0:=by
 obtain⟨a,r,h0,h1,h2⟩:=parts m (show 1<=d+q by omega)
 rw [sbF_at h0 h1 h2,(dm h0 h1 h2).2]
 by_cases e:r+1=d+q
 ·have e1:(a+1) * (d+q)=a * (d+q)+(d+q):=by rw [Int.add_mul];omega
  have e2:(a+1) * q=a * q+q:=by rw [Int.add_mul];omega
  rw [sbF_at (a:=a+1) (r:=0) (by omega) (by omega) (by rw [e1];omega),e2]
  split <;> omega
 ·rw [sbF_at (a:=a) (r:=r+1) (by omega) (by omega) (by omega)]
  split <;> omega
theorem sbF_zero {d q:Int} (hd:0<=d) (_hq:1<=q):sbF d q 0=0:=by
 unfold sbF;rw [Int.zero_ediv,Int.zero_emod];omega
theorem sbF_mono {d q m:Int} (hd:0<=d) (hq:1<=q) (n:Nat):sbF d q m<=sbF d q (m+n):=by
 induction n with
 |zero=>simp
 |succ n ih=>
  have:=sbF_step (m:=m+n) hd hq
  have e:m+((n+1:Nat):Int)=m+n+1:=by omega
  rw [e,this];split <;> omega
theorem sbF_le {d q m n:Int} (hd:0<=d) (hq:1<=q) (h:m<=n):sbF d q m<=sbF d q n:=by
 have:=sbF_mono (m:=m) hd hq (n - m).toNat
 have e:m+((n - m).toNat:Int)=n:=by omega
 rwa [e] at this
theorem sb_zero {g d q:Int} (hg:0<=g) (hd:0<=d) (hq:1<=q):sb g d q 0=0:=by
 unfold sb;rw [show max 0 (0 - g)=0 by omega];exact sbF_zero hd hq
theorem sb_step {g d q l:Int} (hd:0<=d) (hq:1<=q):sb g d q (l+1)=sb g d q l+if sbAt g d q l then 1 else 0:=by
 unfold sb sbAt
 by_cases h:g<=l
 ·rw [show max 0 (l+1 - g)=l - g+1 by omega,show max 0 (l - g)=l - g by omega,sbF_step hd hq]
  simp [h]
 ·rw [show max 0 (l+1 - g)=0 by omega,show max 0 (l - g)=0 by omega]
  simp [h]
theorem sb_yes {g d q l:Int} (hd:0<=d) (hq:1<=q) (h:sbAt g d q l=true):sb g d q (l+1)=sb g d q l+1:=by rw [sb_step hd hq,h];rfl
theorem sb_le {g d q m n:Int} (hd:0<=d) (hq:1<=q) (h:m<=n):sb g d q m<=sb g d q n:=sbF_le hd hq (by omega)
theorem sb_small {g d q l:Int} (hd:0<=d) (hq:1<=q) (h:l<=g+d):sb g d q l=0:=by
 unfold sb
 rw [sbF_at (a:=0) (r:=max 0 (l - g)) (by omega) (by omega) (by omega)];omega
theorem sb_nonneg {g d q l:Int} (hg:0<=g) (hd:0<=d) (hq:1<=q):0<=sb g d q l:=by
 by_cases h:l<=g+d
 ·rw [sb_small hd hq h];omega
 ·have:=sb_le (g:=g) (m:=0) (n:=l) hd hq (by omega);rw [sb_zero hg hd hq] at this;exact this
theorem sb_line {g d q a:Int} (hd:0<=d) (hq:1<=q):q * (a - (g+d))<=sb g d q a * (d+q):=by
 by_cases h:a<=g+d
 ·rw [sb_small hd hq h]
  have:=Int.mul_nonneg (show 0<=q by omega) (show 0<=g+d - a by omega)
  have e:q * (g+d - a) = - (q * (a - (g+d))):=by rw [<- Int.mul_neg];congr 1;omega
  omega
 ·unfold sb
  rw [show max 0 (a - g)=a - g by omega]
  obtain⟨k,r,hk,h0,h1,h2⟩:=parts0 (a - g) (show 1<=d+q by omega) (by omega)
  rw [sbF_at h0 h1 h2]
  have e1:a - (g+d)=k * (d+q)+(r - d):=by omega
  have e2:q * (k * (d+q)+(r - d))=k * q * (d+q)+q * (r - d):=by rw [Int.mul_add,Int.mul_left_comm,Int.mul_assoc]
  have e3:(k * q+max 0 (r - d)) * (d+q)=k * q * (d+q)+max 0 (r - d) * (d+q):=Int.add_mul _ _ _
  rw [e1,e2,e3]
  by_cases c:d<=r
  ·rw [show max 0 (r - d)=r - d by omega]
   have e4:(r - d) * (d+q)=(r - d) * d+q * (r - d):=by rw [Int.mul_add,Int.mul_comm (r - d) q]
   have e5:=Int.mul_nonneg (show 0<=r - d by omega) hd
   omega
  ·rw [show max 0 (r - d)=0 by omega]
   have:=Int.mul_nonneg (show 0<=q by omega) (show 0<=d - r by omega)
   have e:q * (d - r) = - (q * (r - d)):=by rw [<- Int.mul_neg];congr 1;omega
   omega
theorem sb_whole {l:Int} (hl:0<=l):sb 0 0 1 l=l:=by
 unfold sb sbF
 rw [show max 0 (l - 0)=l by omega,show (0:Int)+1=1 by omega,Int.ediv_one,Int.emod_one];omega
theorem lsF_pos {g d q x:Int} (hx:1<=x) (hq:1<=q):∃ k r,0<=k/\0<=r/\r < q/\x - 1=k * q+r/\lsF g d q x=g+d+k * (d+q)+r+1:=by
 obtain⟨k,r,hk,h0,h1,h2⟩:=parts0 (x - 1) hq (by omega)
 refine⟨k,r,hk,h0,h1,h2, ?_⟩
 unfold lsF
 rw [if_neg (by omega),(dm h0 h1 h2).1,(dm h0 h1 h2).2]
theorem lsF_zero {g d q:Int}:lsF g d q 0=0:=rfl
theorem sb_lsF1 {g d q x:Int} (hd:0<=d) (hq:1<=q) (hx:1<=x):sb g d q (lsF g d q x - 1)=x - 1:=by
 obtain⟨k,r,hk,h0,h1,h2,h3⟩:=lsF_pos (g:=g) (d:=d) hx hq
 have hn:=Int.mul_nonneg hk (show 0<=d+q by omega)
 unfold sb
 rw [h3,sbF_at (a:=k) (r:=d+r) (by omega) (by omega) (by omega)];omega
theorem sb_lsF {g d q x:Int} (hg:0<=g) (hd:0<=d) (hq:1<=q) (hx:0<=x):sb g d q (lsF g d q x)=x:=by
 by_cases e:x=0
 ·subst e;exact sb_zero hg hd hq
 ·obtain⟨k,r,hk,h0,h1,h2,h3⟩:=lsF_pos (g:=g) (d:=d) (x:=x) (by omega) hq
  have hn:=Int.mul_nonneg hk (show 0<=d+q by omega)
  have k1:=sb_lsF1 (g:=g) hd hq (show 1<=x by omega)
  have k2:sbAt g d q (lsF g d q x - 1)=true:=by
   unfold sbAt
   rw [h3]
   refine decide_eq_true ⟨by omega, ?_⟩
   rw [(dm (T:=d+q) (a:=k) (r:=d+r) (by omega) (by omega) (by omega)).2];omega
  have k3:=sb_yes hd hq k2
  rw [show lsF g d q x - 1+1=lsF g d q x by omega] at k3
  omega
theorem lsF_ge {g d q x:Int} (hg:0<=g) (hd:0<=d) (hq:1<=q) (hx:0<=x):x<=lsF g d q x:=by
 by_cases e:x=0
 ·subst e;rw [lsF_zero];omega
 ·obtain⟨k,r,hk,h0,h1,h2,h3⟩:=lsF_pos (g:=g) (d:=d) (x:=x) (by omega) hq
  have e1:k * (d+q)=k * d+k * q:=Int.mul_add _ _ _
  have e2:=Int.mul_nonneg hk hd
  omega
theorem lsF_bound {g d q x:Int} (hd:0<=d) (hq:1<=q) (hg':g<=256) (hT:d+q<=256) (hx:0<=x) (M:Int) (hM:x<=M) (hM1:1<=M):lsF g d q x<=512+256 * M+M:=by
 by_cases e:x=0
 ·subst e;rw [lsF_zero];omega
 ·obtain⟨k,r,hk,h0,h1,h2,h3⟩:=lsF_pos (g:=g) (d:=d) (x:=x) (by omega) hq
  have e1:k * (d+q)<=k * 256:=Int.mul_le_mul_of_nonneg_left hT hk
  have e2:k * 1<=k * q:=Int.mul_le_mul_of_nonneg_left hq hk
  omega
def sdem (s:Sv) (l:Int):Int:=s.2.1 * (l / s.2.2)+(if s.1=3 then min s.2.1 (l % s.2.2) else 0)
def bgn (l p:Int):Int:=(l+p - 1) / p
def sreq (s:Sv) (l:Int):Int:=s.2.1 * bgn l s.2.2+(if s.1=3/\0 < l then s.2.1 else 0)
def tdem (t:Tk) (l:Int):Int:=if l < t.2.2.1 then 0 else t.1 * ((l - t.2.2.1) / t.2.1+1)
def treq (t:Tk) (l:Int):Int:=t.1 * bgn l t.2.1
def tot {α:Type} (f:α->Int) (xs:List α):Int:=(xs.map f).sum
theorem bgn_at {T l a r:Int} (h0:0<=r) (h1:r < T) (h:l=a * T+r):bgn l T=a+if r=0 then 0 else 1:=by
 unfold bgn
 by_cases e:r=0
 ·rw [if_pos e,(dm (a:=a) (r:=T - 1) (by omega) (by omega) (by omega)).1];omega
 ·rw [if_neg e,(dm (T:=T) (a:=a+1) (r:=r - 1) (by omega) (by omega) (by rw [Int.add_mul];omega)).1]
theorem sdem_at {k q T l a r:Int} (h0:0<=r) (h1:r < T) (h:l=a * T+r):sdem (k,q,T) l=q * a+if k=3 then min q r else 0:=by
 obtain⟨e1,e2⟩:=dm h0 h1 h
 simp only [sdem,e1,e2]
theorem sreq_at {k q T l a r:Int} (h0:0<=r) (h1:r < T) (h:l=a * T+r):sreq (k,q,T) l=q * a+(if r=0 then 0 else q)+if k=3/\0 < l then q else 0:=by
 simp only [sreq,bgn_at h0 h1 h]
 by_cases e:r=0
 ·simp [e]
 ·simp only [if_neg e];rw [Int.mul_add,Int.mul_one]
theorem sdem_bounds {s:Sv} (h:okS s) {l:Int} (hl:0<=l):0<=sdem s l/\sdem s l<=l:=by
 obtain⟨k,q,T⟩:=s
 obtain⟨h1,h2,h3,h4,h5⟩:=h
 simp only at h1 h2 h3 h4 h5
 obtain⟨a,r,ha,r0,r1,hm⟩:=parts0 (T:=T) l (by omega) hl
 rw [sdem_at r0 r1 hm]
 have e0:0<=q * a:=Int.mul_nonneg (by omega) ha
 have e1:q * a<=T * a:=Int.mul_le_mul_of_nonneg_right h4 ha
 rw [Int.mul_comm T a] at e1
 split <;> omega
theorem sreq_bounds {s:Sv} (h:okS s) {l:Int} (hl:0<=l):0<=sreq s l/\sreq s l<=l+512:=by
 obtain⟨k,q,T⟩:=s
 obtain⟨h1,h2,h3,h4,h5⟩:=h
 simp only at h1 h2 h3 h4 h5
 obtain⟨a,r,ha,r0,r1,hm⟩:=parts0 (T:=T) l (by omega) hl
 rw [sreq_at r0 r1 hm]
 have e0:0<=q * a:=Int.mul_nonneg (by omega) ha
 have e1:q * a<=T * a:=Int.mul_le_mul_of_nonneg_right h4 ha
 rw [Int.mul_comm T a] at e1
 split <;> split <;> omega
theorem tdem_bounds {t:Tk} (h:okT t) {l:Int} (_hl:0<=l):0<=tdem t l/\tdem t l<=l:=by
 obtain⟨c,p,d,s⟩:=t
 obtain⟨h1,h2,h3,h4,h5,h6⟩:=h
 simp only at h1 h2 h3 h4 h5 h6
 simp only [tdem]
 split
 ·omega
 ·obtain⟨a,r,ha,r0,r1,hm⟩:=parts0 (T:=p) (l - d) (by omega) (by omega)
  rw [(dm r0 r1 hm).1,Int.mul_add,Int.mul_one]
  have e0:0<=c * a:=Int.mul_nonneg (by omega) ha
  have e1:c * a<=p * a:=Int.mul_le_mul_of_nonneg_right (by omega) ha
  rw [Int.mul_comm p a] at e1
  omega
theorem treq_bounds {t:Tk} (h:okT t) {l:Int} (hl:0<=l):0<=treq t l/\treq t l<=l+512:=by
 obtain⟨c,p,d,s⟩:=t
 obtain⟨h1,h2,h3,h4,h5,h6⟩:=h
 simp only at h1 h2 h3 h4 h5 h6
 simp only [treq]
 obtain⟨a,r,ha,r0,r1,hm⟩:=parts0 (T:=p) l (by omega) hl
 rw [bgn_at r0 r1 hm,Int.mul_add]
 have e0:0<=c * a:=Int.mul_nonneg (by omega) ha
 have e1:c * a<=p * a:=Int.mul_le_mul_of_nonneg_right (by omega) ha
 rw [Int.mul_comm p a] at e1
 split <;> omega
theorem sdem_step {s:Sv} (h:okS s) {l:Int} (hl:0<=l):sdem s l<=sdem s (l+1):=by
 obtain⟨k,q,T⟩:=s
 obtain⟨h1,h2,h3,h4,h5⟩:=h
 simp only at h1 h2 h3 h4 h5
 obtain⟨a,r,ha,r0,r1,hm⟩:=parts0 (T:=T) l (by omega) hl
 rw [sdem_at r0 r1 hm]
 by_cases e:r+1=T
 ·rw [sdem_at (l:=l+1) (a:=a+1) (r:=0) (by omega) (by omega) (by rw [Int.add_mul];omega),Int.mul_add,Int.mul_one]
  split <;> omega
 ·rw [sdem_at (l:=l+1) (a:=a) (r:=r+1) (by omega) (by omega) (by omega)]
  split <;> omega
theorem sreq_step {s:Sv} (h:okS s) {l:Int} (hl:0<=l):sreq s l<=sreq s (l+1):=by
 obtain⟨k,q,T⟩:=s
 obtain⟨h1,h2,h3,h4,h5⟩:=h
 simp only at h1 h2 h3 h4 h5
 obtain⟨a,r,ha,r0,r1,hm⟩:=parts0 (T:=T) l (by omega) hl
 rw [sreq_at r0 r1 hm]
 by_cases e:r+1=T
 ·rw [sreq_at (l:=l+1) (a:=a+1) (r:=0) (by omega) (by omega) (by rw [Int.add_mul];omega),Int.mul_add,Int.mul_one]
  split <;> split <;> split <;> split <;> omega
 ·rw [sreq_at (l:=l+1) (a:=a) (r:=r+1) (by omega) (by omega) (by omega)]
  split <;> split <;> split <;> split <;> omega
theorem tot_snoc {α:Type} (f:α->Int) (xs:List α) (x:α):tot f (xs ++ [x])=tot f xs+f x:=by simp [tot]
theorem tot_cons {α:Type} (f:α->Int) (xs:List α) (x:α):tot f (x :: xs)=f x+tot f xs:=by simp [tot]
theorem tot_take {α:Type} (f:α->Int) {xs:List α} {j:Nat} {x:α} (h:xs[j]?=some x):tot f (xs.take (j+1))=tot f (xs.take j)+f x:=by
 rw [List.take_add_one,h];exact tot_snoc f _ x
theorem tot_bounds {α:Type} (f:α->Int) (B:Int) (xs:List α) (h:∀ x ∈ xs,0<=f x/\f x<=B):0<=tot f xs/\tot f xs<=xs.length * B:=by
 induction xs with
 |nil=>simp [tot]
 |cons x r ih=>
  obtain⟨i1,i2⟩:=ih (fun y hy=>h y (by simp [hy]))
  obtain⟨h1,h2⟩:=h x (by simp)
  rw [tot_cons,List.length_cons]
  have:((r.length+1:Nat):Int) * B=r.length * B+B:=by push_cast;rw [Int.add_mul];omega
  rw [this]
  omega
theorem tot_le {α:Type} (f g:α->Int) (xs:List α) (h:∀ x ∈ xs,f x<=g x):tot f xs<=tot g xs:=by
 induction xs with
 |nil=>simp [tot]
 |cons x r ih=>
  have i1:=ih (fun y hy=>h y (by simp [hy]))
  have h1:=h x (by simp)
  rw [tot_cons,tot_cons];omega
theorem tot_fit {α:Type} (f:α->Int) (B:Int) (hB:0<=B) (xs:List α) (h:∀ x ∈ xs,0<=f x/\f x<=B) (hl:xs.length<=8):0<=tot f xs/\tot f xs<=8 * B:=by
 obtain⟨h1,h2⟩:=tot_bounds f B xs h
 have:(xs.length:Int) * B<=8 * B:=Int.mul_le_mul_of_nonneg_right (by omega) hB
 omega
def blk (xs:List Tk):Int:=xs.foldl (fun n t=>max n (t.2.2.2 - 1)) 0
theorem blk_snoc (xs:List Tk) (t:Tk):blk (xs ++ [t])=max (blk xs) (t.2.2.2 - 1):=by simp [blk,List.foldl_append]
def late (l:Int) (t:Tk):Bool:=decide (l < t.2.2.1)
theorem blk_bounds (xs:List Tk) (h:∀ x ∈ xs,okT x):0<=blk xs/\blk xs<=256:=by
 revert h
 refine snoc_ind (M:=fun xs=>(∀ x ∈ xs,okT x)->0<=blk xs/\blk xs<=256) ?_ ?_ xs
 ·intro _;simp [blk]
 ·intro l x ih h
  obtain⟨h1,h2⟩:=ih (fun y hy=>h y (by simp [hy]))
  obtain⟨x1,x2,x3,x4,x5,x6⟩:=h x (by simp)
  rw [blk_snoc];omega
def bdl (l:Int) (xs:List Tk):Int:=blk (xs.filter (late l))
theorem bdl_take {l:Int} {xs:List Tk} {j:Nat} {t:Tk} (h:xs[j]?=some t):bdl l (xs.take (j+1))=if l < t.2.2.1 then max (bdl l (xs.take j)) (t.2.2.2 - 1) else bdl l (xs.take j):=by
 rw [List.take_add_one,h]
 unfold bdl
 simp only [Option.toList_some,List.filter_append]
 by_cases e:l < t.2.2.1
 ·rw [if_pos e,show List.filter (late l) [t]=[t] by simp [late,e],blk_snoc]
 ·rw [if_neg e,show List.filter (late l) [t]=[] by simp [late,e],List.append_nil]
theorem bdl_bounds (l:Int) (xs:List Tk) (h:∀ x ∈ xs,okT x):0<=bdl l xs/\bdl l xs<=256:=blk_bounds _ (fun x hx=>h x (List.mem_filter.mp hx).1)
theorem blk_take {xs:List Tk} {j:Nat} {t:Tk} (h:xs[j]?=some t):blk (xs.take (j+1))=max (blk (xs.take j)) (t.2.2.2 - 1):=by
 rw [List.take_add_one,h];exact blk_snoc _ t
def Fits (g d q N D more:Int) (dem:Int->Int):Prop:=
 N * (d+q) < D * q/\(N * 4096+D * more) * (d+q)<=D * (q * (4096 - (g+d)))/\∀ l,1<=l->l<=4096->dem l<=sb g d q l
def IsLst (p:Int->Prop) (most r:Int):Prop:=(r=0/\∀ l,1<=l->l<=most->¬ p l) ∨ (1<=r/\r<=most/\p r/\∀ l,1<=l->l < r->¬ p l)
theorem lst_ex (p:Int->Prop) (most:Int):∃ r,IsLst p most r:=by
 have h:∀ n:Nat,∃ r,IsLst p n r:=by
  intro n
  induction n with
  |zero=>exact⟨0,.inl ⟨rfl,fun l h1 h2=>by omega⟩⟩
  |succ n ih=>
   obtain⟨r,hr⟩:=ih
   rcases hr with ⟨rfl,hr⟩ | ⟨h1,h2,h3,h4⟩
   ·by_cases hp:p ((n+1:Nat):Int)
    ·exact⟨_,.inr ⟨by omega,Int.le_refl _,hp,fun l a b=>hr l a (by omega)⟩⟩
    ·refine⟨0,.inl ⟨rfl,fun l a b=>?_⟩⟩
     by_cases e:l=((n+1:Nat):Int)
     ·rw [e];exact hp
     ·exact hr l a (by omega)
   ·exact⟨r,.inr ⟨h1,by omega,h3,h4⟩⟩
 by_cases hm:0<=most
 ·obtain⟨r,hr⟩:=h most.toNat
  rw [Int.toNat_of_nonneg hm] at hr
  exact⟨r,hr⟩
 ·exact⟨0,.inl ⟨rfl,fun l a b=>by omega⟩⟩
theorem IsLst.un {p:Int->Prop} {most r r':Int} (h:IsLst p most r) (h':IsLst p most r'):r=r':=by
 rcases h with ⟨rfl,h⟩ | ⟨a1,a2,a3,a4⟩ <;> rcases h' with ⟨rfl,h'⟩ | ⟨b1,b2,b3,b4⟩
 ·rfl
 ·exact absurd b3 (h _ b1 b2)
 ·exact absurd a3 (h' _ a1 a2)
 ·by_cases c:r < r'
  ·exact absurd a3 (b4 _ a1 c)
  ·by_cases c':r' < r
   ·exact absurd b3 (a4 _ b1 c')
   ·omega
def Mono (f:Int->Int):Prop:=∀ a b,0<=a->a<=b->f a<=f b
theorem mono_of {f:Int->Int} (h:∀ l,0<=l->f l<=f (l+1)):Mono f:=by
 intro a b ha hab
 have:∀ n:Nat,f a<=f (a+n):=by
  intro n
  induction n with
  |zero=>simp
  |succ n ih=>
   have:=h (a+n) (by omega)
   rw [show a+((n+1:Nat):Int)=a+n+1 by omega];omega
 have h2:=this (b - a).toNat
 rwa [show a+((b - a).toNat:Int)=b by omega] at h2
theorem tot_mono {α:Type} (f:α->Int->Int) (xs:List α) (h:∀ x ∈ xs,Mono (f x)):Mono (fun l=>tot (f · l) xs):=fun a b ha hab=>tot_le _ _ xs (fun x hx=>h x hx a b ha hab)
theorem sdem_mono {s:Sv} (h:okS s):Mono (sdem s):=mono_of (fun _ hl=>sdem_step h hl)
theorem sreq_mono {s:Sv} (h:okS s):Mono (sreq s):=mono_of (fun _ hl=>sreq_step h hl)
theorem tdem_step {t:Tk} (h:okT t) {l:Int} (_hl:0<=l):tdem t l<=tdem t (l+1):=by
 obtain⟨c,p,d,s⟩:=t
 obtain⟨h1,h2,h3,h4,h5,h6⟩:=h
 simp only at h1 h2 h3 h4 h5 h6
 simp only [tdem]
 by_cases e:l < d
 ·rw [if_pos e]
  split
  ·exact Int.le_refl _
  ·exact Int.mul_nonneg (by omega) (by have:=Int.ediv_nonneg (show 0<=l+1 - d by omega) (show 0<=p by omega);omega)
 ·rw [if_neg e,if_neg (by omega)]
  exact Int.mul_le_mul_of_nonneg_left (by have:=Int.ediv_le_ediv (c:=p) (by omega) (show l - d<=l+1 - d by omega);omega) (by omega)
theorem bgn_mono {a b p:Int} (hp:1<=p) (h:a<=b):bgn a p<=bgn b p:=Int.ediv_le_ediv (by omega) (by omega)
theorem treq_mono {t:Tk} (h:okT t):Mono (treq t):=fun a b _ hab=>by
 obtain⟨h1,h2,h3,h4,h5,h6⟩:=h
 exact Int.mul_le_mul_of_nonneg_left (bgn_mono (by omega) hab) (by omega)
theorem tskp_step (xs:List Tk) (h:∀ x ∈ xs,okT x) {l:Int} (hl:0<=l):tot (tdem · l) xs+bdl l xs<=tot (tdem · (l+1)) xs+bdl (l+1) xs:=by
 revert h
 refine snoc_ind (M:=fun xs=>(∀ x ∈ xs,okT x)->tot (tdem · l) xs+bdl l xs<=tot (tdem · (l+1)) xs+bdl (l+1) xs) ?_ ?_ xs
 ·intro _;simp [tot,bdl,blk]
 ·intro ys t ih h
  have i1:=ih (fun y hy=>h y (by simp [hy]))
  have ho:=h t (by simp)
  have m:=tot_le (tdem · l) (tdem · (l+1)) ys (fun x hx=>tdem_step (h x (by simp [hx])) hl)
  have st:=tdem_step ho hl
  obtain⟨b0,_⟩:=bdl_bounds l ys (fun y hy=>h y (by simp [hy]))
  obtain⟨b1,_⟩:=bdl_bounds (l+1) ys (fun y hy=>h y (by simp [hy]))
  have e1:=bdl_take (l:=l) (xs:=ys ++ [t]) (j:=ys.length) (t:=t) (by simp)
  have e2:=bdl_take (l:=l+1) (xs:=ys ++ [t]) (j:=ys.length) (t:=t) (by simp)
  rw [List.take_of_length_le (by simp),List.take_left] at e1 e2
  rw [tot_snoc,tot_snoc,e1,e2]
  obtain⟨h1,h2,h3,h4,h5,h6⟩:=ho
  by_cases c1:l+1 < t.2.2.1
  ·have z1:tdem t l=0:=if_pos (by omega)
   have z2:tdem t (l+1)=0:=if_pos c1
   rw [if_pos (by omega),if_pos c1];omega
  ·by_cases c2:l < t.2.2.1
   ·have z1:tdem t l=0:=if_pos c2
    have z2:tdem t (l+1)=t.1:=by
     unfold tdem
     rw [if_neg c1,show l+1 - t.2.2.1=0 by omega,Int.zero_ediv];omega
    rw [if_pos c2,if_neg c1];omega
   ·rw [if_neg c2,if_neg c1];omega
def tskM (xs:List Tk) (l:Int):Int:=if tot (tdem · l) xs=0 then 0 else tot (tdem · l) xs+bdl l xs
theorem tskM_mono (xs:List Tk) (h:∀ x ∈ xs,okT x):Mono (tskM xs):=by
 refine mono_of (fun l hl=>?_)
 have h1:=tskp_step xs h hl
 have h2:=tot_le (tdem · l) (tdem · (l+1)) xs (fun x hx=>tdem_step (h x hx) hl)
 have h3:=(tot_bounds (tdem · l) l xs (fun x hx=>tdem_bounds (h x hx) hl)).1
 obtain⟨b0,_⟩:=bdl_bounds l xs h
 obtain⟨b1,_⟩:=bdl_bounds (l+1) xs h
 unfold tskM
 split <;> split <;> omega
theorem cov_yes {g d q l:Int} {dem:Int->Int} (hg:0<=g) (hd:0<=d) (hq:1<=q) (hm:Mono dem) (hn:0<=dem l) {L:Int} (L0:0<=L) (h1:lsF g d q (dem l)<=L) (h2:L<=l):dem L<=sb g d q L:=by
 have k1:=sb_lsF (g:=g) hg hd hq hn
 have k2:=sb_le (g:=g) hd hq h1
 have k3:=hm L l L0 h2
 omega
theorem cov_no {g d q l:Int} {dem:Int->Int} (hd:0<=d) (hq:1<=q) (hm:Mono dem) (hn:0<=dem l) (l0:0<=l) {L:Int} (h1:l<=L) (h2:L < lsF g d q (dem l)):sb g d q L < dem L:=by
 have hx:1<=dem l:=by
  refine Decidable.byContradiction fun hc=>?_
  rw [show dem l=0 by omega,lsF_zero] at h2;omega
 have k1:=sb_lsF1 (g:=g) hd hq hx
 have k2:=sb_le (g:=g) (m:=L) (n:=lsF g d q (dem l) - 1) hd hq (by omega)
 have k3:=hm l L l0 h1
 omega
theorem share_dem {α:Type} (pr:α->Int × Int) (f x:α->Int) (L:Int) (xs:List α) (hq:∀ s ∈ xs,okq (pr s)) (h:∀ s ∈ xs,(f s - x s) * (pr s).2<=(pr s).1 * L):(sh (xs.map pr)).2 * tot f xs<=(sh (xs.map pr)).1 * L+(sh (xs.map pr)).2 * tot x xs:=by
 revert hq h
 refine snoc_ind (M:=fun xs=>(∀ s ∈ xs,okq (pr s))->(∀ s ∈ xs,(f s - x s) * (pr s).2<=(pr s).1 * L)->(sh (xs.map pr)).2 * tot f xs<=(sh (xs.map pr)).1 * L+(sh (xs.map pr)).2 * tot x xs) ?_ ?_ xs
 ·intro _ _;simp [tot,sh]
 ·intro ys s ih hq h
  have i1:=ih (fun y hy=>hq y (by simp [hy])) (fun y hy=>h y (by simp [hy]))
  have i2:=h s (by simp)
  have o:=hq s (by simp)
  have hD:=(sh_bounds (ys.map pr) (by intro y hy;obtain⟨z,hz,rfl⟩:=List.mem_map.mp hy;exact hq z (by simp [hz]))).1
  rw [List.map_append,List.map_singleton,sh_snoc,tot_snoc,tot_snoc]
  obtain⟨o1,o2,o3⟩:=o
  generalize pr s=P at *
  obtain⟨Q,T⟩:=P
  simp only [addp] at *
  generalize sh (ys.map pr)=S at *
  obtain⟨N,D⟩:=S
  simp only at *
  generalize tot f ys=F at *
  generalize tot x ys=X at *
  generalize f s=u at *
  generalize x s=v at *
  have e1:T * (D * F)<=T * (N * L+D * X):=Int.mul_le_mul_of_nonneg_left i1 (by omega)
  have e2:D * ((u - v) * T)<=D * (Q * L):=Int.mul_le_mul_of_nonneg_left i2 (by omega)
  have e3:D * T * (F+u)=T * (D * F)+D * ((u - v) * T)+D * T * v:=by grind
  have e4:(N * T+D * Q) * L+D * T * (X+v)=T * (N * L+D * X)+D * (Q * L)+D * T * v:=by grind
  rw [e3,e4];omega
theorem fits_fewer {g d q N D Q T more m:Int} {dem dem':Int->Int} (hd:0<=d) (hq:1<=q) (hD:1<=D) (hQ:1<=Q) (hT:1<=T) (hm:0<=m) (h:Fits g d q (N * T+D * Q) (D * T) (more+m) dem) (hl:∀ l,1<=l->l<=4096->dem' l<=dem l):Fits g d q N D more dem':=by
 obtain⟨h1,h2,h3⟩:=h
 have z1:0<=D * Q * (d+q):=Int.mul_nonneg (Int.mul_nonneg (by omega) (by omega)) (by omega)
 refine⟨?_, ?_,fun l a b=>Int.le_trans (hl l a b) (h3 l a b)⟩
 ·have e1:(N * T+D * Q) * (d+q)=T * (N * (d+q))+D * Q * (d+q):=by grind
  have e2:D * T * q=T * (D * q):=by grind
  rw [e1,e2] at h1
  exact Int.lt_of_mul_lt_mul_left (by omega) (show 0<=T by omega)
 ·have e1:((N * T+D * Q) * 4096+D * T * (more+m)) * (d+q)=T * ((N * 4096+D * more) * (d+q))+4096 * (D * Q * (d+q))+D * T * m * (d+q):=by grind
  have e2:D * T * (q * (4096 - (g+d)))=T * (D * (q * (4096 - (g+d)))):=by grind
  have z2:0<=D * T * m * (d+q):=Int.mul_nonneg (Int.mul_nonneg (Int.mul_nonneg (by omega) (by omega)) hm) (by omega)
  rw [e1,e2] at h2
  exact Int.le_of_mul_le_mul_left (by omega) (show 0 < T by omega)
def qq (s:Sv):Int:=s.2.1
def cc (t:Tk):Int:=t.1
def gst (xs:List Tk):Int:=xs.foldl (fun n t=>max n t.2.2.2) 0
theorem gst_take {xs:List Tk} {j:Nat} {t:Tk} (h:xs[j]?=some t):gst (xs.take (j+1))=max (gst (xs.take j)) t.2.2.2:=by
 rw [List.take_add_one,h];simp [gst,List.foldl_append]
def FitK (g d q:Int) (xs:List Sv):Prop:=Fits g d q (sh (xs.map qt)).1 (sh (xs.map qt)).2 (2 * tot qq xs) (fun l=>tot (sdem · l) xs)
def FitT (g d q:Int) (xs:List Tk):Prop:=Fits g d q (sh (xs.map cp)).1 (sh (xs.map cp)).2 (tot cc xs+gst xs) (tskM xs)
def untM (xs:List Tk) (i:Nat) (l:Int):Int:=tot (treq · l) (xs.take (i+1))+blk (xs.drop (i+1))
def dl (xs:List Tk) (i:Nat):Int:=(xs.getD i (0,0,0,0)).2.2.1
def Rsp (g d q:Int) (xs:List Tk) (i:Nat) (r:Int):Prop:=IsLst (fun l=>untM xs i l<=sb g d q l) (dl xs i) r
def FitO (g d q:Int) (xs:List Tk):Prop:=∀ i,i < xs.length->¬ Rsp g d q xs i 0
def Drn (g d q:Int) (xs:List Sv) (r:Int):Prop:=IsLst (fun l=>tot (sreq · l) xs<=sb g d q l) 4096 r
theorem tot_perm {α:Type} (f:α->Int) {xs ys:List α} (h:xs.Perm ys):tot f xs=tot f ys:=by
 induction h with
 |nil=>rfl
 |cons x _ ih=>rw [tot_cons,tot_cons,ih]
 |swap x y l=>simp only [tot_cons];omega
 |trans _ _ i1 i2=>exact i1.trans i2
theorem fitK_perm {g d q:Int} {xs ys:List Sv} (h:xs.Perm ys) (hf:FitK g d q xs):FitK g d q ys:=by
 unfold FitK at *
 rw [<- sh_perm (h.map qt),<- tot_perm qq h]
 exact⟨hf.1,hf.2.1,fun l a b=>by have:=hf.2.2 l a b;simp only at this ⊢;rwa [<- tot_perm _ h]⟩
theorem okq_all {xs:List Sv} (h:∀ x ∈ xs,okS x):∀ y ∈ xs.map qt,okq y:=by
 intro y hy;obtain⟨z,hz,rfl⟩:=List.mem_map.mp hy;exact(h z hz).q
theorem okqT_all {xs:List Tk} (h:∀ x ∈ xs,okT x):∀ y ∈ xs.map cp,okq y:=by
 intro y hy;obtain⟨z,hz,rfl⟩:=List.mem_map.mp hy;exact(h z hz).q
theorem tot_qq8 {xs:List Sv} (h:∀ x ∈ xs,okS x) (h8:xs.length<=8):0<=tot qq xs/\tot qq xs<=2048:=by
 have:=tot_fit qq 256 (by omega) xs (fun x hx=>by obtain⟨_,_,h1,h2,h3⟩:=h x hx;unfold qq;omega) h8;omega
theorem gst_bounds {xs:List Tk} (h:∀ x ∈ xs,okT x):0<=gst xs/\gst xs<=256:=by
 revert h
 refine snoc_ind (M:=fun xs=>(∀ x ∈ xs,okT x)->0<=gst xs/\gst xs<=256) ?_ ?_ xs
 ·intro _;simp [gst]
 ·intro l x ih h
  have i:=ih (fun y hy=>h y (by simp [hy]))
  obtain⟨h1,h2,h3,h4,h5,h6⟩:=h x (by simp)
  simp only [gst,List.foldl_append,List.foldl_cons,List.foldl_nil] at *;omega
theorem tot_cc8 {xs:List Tk} (h:∀ x ∈ xs,okT x) (h8:xs.length<=8):0<=tot cc xs/\tot cc xs<=2048:=by
 have:=tot_fit cc 256 (by omega) xs (fun x hx=>by obtain⟨h1,h2,h3,h4,h5,h6⟩:=h x hx;unfold cc;omega) h8;omega
theorem fitK_less {g d q:Int} {xs:List Sv} {x:Sv} (hd:0<=d) (hq:1<=q) (h:∀ y ∈ xs ++ [x],okS y) (hf:FitK g d q (xs ++ [x])):FitK g d q xs:=by
 have hx:=h x (by simp)
 have h':∀ y ∈ xs,okS y:=fun y hy=>h y (by simp [hy])
 obtain⟨_,_,x1,x2,x3⟩:=id hx
 unfold FitK at *
 rw [List.map_append,List.map_singleton,sh_snoc,tot_snoc,show 2 * (tot qq xs+qq x)=2 * tot qq xs+2 * qq x by omega] at hf
 refine fits_fewer (Q:=(qt x).1) (T:=(qt x).2) (m:=2 * qq x) hd hq (sh_bounds _ (okq_all h')).1 x1 (by show 1<=x.2.2;omega) (by unfold qq;omega) hf (fun l a b=>?_)
 rw [tot_snoc]
 have:=(sdem_bounds hx (show 0<=l by omega)).1
 omega
def later (t:Tk):Tk:=(t.1,t.2.1,t.2.1,t.2.2.2)
theorem dl_at {xs:List Tk} {i:Nat} {t:Tk} (hi:xs[i]?=some t):dl xs i=t.2.2.1:=by
 unfold dl;rw [List.getD_eq_getElem?_getD,hi];rfl
theorem sdem_few {xs:List Sv} (h:∀ x ∈ xs,okS x) (h8:xs.length<=8) {l:Int} (l0:0<=l) (l1:l<=4096):0<=tot (sdem · l) xs/\tot (sdem · l) xs<=40960:=by
 have:=tot_fit (sdem · l) 4096 (by omega) xs (fun x hx=>by have:=sdem_bounds (h x hx) l0;omega) h8;omega
theorem sreq_few {xs:List Sv} (h:∀ x ∈ xs,okS x) (h8:xs.length<=8) {l:Int} (l0:0<=l) (l1:l<=4096):0<=tot (sreq · l) xs/\tot (sreq · l) xs<=40960:=by
 have:=tot_fit (sreq · l) 4608 (by omega) xs (fun x hx=>by have:=sreq_bounds (h x hx) l0;omega) h8;omega
theorem tskM_few {xs:List Tk} (h:∀ x ∈ xs,okT x) (h8:xs.length<=8) {l:Int} (l0:0<=l) (l1:l<=4096):0<=tskM xs l/\tskM xs l<=40960:=by
 have:=tot_fit (tdem · l) 4096 (by omega) xs (fun x hx=>by have:=tdem_bounds (h x hx) l0;omega) h8
 have:=bdl_bounds l xs h
 unfold tskM;split <;> omega
theorem untM_few {xs:List Tk} (h:∀ x ∈ xs,okT x) (h8:xs.length<=8) (i:Nat) {l:Int} (l0:0<=l) (l1:l<=4096):0<=untM xs i l/\untM xs i l<=40960:=by
 have:=tot_fit (treq · l) 4608 (by omega) (xs.take (i+1)) (fun x hx=>by have:=treq_bounds (h x (List.mem_of_mem_take hx)) l0;omega) (by rw [List.length_take];omega)
 have:=blk_bounds (xs.drop (i+1)) (fun x hx=>h x (List.mem_of_mem_drop hx))
 unfold untM;omega
theorem untM_mono {xs:List Tk} (h:∀ x ∈ xs,okT x) (i:Nat):Mono (untM xs i):=by
 intro a b ha hab
 have:=tot_le (treq · a) (treq · b) (xs.take (i+1)) (fun x hx=>treq_mono (h x (List.mem_of_mem_take hx)) a b ha hab)
 unfold untM;omega
theorem sdemT_mono {xs:List Sv} (h:∀ x ∈ xs,okS x):Mono (fun l=>tot (sdem · l) xs):=tot_mono sdem xs (fun x hx=>sdem_mono (h x hx))
theorem sreqT_mono {xs:List Sv} (h:∀ x ∈ xs,okS x):Mono (fun l=>tot (sreq · l) xs):=tot_mono sreq xs (fun x hx=>sreq_mono (h x hx))
end Go.Proofs.YtpdehdomilnmeaaGreatDoor
