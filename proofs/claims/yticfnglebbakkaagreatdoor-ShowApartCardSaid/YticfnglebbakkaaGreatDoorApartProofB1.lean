/-
  Parts of the proof.
-/
import Derived.Test.YticfnglebbakkaaGreatDoorApartProofB0
set_option maxRecDepth 100000
set_option maxHeartbeats 8000000
namespace Go.Proofs.YticfnglebbakkaaGreatDoor
open Go Go.RowKit
inductive Sgn where
 | lf (k n:Int) (rs:List (Int × Int))
 | op (n:Nat)
 | cl
 | al
 | rp (a b:Int)
inductive Ps where
 | lf (k n:Int) (rs:List (Int × Int))
 | grp (n:Nat) (x:Ps)
 | rep (a b:Int) (x:Ps)
 | row (l:List Ps)
 | alt (l:List Ps)
mutual
def Ps.sz:Ps->Nat
 | .lf _ _ _=>1
 | .grp _ x=>x.sz+1
 | .rep _ _ x=>x.sz+1
 | .row l=>lA l+1
 | .alt l=>lA l+1
def lA:List Ps->Nat
 | []=>0
 | x :: l=>x.sz+lA l
end
mutual
def Ps.dp:Ps->Nat
 | .lf _ _ _=>1
 | .grp _ x=>x.dp+1
 | .rep _ _ x=>x.dp+1
 | .row l=>jT l+1
 | .alt l=>jT l+1
def jT:List Ps->Nat
 | []=>0
 | x :: l=>max x.dp (jT l)
end
mutual
def pfl:Ps->List Sgn
 | .lf k n rs=>[.lf k n rs]
 | .grp n x=>.op n :: (pfl x ++ [.cl])
 | .rep a b x=>pfl x ++ [.rp a b]
 | .row l=>cY l
 | .alt l=>mD l
def cY:List Ps->List Sgn
 | []=>[]
 | x :: l=>pfl x ++ cY l
def mD:List Ps->List Sgn
 | []=>[]
 | x :: l=>pfl x ++ dB l
def dB:List Ps->List Sgn
 | []=>[]
 | x :: l=>.al :: (pfl x ++ dB l)
end
mutual
def te:Ps->Er
 | .lf k n rs=>.mk k n 0 0 rs []
 | .grp n x=>.mk 7 n 0 0 [] [te x]
 | .rep a b x=>.mk 9 0 a b [] [te x]
 | .row l=>if l.isEmpty then .mk 1 0 0 0 [] [] else .mk 5 0 0 0 [] (tes l)
 | .alt l=>.mk 6 0 0 0 [] (tes l)
def tes:List Ps->List Er
 | []=>[]
 | x :: l=>te x :: tes l
end
theorem gM(l:List Ps):tes l=l.map te:=by
 induction l with
 | nil=>rw [tes];rfl
 | cons x l ih=>rw [tes,ih];rfl
def Ps.kd:Ps->Int
 | .lf k _ _=>k
 | .grp _ _=>7
 | .rep _ _ _=>9
 | .row l=>if l.isEmpty then 1 else 5
 | .alt _=>6
def dN:Ps->Bool
 | .row _=>false
 | .alt _=>false
 | _=>true
def sD:Ps->Bool
 | .alt _=>false
 | _=>true
def eM:Ps->Bool
 | .lf k _ _=>k==2 || k==8
 | .grp _ _=>true
 | .rep _ _ _=>true
 | _=>false
def aK8(l:List Ps):Prop:=∀ (i:Nat) (x:Ps),l[i]?=some x->dN x=true/\(x.kd=3->i=0)/\(x.kd=4->i+1=l.length)
mutual
def wf:Ps->Prop
 | .lf k _ _=>k=2\/k=3\/k=4\/k=8
 | .grp _ x=>wf x
 | .rep _ _ x=>eM x=true/\wf x
 | .row l=>l.length≠1/\aK8 l/\wfs l
 | .alt l=>2<=l.length/\(∀ x∈l,sD x=true)/\wfs l
def wfs:List Ps->Prop
 | []=>True
 | x :: l=>wf x/\wfs l
end
theorem iL(l:List Ps):wfs l ↔ ∀ x∈l,wf x:=by
 induction l with
 | nil=>rw [wfs];simp
 | cons x l ih=>rw [wfs,ih];simp
theorem mV(x:Ps)(l:List Ps):mD (x :: l)=pfl x ++ dB l:=by rw [mD]
theorem tI(x:Ps):1<=x.sz:=by cases x <;> simp [Ps.sz]
theorem mT(x:Ps)(l:List Ps):lA (x :: l)=x.sz+lA l:=by rw [lA]
theorem pO:lA []=0:=by rw [lA]
theorem kO{x:Ps}{l:List Ps}(h:x∈l):x.sz<=lA l:=by
 induction l with
 | nil=>cases h
 | cons y l ih=>
  rw [mT]
  rcases List.mem_cons.1 h with rfl | h
  ·omega
  ·have:=ih h;omega
def Ps.kids:Ps->List Ps
 | .lf _ _ _=>[]
 | .grp _ x=>[x]
 | .rep _ _ x=>[x]
 | .row l=>l
 | .alt l=>l
theorem zH{x y:Ps}(h:y∈x.kids):y.sz < x.sz:=by
 cases x with
 | lf=>cases h
 | grp n k=>simp [Ps.kids] at h;subst h;simp [Ps.sz]
 | rep a b k=>simp [Ps.kids] at h;subst h;simp [Ps.sz]
 | row l=>have:=kO (show y∈l from h);simp [Ps.sz];omega
 | alt l=>have:=kO (show y∈l from h);simp [Ps.sz];omega
theorem Ps.ind{P:Ps->Prop}(h:∀ x,(∀ y∈x.kids,P y)->P x)(x:Ps):P x:=by
 have:∀ (m:Nat) (x:Ps),x.sz<=m->P x:=by
  intro m
  induction m with
  | zero=>intro x hx;have:=tI x;omega
  | succ m ih=>intro x hx;exact h x fun y hy=>ih y (by have:=zH hy;omega)
 exact this x.sz x lz9
def okp:Option Sgn->Sgn->Prop
 | p,.rp _ _=>(∃ k n rs,p=some (.lf k n rs)/\(k=2\/k=8))\/p=some .cl\/∃ a b,p=some (.rp a b)
 | p,.lf k _ _=>(k=2\/k=3\/k=4\/k=8)/\(k=3->p=none\/p=some .al\/∃ n,p=some (.op n))/\∀ n rs,p≠some (.lf 4 n rs)
 | p,.op _=>∀ n rs,p≠some (.lf 4 n rs)
 | _,.cl=>True
 | _,.al=>True
def adj:Option Sgn->List Sgn->Prop
 | _,[]=>True
 | p,x :: l=>okp p x/\adj (some x) l
def hk:Nat->List Nat->List Nat->List Sgn->Prop
 | _,o,_,[]=>o=[]
 | g,o,e,.op n :: l=>n=g+1/\g < 30/\hk (g+1) (n :: o) e l
 | g,o,e,.cl :: l=>∃ n o',o=n :: o'/\hk g o' (n :: e) l
 | g,o,e,.lf k n _ :: l=>(k=8->∃ i∈e,n=(i:Int))/\hk g o e l
 | g,o,e,_ :: l=>hk g o e l
def bX(k:Int):Bool:=decide (1<=k) && decide (k<=9)
def bG(k:Int):Bool:=k==2 || k==7 || k==8 || k==9
def eT(a b:Int):Bool:=decide (0<=a) && decide (a<=255) && (b==-1 ||(decide (a<=b) && decide (b<=255)))
def eF(k:Int)(n:Nat):Bool:=if k=5\/k=6 then decide (2<=n) else if k=7\/k=9 then n==1 else n==0
theorem qD(k:Int)(w:World):Calls Tryz.prog 102 #[.int .i64 k] w fun e w'=>e=.returned (.bool (bX k))/\w'=w:=by
 have hid:∀ b,bX k=b->Calls Tryz.prog 102 #[.int .i64 k] w fun e w'=>e=.returned (.bool b)/\w'=w:=by
  intro b hb
  by_cases h1:(1:Int)<=k
  ·by_cases h2:k<=9
   ·have e:b=true:=by rw [<- hb];simp [bX,h1,h2]
    subst e
    clear hb
    go_enter Tryz.func102,Tryz.ntmps102
    go_wp2
    go_ret
    exact⟨rfl,rfl⟩
   ·have e:b=false:=by rw [<- hb];simp [bX,h2]
    subst e
    clear hb
    go_enter Tryz.func102,Tryz.ntmps102
    go_wp2
    go_ret
    exact⟨rfl,rfl⟩
  ·have e:b=false:=by rw [<- hb];simp [bX,h1]
   subst e
   clear hb
   go_enter Tryz.func102,Tryz.ntmps102
   go_wp2
   go_ret
   exact⟨rfl,rfl⟩
 exact hid _ rfl
theorem kE(k:Int)(w:World):Calls Tryz.prog 101 #[.int .i64 k] w fun e w'=>e=.returned (.bool (bG k))/\w'=w:=by
 have hid:∀ b,bG k=b->Calls Tryz.prog 101 #[.int .i64 k] w fun e w'=>e=.returned (.bool b)/\w'=w:=by
  intro b hb
  unfold bG at hb
  cases h1:(k==2) <;> cases h2:(k==7) <;> cases h3:(k==8) <;> cases h4:(k==9) <;> rw [h1,h2,h3,h4] at hb <;> simp at hb <;> subst hb
  all_goals
   go_enter Tryz.func101,Tryz.ntmps101
   go_wp2
   go_ret
   exact⟨rfl,rfl⟩
 exact hid _ rfl
theorem mC(a b:Int)(w:World):Calls Tryz.prog 104 #[.int .i64 a,.int .i64 b] w fun e w'=>e=.returned (.bool (eT a b))/\w'=w:=by
 have hid:∀ r,eT a b=r->Calls Tryz.prog 104 #[.int .i64 a,.int .i64 b] w fun e w'=>e=.returned (.bool r)/\w'=w:=by
  intro r hb
  unfold eT at hb
  by_cases h1:(0:Int)<=a
  ·by_cases h2:a<=255
   ·cases h3:(b==-1) with
    | true=>
     simp [h1,h2,h3] at hb
     subst hb
     go_enter Tryz.func104,Tryz.ntmps104
     go_wp2
     go_ret
     exact⟨rfl,rfl⟩
    | false=>
     by_cases h4:a<=b
     ·by_cases h5:b<=255
      ·simp [h1,h2,h3,h4,h5] at hb
       subst hb
       go_enter Tryz.func104,Tryz.ntmps104
       go_wp2
       go_ret
       exact⟨rfl,rfl⟩
      ·simp [h1,h2,h3,h4,h5] at hb
       subst hb
       go_enter Tryz.func104,Tryz.ntmps104
       go_wp2
       go_ret
       exact⟨rfl,rfl⟩
     ·simp [h1,h2,h3,h4] at hb
      subst hb
      go_enter Tryz.func104,Tryz.ntmps104
      go_wp2
      go_ret
      exact⟨rfl,rfl⟩
   ·simp [h1,h2] at hb
    subst hb
    go_enter Tryz.func104,Tryz.ntmps104
    go_wp2
    go_ret
    exact⟨rfl,rfl⟩
  ·simp [h1] at hb
   subst hb
   go_enter Tryz.func104,Tryz.ntmps104
   go_wp2
   go_ret
   exact⟨rfl,rfl⟩
 exact hid _ rfl
theorem yM(n:Nat):((n:Int)==0)=(n==0):=by cases n <;> rfl
theorem aC1(n:Nat):((n:Int)==1)=(n==1):=by rw [Bool.eq_iff_iff];simp;omega
theorem pK(f:Fl)(w:World):Calls Tryz.prog 61 #[.agg #[.int .i64 f.k,.int .i64 f.n,.int .i64 f.mn,.int .i64 f.mx,.slice f.rq f.rs.length f.rc,.slice f.kq f.kl f.kc]] w fun e w'=>e=.returned (.bool (eF f.k f.kl))/\Below w.heap.size w w':=by
 obtain⟨r,hr⟩:∃ r,eF f.k f.kl=r:=⟨_,rfl⟩
 rw [hr]
 have HR:=aB hr
 have B1:Hid (Below w.heap.size w (w.alloc (.cells #[.int .i64 f.k,.int .i64 f.n,.int .i64 f.mn,.int .i64 f.mx,.slice f.rq f.rs.length f.rc,.slice f.kq f.kl f.kc] 25))):=bz9
 have N1:Hid (BoxN (w.alloc (.cells #[.int .i64 f.k,.int .i64 f.n,.int .i64 f.mn,.int .i64 f.mx,.slice f.rq f.rs.length f.rc,.slice f.kq f.kl f.kc] 25)) w.heap.size f):=aE w _
 obtain⟨c0,-,-,-,-,c5⟩:=N1.out.six
 simp only [Nat.zero_add] at c5
 clear hr
 cases h5:(f.k==5) <;> cases h6:(f.k==6) <;> cases h7:(f.k==7) <;> cases h9:(f.k==9)
 all_goals
  go_enter Tryz.func61,Tryz.ntmps61
  go_wp2
  go_ret
  refine⟨?_,B1.out⟩
  rw [<- HR.out]
  unfold eF
  simp at h5 h6 h7 h9
  simp [h5,h6,h7,h9]
  try first | exact yM _ | exact aC1 _ | omega
section
open Go
open Classical in
noncomputable def rsQ (q:Int->Prop):List (Int × Int):=if h:∃ C,IsC C q then h.choose else []
theorem aF3{C:List (Int × Int)}{q:Int->Prop}(h:IsC C q):rsQ q=C:=by
 have hx:∃ C,IsC C q:=⟨C,h⟩
 unfold rsQ
 rw [dif_pos hx]
 exact hx.choose_spec.one h (fun _=>Iff.rfl)
noncomputable def sgT (g:Nat) (t:Tk):Sgn:=
 if t.kind=3 then .op (g+1) else if t.kind=4 then .cl else if t.kind=5 then .al else if t.kind=2 then .rp t.mn t.mx
 else if t.kind=7 then .lf 3 0 [] else if t.kind=8 then .lf 4 0 [] else if t.kind=6 then .lf 8 (t.n:Int) [] else .lf 2 0 (rsQ t.q)
def gnx(g:Nat)(t:Tk):Nat:=if t.kind=3 then g+1 else g
noncomputable def nV:Nat->List Tp->List Sgn
 | _,[]=>[]
 | g,t :: T=>sgT g t.1 :: nV (gnx g t.1) T
structure GS where
 g:Nat
 o:List (Nat × Nat)
 e:List Nat
def glk(s:GS)(t:Tp):Except (Nat × Nat) GS:=
 if t.1.kind=3 then (if s.g=30 then .error (42,t.2.1) else .ok ⟨s.g+1,s.o ++ [(s.g+1,t.2.1)],s.e⟩)
 else if t.1.kind=4 then (match s.o.getLast? with
  | none=>.error (40,t.2.1)
  | some x=>.ok ⟨s.g,s.o.dropLast,x.1 :: s.e⟩)
 else if t.1.kind=6 then (if t.1.n∈s.e then .ok s else .error (41,t.2.1))
 else .ok s
def gck:GS->List Tp->Except (Nat × Nat) GS
 | s,[]=>.ok s
 | s,t :: T=>match glk s t with
  | .error x=>.error x
  | .ok s'=>gck s' T
def gs0:GS:=⟨0,[],[]⟩
def xM(T:List Tp):Option (Nat × Nat):=match gck gs0 T with
 | .error x=>some x
 | .ok s=>match s.o with
  | []=>none
  | x :: _=>some (39,x.2)
structure TkK(m:Md)(s:ByteArray)(p last:Nat)(t:Tk)(q:Nat):Prop where
 rep:t.kind=2->jJ last=false/\eT t.mn t.mx=true
 beg:t.kind=7->p=0\/last=3\/last=5
 fin:t.kind=8->q=p+1/\qK s p=true
 back:t.kind=6->1<=t.n/\t.n<=9
 set:t.kind=1->∃ L b,t.q=nW m L b
 chr:∀ c,t.q c->aJ m.c c
def TkR(m:Md)(s:ByteArray)(p last:Nat)(r:Rs (Tk × Nat)):Prop:=match r with
 | .error _=>True
 | .ok x=>TkK m s p last x.1 x.2
theorem nQ(m:Md)(s:ByteArray)(p last:Nat)(L:List (Int × Int))(b:Bool)(q:Nat):TkR m s p last (.ok (kJ m L b,q)):=
 ⟨fun h=>(by cases h),fun h=>(by cases h),fun h=>(by cases h),fun h=>(by cases h),fun _=>⟨L,b,rfl⟩,fun c h=>h.1⟩
theorem vW(m:Md)(s:ByteArray)(p last k q:Nat)(h1:k=3\/k=4\/k=5):TkR m s p last (.ok (kT k,q)):=by
 refine⟨fun h=>?_,fun h=>?_,fun h=>?_,fun h=>?_,fun h=>?_,fun c h=>h.elim⟩ <;> (have h':k=_:=h;omega)
theorem nR(m:Md)(s:ByteArray)(p last:Nat)(a b:Int)(q:Nat)(h1:jJ last=false)(h2:eT a b=true):TkR m s p last (.ok (gU a b,q)):=
 ⟨fun _=>⟨h1,h2⟩,fun h=>(by cases h),fun h=>(by cases h),fun h=>(by cases h),fun h=>(by cases h),fun c h=>h.elim⟩
theorem aK4(m:Md)(s:ByteArray)(p last:Nat):TkR m s p last (brk m s p):=by
 unfold brk
 split
 ·trivial
 ·split
  ·trivial
  ·exact nQ ..
theorem aG7(m:Md)(s:ByteArray)(p last:Nat)(h:jJ last=false):TkR m s p last (lH s p):=by
 unfold lH
 split
 ·trivial
 split
 ·trivial
 ·rename_i n
  refine nR _ _ _ _ _ _ _ h ?_
  have:-1<=ivB s p:=by unfold ivB;split <;> (try split) <;> omega
  simp only [eT,Bool.and_eq_true,Bool.or_eq_true,decide_eq_true_eq,beq_iff_eq]
  omega
theorem aJ8(m:Md)(s:ByteArray)(p last:Nat):TkR m s p last (esc m s p last):=by
 unfold esc
 split
 ·trivial
 split
 ·exact vW _ _ _ _ _ _ (by omega)
 split
 ·exact vW _ _ _ _ _ _ (by omega)
 split
 ·exact vW _ _ _ _ _ _ (by omega)
 split
 ·rename_i h
  exact⟨fun h=>(by cases h),fun h=>(by cases h),fun h=>(by cases h),fun _=>⟨by simp only [nL];omega,by simp only [nL];omega⟩,fun h=>(by cases h),fun c h=>h.elim⟩
 split
 ·split
  ·trivial
  rename_i hb
  have hb':jJ last=false:=by simpa using hb
  split
  ·exact nR _ _ _ _ _ _ _ hb' rfl
  split
  ·exact nR _ _ _ _ _ _ _ hb' rfl
  ·exact aG7 m s p last hb'
 split
 ·exact nQ ..
 ·trivial
theorem aI7(m:Md)(s:ByteArray)(p last:Nat):TkR m s p last (tok m s p last):=by
 unfold tok
 split
 ·exact aJ8 ..
 split
 ·rename_i h
  simp only [Bool.and_eq_true,Bool.not_eq_true'] at h
  exact nR _ _ _ _ _ _ _ h.2 rfl
 split
 ·rename_i h
  simp only [Bool.and_eq_true,Bool.or_eq_true,beq_iff_eq] at h
  exact⟨fun h=>(by cases h),fun _=>by omega,fun h=>(by cases h),fun h=>(by cases h),fun h=>(by cases h),fun c h=>h.elim⟩
 split
 ·rename_i h
  simp only [Bool.and_eq_true] at h
  exact⟨fun h=>(by cases h),fun h=>(by cases h),fun _=>⟨rfl,h.2⟩,fun h=>(by cases h),fun h=>(by cases h),fun c h=>h.elim⟩
 split
 ·exact nQ ..
 split
 ·exact aK4 ..
 ·split
  ·trivial
  ·exact nQ ..
theorem yU(m:Md)(s:ByteArray)(p last:Nat){t:Tk}{q:Nat}(h:aX s p [92,41]=true\/aX s p [92,124]=true)(hw:tok m s p last=.ok (t,q)):t.kind=4\/t.kind=5:=by
 have h0:aX s p [92]=true:=by
  rcases h with h | h
  ·exact fW.2 ⟨by have:=(eE.1 h).1;omega,(eE.1 h).2.1⟩
  ·exact fW.2 ⟨by have:=(eE.1 h).1;omega,(eE.1 h).2.1⟩
 unfold tok at hw
 rw [if_pos h0] at hw
 unfold esc at hw
 rcases h with h | h
 ·have h1:=eE.1 h
  rw [if_neg (by omega),if_neg (by rw [h1.2.2];decide),if_pos (by rw [h1.2.2];decide)] at hw
  cases hw
  exact .inl rfl
 ·have h1:=eE.1 h
  rw [if_neg (by omega),if_neg (by rw [h1.2.2];decide),if_neg (by rw [h1.2.2];decide),if_pos (by rw [h1.2.2];decide)] at hw
  cases hw
  exact .inr rfl
def okk(a b:Nat):Prop:=(b=2->a=1\/a=2\/a=4\/a=6)/\(b=7->a=0\/a=3\/a=5)/\(a=8->b=4\/b=5)
structure TkW(m:Md)(t:Tk):Prop where
 ok:gJ t
 rep:t.kind=2->eT t.mn t.mx=true
 back:t.kind=6->1<=t.n/\t.n<=9
 set:t.kind=1->∃ L b,t.q=nW m L b
 chr:∀ c,t.q c->aJ m.c c
structure Beside(m:Md)(s:ByteArray)(T:List Tp)(p:Nat):Prop where
 each:∀ i t,T[i]?=some t->okk (cW (T.take i)) t.1.kind
 tok:∀ t∈T,TkW m t.1
 fin:cW T=8->p=s.size\/aX s p [92,41]=true\/aX s p [92,124]=true
theorem qB{m:Md}{s:ByteArray}{T:List Tp}{p:Nat}(h:Beside m s T p):cW T<=8/\(cW T=0->T=[]):=by
 unfold cW
 cases hl:T.getLast? with
 | none=>exact⟨by simp,fun _=>List.getLast?_eq_none_iff.1 hl⟩
 | some x=>
  have:=(h.tok x (List.mem_of_getLast? hl)).ok
  exact⟨this.2.1,fun q=>by have:=this.1;simp only at q;omega⟩
theorem Beside.add{m:Md}{s:ByteArray}{T:List Tp}{p q:Nat}{t:Tk}(h:Beside m s T p)(hp:p < s.size)(h0:p=0->T=[])(hw:Go.Proofs.YticfnglebbakkaaGreatDoor.tok m s p (cW T)=.ok (t,q)):Beside m s (T ++ [(t,p,q)]) q:=by
 have hk:=aI7 m s p (cW T)
 have ho:=vV m s p (cW T)
 rw [hw] at hk ho
 have hk':TkK m s p (cW T) t q:=hk
 have ho':gJ t:=ho
 have hr:=qB h
 have h8:cW T=8->t.kind=4\/t.kind=5:=fun e=>by
  rcases h.fin e with z | z
  ·omega
  ·exact yU m s p _ z hw
 refine⟨fun i x hx=>?_,fun x hx=>?_,fun e=>?_⟩
 ·rcases Nat.lt_trichotomy i T.length with g | g | g
  ·rw [List.getElem?_append_left g] at hx
   rw [List.take_append_of_le_length (by omega)]
   exact h.each i x hx
  ·subst g
   rw [List.getElem?_append_right lz9,Nat.sub_self] at hx
   simp at hx
   subst hx
   rw [List.take_append_of_le_length (by omega),List.take_length]
   refine⟨fun e=>?_,fun e=>?_,h8⟩
   ·have:=(hk'.rep e).1
    have k1:cW T≠8:=fun z=>by have:=h8 z;simp only at e;omega
    unfold jJ at this
    simp only [Bool.or_eq_false_iff,beq_eq_false_iff_ne] at this
    omega
   ·rcases hk'.beg e with z | z
    ·left;rw [h0 z];rfl
    ·right;exact z
  ·rw [List.getElem?_append_right (by omega),List.getElem?_eq_none (by simp;omega)] at hx
   cases hx
 ·rcases List.mem_append.1 hx with z | z
  ·exact h.tok x z
  ·simp at z
   subst z
   exact⟨ho',fun e=>(hk'.rep e).2,hk'.back,hk'.set,hk'.chr⟩
 ·rw [show cW (T ++ [(t,p,q)])=t.kind by simp [cW]] at e
  obtain⟨e1,e2⟩:=hk'.fin e
  unfold qK at e2
  simp only [Bool.or_eq_true,decide_eq_true_eq] at e2
  subst e1
  rcases e2 with (z | z) | z
  ·exact .inl z
  ·exact .inr (.inl z)
  ·exact .inr (.inr z)
theorem mZ(m:Md)(s:ByteArray):∀ (f p:Nat) (T T':List Tp),Stands s T p->Beside m s T p->lx m s f p T=.ok T'->∃ p',Beside m s T' p'
 | 0,p,T,T',_,_,hw=>by unfold lx at hw;cases hw
 | f+1,p,T,T',hs,hb,hw=>by
  unfold lx at hw
  split at hw
  ·rename_i hp
   have q1:=yT m s p (cW T) hp
   have q2:=vV m s p (cW T)
   cases ht:Go.Proofs.YticfnglebbakkaaGreatDoor.tok m s p (cW T) with
   | error e=>rw [ht] at hw;cases hw
   | ok x=>
    obtain⟨t,q⟩:=x
    rw [ht] at hw q1 q2
    have h1:p < q:=q1.1
    have h2:q<=s.size:=q1.2
    exact mZ m s f q _ T' (hs.add h1 h2 q2) (hb.add hp (fun z=>by have:=hs.few;exact List.eq_nil_of_length_eq_zero (by omega)) ht) hw
  ·cases hw
   exact⟨p,hb⟩
theorem sB{m:Md}{s:ByteArray}{T:List Tp}(h:uX m s=.ok T):∃ p,Beside m s T p:=by
 unfold uX at h
 split at h
 ·cases h
 ·exact mZ m s _ 0 [] T (Stands.nil s) ⟨fun i t hx=>(by simp at hx),fun t ht=>by(cases ht),fun e=>(by cases e)⟩ h
theorem xF{k:Nat}(h1:1<=k)(h2:k<=8):k=1\/k=2\/k=3\/k=4\/k=5\/k=6\/k=7\/k=8:=by omega
end
section
open Go Go.RowKit Go.Shelf
def mH(x:El):Array Value:=#[.int .i64 ((x.1.length:Int)+1),.agg #[.int .i64 x.2.f.k,.int .i64 x.2.f.n,.int .i64 x.2.f.mn,.int .i64 x.2.f.mx,.slice x.2.f.rq x.2.f.rs.length x.2.f.rc,.slice x.2.f.kq x.2.f.kl x.2.f.kc]]
theorem iC(par:Tr)(p:Way)(a b:List Tr):∀ i,pps par p i (a ++ b)=pps par p i a ++ pps par p (i+a.length) b:=by
 induction a with
 | nil=>intro i;rw [aQ];rfl
 | cons x a ih=>intro i;rw [List.cons_append,aT,aT,ih (i+1),List.append_assoc,List.length_cons,show i+1+a.length=i+(a.length+1) by omega]
theorem iP{par:Tr}{p:Way}{ks:List Tr}{j:Nat}{u:Tr}(h:ks[j]?=some u):pps par p 0 (ks.take (j+1))=pps par p 0 (ks.take j) ++ pp ((par,j) :: p) u:=by
 have hj:=(List.getElem?_eq_some_iff.1 h).1
 rw [List.take_add_one,h,Option.toList_some,iC,aT,aQ,List.append_nil,List.length_take,Nat.zero_add,Nat.min_eq_left (by omega)]
theorem tJ{par:Tr}{p:Way}{ks:List Tr}(j:Nat):pps par p 0 (ks.take j) <+: pps par p 0 ks:=by
 have:=iC par p (ks.take j) (ks.drop j) 0
 rw [List.take_append_drop] at this
 rw [this]
 exact List.prefix_append _ _
def Nn(b0 b1:Nat):Nat->Prop:=fun k=>k < b0\/b1<=k
theorem eZ{L pre:List El}{p:Way}{t:Tr}{r:List El}(h:pre ++ pp p t <+: L)(hr:r <+: pps t p 0 t.ks):pre ++ (p,t) :: r <+: L:=by
 refine List.IsPrefix.trans ?_ h
 rw [cN]
 exact(List.prefix_append_right_inj _).2 (List.cons_prefix_cons.2 ⟨rfl,hr⟩)
def rC(w0:World)(b1:Nat)(L:List El)(J Jx:List El->World->Prop)(xs:List El)(e:Ending)(V':World):Prop:=
 ∃ r:Bool,e=.returned (.bool r)/\((r=true/\J xs V'/\CK w0 V'/\b1<=V'.heap.size)\/(r=false/\∃ pre',pre' <+: L/\Jx pre' V'))
theorem aH9{w0:World}{L:List El}{l b1:Nat}{J Jx:List El->World->Prop}{B:Nat}(hJ:OwnFrom B J)(n:Nat)(hL:∀ pre V,J pre V->pre.length<=1000000)
  (hY:∀ pre x V,J pre V->pre ++ [x] <+: L->YieldAt Fence.wide (n - 1) Tryz.prog l (mH x) V fun e V'=>KeepsFrom B V V'/\((e=.returned (.bool true)/\J (pre ++ [x]) V'/\CKeep (Nn w0.heap.size b1) V V')\/(e=.returned (.bool false)/\Jx (pre ++ [x]) V'))) :
  ∀ (m:Nat) (t:Tr) (p:Way) (pre:List El) (V:World),t.sz<=m->pre ++ pp p t <+: L->TB w0 t->CK w0 V->J pre V->p.length<=pre.length->b1<=V.heap.size ->
   CallsIn Fence.wide n Tryz.prog 58 #[.agg #[.int .i64 t.f.k,.int .i64 t.f.n,.int .i64 t.f.mn,.int .i64 t.f.mx,.slice t.f.rq t.f.rs.length t.f.rc,.slice t.f.kq t.f.kl t.f.kc],.int .i64 ((p.length:Int)+1),.func (.yield l) #[] #[]] V (rC w0 b1 L J Jx (pre ++ pp p t)):=by
 intro m
 induction m with
 | zero=>intro t p pre V hm;exact absurd (nT t) (by omega)
 | succ m ih=>
  intro t p pre V hm hpre hta hck hj hpl hb1
  have hfn:∀ f,Fence.wide.fn f:=fun _=>trivial
  have IH:=aB ih
  have HL:=aB hL
  have HPRE:=aB hpre
  have HTA:=aB hta
  have HM:=aB hm
  have hlen:=hL pre V hj
  obtain⟨q,cap,hkv,hk1,hk2,hk3⟩:=hta.node.k.slice
  injection hkv with hkq hkl hkc
  subst hkq
  have HKL:=aB hkl
  have HK3:=aB hk3
  have hkm:t.ks.length<=9223372036854775807:=hk1
  clear hkl hkc hk3 hk1
  have B1:Hid (Below V.heap.size V (V.alloc (.cells #[.int .i64 t.f.k,.int .i64 t.f.n,.int .i64 t.f.mn,.int .i64 t.f.mx,.slice t.f.rq t.f.rs.length t.f.rc,.slice t.f.kq t.f.kl t.f.kc] 25))):=bz9
  have N1:Hid (BoxN (V.alloc (.cells #[.int .i64 t.f.k,.int .i64 t.f.n,.int .i64 t.f.mn,.int .i64 t.f.mx,.slice t.f.rq t.f.rs.length t.f.rc,.slice t.f.kq t.f.kl t.f.kc] 25)) V.heap.size t.f):=aE V _
  have J1:Hid (J pre (V.alloc (.cells #[.int .i64 t.f.k,.int .i64 t.f.n,.int .i64 t.f.mn,.int .i64 t.f.mx,.slice t.f.rq t.f.rs.length t.f.rc,.slice t.f.kq t.f.kl t.f.kc] 25))):=hJ.alloc _ hj
  have C1:Hid (CK w0 (V.alloc (.cells #[.int .i64 t.f.k,.int .i64 t.f.n,.int .i64 t.f.mn,.int .i64 t.f.mx,.slice t.f.rq t.f.rs.length t.f.rc,.slice t.f.kq t.f.kl t.f.kc] 25))):=hck.trans (CK.of_below B1.out)
  have Hb1:=aB hb1
  clear ih hL hpre hta hm hj hck hb1
  refine callsIn_of_wp Tryz.func58 rfl trivial ?_ rfl
  simp only [Tryz.ntmps58,List.size_toArray,List.length_cons,List.length_nil,Nat.reduceAdd,Nat.reduceSub,Array.replicate_succ,Array.replicate_zero,List.push_toArray,List.append_toArray,List.nil_append,List.cons_append]
  have cs:=N1.out.six
  obtain⟨fn,tmps,assign,body,hy,hR⟩:=hY pre (p,t) _ J1.out (eZ HPRE.out List.nil_prefix)
  simp only [mH] at hy
  obtain⟨c0,c1,c2,c3,c4,c5⟩:=cs
  simp only [Nat.zero_add] at c1 c2 c3 c4 c5
  gi_wp2
  refine⟨(fun z=>by cases z),hR.mono ?_⟩
  rintro e W3 ⟨-,(⟨rfl,hJ3,hk3⟩ | ⟨rfl,hJx3⟩)⟩
  ·have cc5:W3.cell? ⟨V.heap.size,5,none⟩=some (.slice t.f.kq t.f.kl t.f.kc):=cC hk3 (p:=⟨V.heap.size,5,none⟩) (.inr Hb1.out) c5
   have J3:=aB hJ3
   have C3:Hid (CK w0 W3):=C1.out.step ⟨hk3.size,fun i cur ty fr hi hc=>hk3.same i cur ty fr (.inl hi) hc⟩
   have S3:Hid (b1<=W3.heap.size):=Nat.le_trans Hb1.out (Nat.le_trans B1.out.size hk3.size)
   rw [HKL.out] at cc5
   clear hJ3 hk3 hy hR c0 c1 c2 c3 c4 c5 J1 C1 N1 B1
   gi_wp2
   gi_loopw [17] (fun i wr=>∃ j:Nat,j<=t.ks.length/\i=.int .i64 (j:Int)/\J (pre ++ (p,t) :: pps t p 0 (t.ks.take j)) wr/\CK w0 wr/\b1<=wr.heap.size) (fun i _=>t.ks.length - (intOf i).toNat)
   case atStart=>exact⟨0,Nat.zero_le _,rfl,by rw [List.take_zero,aQ];exact J3.out,C3.out,S3.out⟩
   case round=>
    clear J3 C3 S3 cc5
    obtain⟨j,hj,rfl,hj1,hj2,hj3⟩:=hrel
    have HJ:=aB hj1
    have HC:=aB hj2
    have HS:=aB hj3
    clear hj1 hj2 hj3
    by_cases hjl:j < t.ks.length
    ·have e0:(j:Int) < (t.ks.length:Int):=by omega
     obtain⟨u,hu⟩:∃ u,t.ks[j]?=some u:=⟨_,List.getElem?_eq_getElem hjl⟩
     obtain⟨g,off,hq,hg,hsix⟩:=HK3.out j u hu
     rw [hq]
     have HU:=aB hu
     have hin:u∈t.ks:=List.mem_of_getElem? hu
     obtain⟨c0,c1,c2,c3,c4,c5⟩:=hsix.ck HC.out hg
     have B4:Hid (Below wr.heap.size wr (wr.alloc (.cells #[.int .i64 u.f.k,.int .i64 u.f.n,.int .i64 u.f.mn,.int .i64 u.f.mx,.slice u.f.rq u.f.rs.length u.f.rc,.slice u.f.kq u.f.kl u.f.kc] 25))):=bz9
     have N4:Hid (BoxN (wr.alloc (.cells #[.int .i64 u.f.k,.int .i64 u.f.n,.int .i64 u.f.mn,.int .i64 u.f.mx,.slice u.f.rq u.f.rs.length u.f.rc,.slice u.f.kq u.f.kl u.f.kc] 25)) wr.heap.size u.f):=aE wr _
     obtain⟨d0,d1,d2,d3,d4,d5⟩:=N4.out.six
     simp only [Nat.zero_add] at d1 d2 d3 d4 d5
     have hj1:=HL.out _ _ HJ.out
     have IHU:=aB (IH.out u ((t,j) :: p) (pre ++ (p,t) :: pps t p 0 (t.ks.take j)) (wr.alloc (.cells #[.int .i64 u.f.k,.int .i64 u.f.n,.int .i64 u.f.mn,.int .i64 u.f.mx,.slice u.f.rq u.f.rs.length u.f.rc,.slice u.f.kq u.f.kl u.f.kc] 25)) (by have:=nU hin;have:=HM.out;omega)
      (by rw [List.append_assoc,List.cons_append,<- iP hu];exact eZ HPRE.out (tJ _)) (HTA.out.kid hin) (HC.out.trans (CK.of_below B4.out)) (hJ.alloc _ HJ.out) (by simp;omega) (Nat.le_trans HS.out B4.out.size))
     have e1:((((t,j) :: p).length:Nat):Int)+1=((p.length:Int)+1)+1:=by simp
     rw [e1] at IHU
     clear hsix hu
     gi_wp2
     refine⟨(fun z=>by cases z),(callsIn_wide.2 (callsIn_wide.1 IHU.out)).mono ?_⟩
     rintro e W5 ⟨r5,rfl,h5⟩
     have H5:=aB h5
     clear h5 c0 c1 c2 c3 c4 c5 d0 d1 d2 d3 d4 d5 IHU N4 B4
     cases r5 with
     | true=>
      rcases H5.out with⟨-,h51,h52,h53⟩ | ⟨z,-⟩
      ·have HN:Hid (J (pre ++ (p,t) :: pps t p 0 (t.ks.take (j+1))) W5):=(by rw [iP HU.out,<- List.cons_append,<- List.append_assoc];exact h51)
       have H52:=aB h52
       have H53:=aB h53
       clear h51 h52 h53 H5
       gi_wp2
       go_roundw
       case rel=>exact⟨j+1,by omega,by go_num,HN.out,H52.out,H53.out⟩
       case measure=>simp only [intOf];omega
      ·cases z
     | false=>
      rcases H5.out with⟨z,-⟩ | ⟨-,pre',h51,h52⟩
      ·cases z
      ·have HN:=aB (⟨pre',h51,h52⟩:∃ pre',pre' <+: L/\Jx pre' W5)
       clear H5 h51 h52
       gi_wp2
       go_ret
       exact⟨false,rfl,.inr ⟨rfl,HN.out⟩⟩
    ·have e0:¬ (j:Int) < (t.ks.length:Int):=by omega
     have HN:Hid (J (pre ++ pp p t) wr):=(by rw [cN,show t.ks=t.ks.take j by rw [List.take_of_length_le (by omega)]];exact HJ.out)
     gi_wp2
     go_ret
     exact⟨true,rfl,.inl ⟨rfl,HN.out,HC.out,HS.out⟩⟩
  ·have HN:=aB hJx3
   clear hJx3
   gi_wp2
   go_ret
   exact⟨false,rfl,.inr ⟨rfl,_,eZ HPRE.out List.nil_prefix,HN.out⟩⟩
theorem oD(f:Fl)(w:World) :
  Calls Tryz.prog 26 #[.agg #[.int .i64 f.k,.int .i64 f.n,.int .i64 f.mn,.int .i64 f.mx,.slice f.rq f.rs.length f.rc,.slice f.kq f.kl f.kc]] w fun e w'=>e=.returned (.func (.func 57) #[] #[.pointer (some ⟨w.heap.size,0,none⟩)])/\w'=w.alloc (.cells #[.int .i64 f.k,.int .i64 f.n,.int .i64 f.mn,.int .i64 f.mx,.slice f.rq f.rs.length f.rc,.slice f.kq f.kl f.kc] 25):=by
 go_enter Tryz.func26,Tryz.ntmps26
 go_wp2
 go_ret
 exact⟨rfl,rfl⟩
def lX(t:Tr)(pre:List El)(x:El)(_:World):Prop:=pre ++ [x] <+: pp [] t
theorem pW(n:Nat){w0 w:World}{b:Nat}{t:Tr}(hB:BoxN w b t.f)(hta:TB w0 t)(hck:CK w0 w) :
  aE0 n Tryz.prog 57 #[.pointer (some ⟨b,0,none⟩)] mH (Nn w0.heap.size w.heap.size) (lX t) (fun xs=>xs=pp [] t) (fun pre=>pre <+: pp [] t) w:=by
 intro l J Jx V hV hJ hJx hb hY h0
 have hfn:∀ f,Fence.wide.fn f:=fun _=>trivial
 have D:=aB (aH9 (w0:=w0) (L:=pp [] t) (b1:=w.heap.size) (Jx:=Jx) hJ n hb (fun pre x V=>hY pre x V) t.sz t [] [] V lz9 (by rw [List.nil_append];exact List.prefix_refl _) hta (hck.step ⟨hV.size,fun k _ _ _ _ hc=>(hV.block k (aA hc)).trans hc⟩) h0 lz9 hV.size)
 have HB:Hid (BoxN V b t.f):=(hV.block _ (aA hB)).trans hB
 obtain⟨c0,c1,c2,c3,c4,c5⟩:=HB.out.six
 simp only [Nat.zero_add] at c1 c2 c3 c4 c5
 clear hJ hJx hb hY h0 hB hta hck hV
 refine callsIn_of_wp Tryz.func57 rfl trivial ?_ rfl
 simp only [Tryz.ntmps57,List.size_toArray,List.length_cons,List.length_nil,Nat.reduceAdd,Nat.reduceSub,Array.replicate_succ,Array.replicate_zero,List.push_toArray,List.append_toArray,List.nil_append,List.cons_append]
 gi_wp2
 refine⟨(fun z=>by cases z),(callsIn_wide.2 (callsIn_wide.1 D.out)).mono ?_⟩
 rintro e W5 ⟨r5,rfl,h5⟩
 have H5:=aB h5
 clear h5 D
 gi_wp2
 go_end0
 refine⟨⟨_,rfl⟩,?_⟩
 rcases H5.out with⟨-,h51,-,-⟩ | ⟨-,pre',h51,h52⟩
 ·exact .inl ⟨_,rfl,by rw [List.nil_append] at h51;exact h51⟩
 ·exact .inr ⟨pre',h51,h52⟩
theorem yG{w0 W W':World}{B:Nat}{row:Option Nat}(h:CK w0 W)(hg:W.grownBy W' row)(hr:∀ r,row=some r->B<=r/\∃ o:Obj,W.heap[r]?=some o/\o.isCells=false):CK w0 W':=
 ⟨Nat.le_trans h.size hg.size,fun k cur t fr hk hc=>aZ hg hr (h.same k cur t fr hk hc)⟩
def cS(a:Act)(q d:Nat)(x:El):Act:={ tmps:=(a.tmps.setIfInBounds q (.int .i64 ((x.1.length:Int)+1))).setIfInBounds d (.agg #[.int .i64 x.2.f.k,.int .i64 x.2.f.n,.int .i64 x.2.f.mn,.int .i64 x.2.f.mx,.slice x.2.f.rq x.2.f.rs.length x.2.f.rc,.slice x.2.f.kq x.2.f.kl x.2.f.kc]),defers:=[] }
def cL(a:Act)(D:Nat):Act:={ a with defers:={ target:=.collected D,args:=#[] } :: a.defers }
theorem wK{g:Operand}{ps:Array Tmp}{assign body:Code}{Q:Exit->Act->World->Prop}{a:Act}{w:World}{n:Nat}(hn:1<=n)(q d:Nat)(b:Nat){w0:World}{t:Tr}
  (hg:a.eval g=.func (.func 57) #[] #[.pointer (some ⟨b,0,none⟩)]) (hps:ps=#[q,d]) (hB:BoxN w b t.f) (hta:TB w0 t) (hck:CK w0 w)
  (I:List El->World->Prop) (Ix:Code->List El->World->Prop) (hI:OwnFrom w.heap.size I) (hIx:∀ c,OwnFrom w.heap.size (Ix c)) (hbd:∀ pre W,I pre W->pre.length<=1000000) (h0:I [] w)
  (Ax:Act->El->Act->World->Prop) (hAx:∀ y x a',OwnFrom w.heap.size (fun (_:Unit) W=>Ax y x a' W))
  (hassign:∀ (l:Nat) (pre:List El) (x:El) (W:World) (K:Act->World->Prop),I pre W->CK w0 W->w.heap.size<=W.heap.size->lX t pre x W->(∀ a' W',Below W.heap.size W W'->Ax (cS a q d x) x a' W'->K a' W') ->
   assign.wpIn (Fence.wide.inRound l) (n - 1 - 1) Tryz.prog (Exit.then K (fun _ _ _=>False)) (cS a q d x) W)
  (hbody:∀ (l:Nat) (pre:List El) (x:El) (a':Act) (V:World),I pre V->CK w0 V->w.heap.size<=V.heap.size->lX t pre x V->Ax (cS a q d x) x a' V->body.wpIn (Fence.wide.inRound l) (n - 1 - 1) Tryz.prog (ownPostG w.heap.size (CKeep (Nn w0.heap.size w.heap.size)) I Ix (pre ++ [x]) V) a' V)
  (hdone:∀ (D:Nat) (V:World),w.heap.size<=D->I (pp [] t) V->CK w0 V->V.heap[D]?=some (.deferred (some []))->Q .normal (cL a D) V)
  (hstop:∀ (D:Nat) (c:Code) (pre:List El) (V:World),w.heap.size<=D->pre <+: pp [] t->Ix c pre V->V.heap[D]?=some (.deferred (some []))->c.wpIn Fence.wide n Tryz.prog Q (cL a D) V) :
  (Code.rangeFunc g ps assign body).wpIn Fence.wide n Tryz.prog Q a w:=by
 subst hps
 refine rQ (α:=El) hn (gf:=57) hg (enters_of Tryz.func57 (by kernel_rfl) rfl) (aR:=mH) (fun _=>rfl)
  (pW (n - 1) hB hta hck) (fun pre V=>I pre V/\CK w0 V/\w.heap.size<=V.heap.size) Ix ?_ hIx (fun pre x _ _ _ _ h _ _=>h) (fun pre W h=>hbd pre W h.1) ⟨h0,hck,Nat.le_refl _⟩ (fun x=>Ax (cS a q d x) x) (fun x=>hAx _ x) ?_ ?_ ?_ hstop
 ·intro pre A A' row hi hg hr
  exact⟨hI pre A A' row hi.1 hg hr,yG hi.2.1 hg hr,Nat.le_trans hi.2.2 hg.size⟩
 ·intro l pre x V K hi ht hK
  have:=hassign l pre x V K hi.1 hi.2.1 hi.2.2 ht hK
  simpa [mH,cS] using this
 ·intro l pre x a' V hi ht hax
  refine wpIn_mono (hbody l pre x a' V hi.1 hi.2.1 hi.2.2 ht hax) fun e a3 W3 hp=>?_
  cases e with
  | normal=>exact⟨hp.1,hp.2.1,hp.2.2,hi.2.1.step ⟨hp.2.1.size,fun k cur ty fr hk hc=>hp.2.1.same k cur ty fr (.inl hk) hc⟩,Nat.le_trans hi.2.2 hp.1.size⟩
  | ret=>exact hp
  | exit id=>exact hp
  | goto t=>exact hp
  | panic ch=>exact hp
  | outgrown=>exact hp
 ·rintro D xs V hD rfl hi hK
  exact hdone D V hD hi.1 hi.2.1 hK
def Ax0(y:Act)(_:El)(a':Act)(_:World):Prop:=a'=y
theorem aC5(B:Nat)(y:Act)(x:El)(a':Act):OwnFrom B (fun (_:Unit) W=>Ax0 y x a' W):=fun _ _ _ _ h _ _=>h
end
section
open Go Go.RowKit Go.Shelf
attribute [local go_sem] Oper.semAt_some
def BoxI(W:World)(b:Nat)(x:Int):Prop:=W.heap[b]?=some (.cells #[.int .i64 x] 3 (0,0))
theorem BoxI.cell{W:World}{b:Nat}{x:Int}(h:BoxI W b x):W.cell? ⟨b,0,none⟩=some (.int .i64 x):=aC h (i:=0) rfl
theorem BoxI.row{W W':World}{b B:Nat}{x:Int}{row:Option Nat}(h:BoxI W b x)(hg:W.grownBy W' row)(hr:∀ r,row=some r->B<=r/\∃ o:Obj,W.heap[r]?=some o/\o.isCells=false):BoxI W' b x:=aZ hg hr h
theorem BoxI.set{W:World}{b:Nat}{x:Int}(h:BoxI W b x)(y:Int):BoxI (W.setCell ⟨b,0,none⟩ (.int .i64 y)) b y:=bB h 0 _
theorem BoxI.fr{W:World}{b:Nat}(v:Value):Fr (fun z=>z=b) W (W.setCell ⟨b,0,none⟩ v):=(Fr.refl (fun z=>z=b) W).setCell (p:=⟨b,0,none⟩) rfl _
def mI(t:Tr):Nat:=min (pp [] t).length 2001
theorem eB{n B:Nat}{w W W':World}{row:Option Nat}(h:Below n w W)(hn:n<=w.heap.size)(hB:n<=B)(hg:W.grownBy W' row)(hr:∀ r,row=some r->B<=r/\∃ o:Obj,W.heap[r]?=some o/\o.isCells=false):Below n w W':=
 h.trans ⟨hg.os,hg.tape,hg.output,hg.size,fun k hk=>hg.block k (by have:=h.size;omega) (fun e=>by have:=(hr k e.symm).1;omega)⟩
theorem fO{n:Nat}{w W:World}{D:Nat}(o:Obj)(h:Below n w W)(hD:n<=D):Below n w (W.putObj D o):=
 h.trans ⟨rfl,rfl,rfl,(grownBy_putObj' W D o).size,fun k hk=>World.putObj_heap_other (by omega)⟩
theorem aI0(n:Nat)(hn:3<=n){w:World}{t:Tr}(hta:TB w t) :
  CallsIn Fence.wide n Tryz.prog 76 #[.agg #[.int .i64 t.f.k,.int .i64 t.f.n,.int .i64 t.f.mn,.int .i64 t.f.mx,.slice t.f.rq t.f.rs.length t.f.rc,.slice t.f.kq t.f.kl t.f.kc]] w fun e w'=>e=.returned (.int .i64 (mI t:Int))/\Below w.heap.size w w':=by
 have hfn:∀ f,Fence.wide.fn f:=fun _=>trivial
 refine callsIn_of_wp_marks Tryz.func76 rfl trivial ?_ rfl
 simp only [Tryz.ntmps76,List.size_toArray,List.length_cons,List.length_nil,Nat.reduceAdd,Nat.reduceSub,Array.replicate_succ,Array.replicate_zero,List.push_toArray,List.append_toArray,List.nil_append,List.cons_append]
 refine wpIn_wide.2 ?_
 have HTA:=aB hta
 have B1:Hid (Below w.heap.size w ((w.alloc (.cells #[.int .i64 t.f.k,.int .i64 t.f.n,.int .i64 t.f.mn,.int .i64 t.f.mx,.slice t.f.rq t.f.rs.length t.f.rc,.slice t.f.kq t.f.kl t.f.kc] 25)).alloc (.cells #[.int .i64 0] 3))):=(bz9).alloc (by simp) _
 have N1:Hid (BoxN ((w.alloc (.cells #[.int .i64 t.f.k,.int .i64 t.f.n,.int .i64 t.f.mn,.int .i64 t.f.mx,.slice t.f.rq t.f.rs.length t.f.rc,.slice t.f.kq t.f.kl t.f.kc] 25)).alloc (.cells #[.int .i64 0] 3)) w.heap.size t.f):=(Below.heap_alloc _ _ _ (by simp)).trans (aE w _)
 have N2:Hid (BoxI ((w.alloc (.cells #[.int .i64 t.f.k,.int .i64 t.f.n,.int .i64 t.f.mn,.int .i64 t.f.mx,.slice t.f.rq t.f.rs.length t.f.rc,.slice t.f.kq t.f.kl t.f.kc] 25)).alloc (.cells #[.int .i64 0] 3)) (w.heap.size+1) 0):=(by
  have:=aE (w.alloc (.cells #[.int .i64 t.f.k,.int .i64 t.f.n,.int .i64 t.f.mn,.int .i64 t.f.mx,.slice t.f.rq t.f.rs.length t.f.rc,.slice t.f.kq t.f.kl t.f.kc] 25)) (.cells #[.int .i64 0] 3)
  rwa [World.size_alloc] at this)
 obtain⟨c0,c1,c2,c3,c4,c5⟩:=N1.out.six
 simp only [Nat.zero_add] at c1 c2 c3 c4 c5
 go_wp2_with (go_at_call 26;(with_reducible refine(oD _ _).mono ?_);rintro e w3 ⟨rfl,rfl⟩)
 have N3:BoxN (((w.alloc (.cells #[.int .i64 t.f.k,.int .i64 t.f.n,.int .i64 t.f.mn,.int .i64 t.f.mx,.slice t.f.rq t.f.rs.length t.f.rc,.slice t.f.kq t.f.kl t.f.kc] 25)).alloc (.cells #[.int .i64 0] 3)).alloc (.cells #[.int .i64 t.f.k,.int .i64 t.f.n,.int .i64 t.f.mn,.int .i64 t.f.mx,.slice t.f.rq t.f.rs.length t.f.rc,.slice t.f.kq t.f.kl t.f.kc] 25)) (w.heap.size+1+1) t.f:=(by
  have:=aE ((w.alloc (.cells #[.int .i64 t.f.k,.int .i64 t.f.n,.int .i64 t.f.mn,.int .i64 t.f.mx,.slice t.f.rq t.f.rs.length t.f.rc,.slice t.f.kq t.f.kl t.f.kc] 25)).alloc (.cells #[.int .i64 0] 3)) (.cells #[.int .i64 t.f.k,.int .i64 t.f.n,.int .i64 t.f.mn,.int .i64 t.f.mx,.slice t.f.rq t.f.rs.length t.f.rc,.slice t.f.kq t.f.kl t.f.kc] 25)
  rwa [World.size_alloc,World.size_alloc] at this)
 have I3:BoxI (((w.alloc (.cells #[.int .i64 t.f.k,.int .i64 t.f.n,.int .i64 t.f.mn,.int .i64 t.f.mx,.slice t.f.rq t.f.rs.length t.f.rc,.slice t.f.kq t.f.kl t.f.kc] 25)).alloc (.cells #[.int .i64 0] 3)).alloc (.cells #[.int .i64 t.f.k,.int .i64 t.f.n,.int .i64 t.f.mn,.int .i64 t.f.mx,.slice t.f.rq t.f.rs.length t.f.rc,.slice t.f.kq t.f.kl t.f.kc] 25)) (w.heap.size+1) 0:=(Below.heap_alloc _ _ _ (by simp)).trans N2.out
 have B3:Below w.heap.size w (((w.alloc (.cells #[.int .i64 t.f.k,.int .i64 t.f.n,.int .i64 t.f.mn,.int .i64 t.f.mx,.slice t.f.rq t.f.rs.length t.f.rc,.slice t.f.kq t.f.kl t.f.kc] 25)).alloc (.cells #[.int .i64 0] 3)).alloc (.cells #[.int .i64 t.f.k,.int .i64 t.f.n,.int .i64 t.f.mn,.int .i64 t.f.mx,.slice t.f.rq t.f.rs.length t.f.rc,.slice t.f.kq t.f.kl t.f.kc] 25)):=B1.out.alloc (by simp;omega) _
 generalize (((w.alloc (.cells #[.int .i64 t.f.k,.int .i64 t.f.n,.int .i64 t.f.mn,.int .i64 t.f.mx,.slice t.f.rq t.f.rs.length t.f.rc,.slice t.f.kq t.f.kl t.f.kc] 25)).alloc (.cells #[.int .i64 0] 3)).alloc (.cells #[.int .i64 t.f.k,.int .i64 t.f.n,.int .i64 t.f.mn,.int .i64 t.f.mx,.slice t.f.rq t.f.rs.length t.f.rc,.slice t.f.kq t.f.kl t.f.kc] 25))=w4 at N3 I3 B3 ⊢
 have L3:=aA N3
 have L4:=aA I3
 obtain⟨bi,hbi⟩:∃ bi,w.heap.size+1=bi:=⟨_,rfl⟩
 rw [hbi] at I3 N3 L3 L4 ⊢
 obtain⟨bn,hbn⟩:∃ bn,bi+1=bn:=⟨_,rfl⟩
 rw [hbn] at N3 L3 ⊢
 have hwi:w.heap.size<=bi:=by omega
 clear N1 N2 B1 c0 c1 c2 c3 c4 c5 hbi hbn
 refine(wpIn_wide (n:=n)).1 ?_
 refine wK (by omega) 6 7 bn rfl rfl N3 HTA.out (CK.of_below B3) (fun pre V=>BoxI V bi (pre.length:Int)/\pre.length<=2000/\Below w.heap.size w V) (fun c pre V=>c=.exit 0/\BoxI V bi 2001/\pre.length=2001/\Below w.heap.size w V)
  ?_ ?_ (fun pre W h=>by omega) ⟨I3,by simp,B3⟩ Ax0 (aC5 _) ?_ ?_ ?_ ?_
 ·rintro pre A A' row ⟨h1,h2,h3⟩ hg hr
  exact⟨h1.row hg hr,h2,eB h3 lz9 B3.size hg hr⟩
 ·rintro c pre A A' row ⟨h0,h1,h2,h3⟩ hg hr
  exact⟨h0,h1.row hg hr,h2,eB h3 lz9 B3.size hg hr⟩
 ·intro l pre x V K _ _ _ _ hK
  gi_wp2
  exact hK _ _ (Below.refl _ _) rfl
 ·rintro l pre x a' V ⟨h1,h2,h3⟩ hck hsz ht rfl
  have H1:=aB h1
  have H3:=aB h3
  have k0:=h1.cell
  have fz:=bM h1 0
  have HS:=aB hsz
  clear h1 h3 hck ht hsz
  have F1:Hid (Fr (fun z=>z=bi) V (V.setCell ⟨bi,0,none⟩ (.int .i64 ((pre.length:Int)+1)))):=BoxI.fr _
  have X1:Hid (BoxI (V.setCell ⟨bi,0,none⟩ (.int .i64 ((pre.length:Int)+1))) bi ((pre.length:Int)+1)):=H1.out.set _
  have HP:Hid (KeepsFrom w4.heap.size V (V.setCell ⟨bi,0,none⟩ (.int .i64 ((pre.length:Int)+1)))/\CKeep (Nn w.heap.size w4.heap.size) V (V.setCell ⟨bi,0,none⟩ (.int .i64 ((pre.length:Int)+1)))/\Below w.heap.size w (V.setCell ⟨bi,0,none⟩ (.int .i64 ((pre.length:Int)+1)))):=
   ⟨F1.out.keepsFrom (fun k hk=>by omega),F1.out.ckeep (fun k hk=>by rintro (z | z) <;> omega),dQ H3.out F1.out lz9 (fun k e=>by omega)⟩
  have k1:=X1.out.cell
  simp only [cS]
  by_cases hlt:2000<=pre.length
  ·have e1:(2000:Int) < (pre.length:Int)+1:=by omega
   gi_wp2
   refine⟨HP.out.1,rfl,by have:=X1.out;rwa [show (pre.length:Int)+1=2001 by omega] at this ⊢,by simp;omega,HP.out.2.2⟩
  ·have e1:¬ (2000:Int) < (pre.length:Int)+1:=by omega
   gi_wp2
   refine⟨HP.out.1,HP.out.2.1,by simpa using X1.out,by simp;omega,HP.out.2.2⟩
 ·rintro D V hD ⟨h1,h2,h3⟩ hck hK
  have k0:=h1.cell
  have e1:mI t=(pp [] t).length:=by unfold mI;omega
  have H3:=aB h3
  have HK:=aB hK
  have HD:=aB hD
  simp only [cL]
  go_wp2
  refine⟨by simp,.inl ⟨_,_,rfl,run_takeDeferred HK.out,?_⟩⟩
  refine⟨.int .i64 (mI t:Int),by simp [results,Tryz.results76,go_sem,e1],rfl,fO _ H3.out (Nat.le_trans B3.size HD.out)⟩
 ·rintro D c pre V hD hpre ⟨rfl,h1,h2,h3⟩ hK
  have k0:=h1.cell
  have e1:mI t=2001:=by unfold mI;have:=hpre.length_le;omega
  have H3:=aB h3
  have HK:=aB hK
  have HD:=aB hD
  refine(wpIn_wide (n:=n)).2 ?_
  simp only [cL]
  go_wp2
  refine⟨by simp,.inl ⟨_,_,rfl,run_takeDeferred HK.out,?_⟩⟩
  refine⟨.int .i64 (mI t:Int),by simp [results,Tryz.results76,go_sem,e1],rfl,fO _ H3.out (Nat.le_trans B3.size HD.out)⟩
theorem aK0{w:World}{t:Tr}(hta:TB w t):Calls Tryz.prog 76 #[.agg #[.int .i64 t.f.k,.int .i64 t.f.n,.int .i64 t.f.mn,.int .i64 t.f.mx,.slice t.f.rq t.f.rs.length t.f.rc,.slice t.f.kq t.f.kl t.f.kc]] w fun e w'=>e=.returned (.int .i64 (mI t:Int))/\Below w.heap.size w w':=callsIn_wide.1 (aI0 3 (by decide) hta)
theorem mM{w:World}{t:Tr}(hta:TB w t):Calls Tryz.prog 33 #[.agg #[.int .i64 t.f.k,.int .i64 t.f.n,.int .i64 t.f.mn,.int .i64 t.f.mx,.slice t.f.rq t.f.rs.length t.f.rc,.slice t.f.kq t.f.kl t.f.kc]] w fun e w'=>e=.returned (.bool (decide (2000 < (pp [] t).length)))/\Below w.heap.size w w':=by
 have HTA:=aB hta
 have B1:Hid (Below w.heap.size w (w.alloc (.cells #[.int .i64 t.f.k,.int .i64 t.f.n,.int .i64 t.f.mn,.int .i64 t.f.mx,.slice t.f.rq t.f.rs.length t.f.rc,.slice t.f.kq t.f.kl t.f.kc] 25))):=bz9
 have N1:Hid (BoxN (w.alloc (.cells #[.int .i64 t.f.k,.int .i64 t.f.n,.int .i64 t.f.mn,.int .i64 t.f.mx,.slice t.f.rq t.f.rs.length t.f.rc,.slice t.f.kq t.f.kl t.f.kc] 25)) w.heap.size t.f):=aE w _
 obtain⟨c0,c1,c2,c3,c4,c5⟩:=N1.out.six
 simp only [Nat.zero_add] at c1 c2 c3 c4 c5
 have e1:(decide ((2000:Int) < (mI t:Int)))=decide (2000 < (pp [] t).length):=by
  rw [decide_eq_decide]
  unfold mI
  omega
 clear hta
 go_enter Tryz.func33,Tryz.ntmps33
 go_wp2_with (go_at_call 76;(with_reducible refine(aK0 (HTA.out.kept B1.out)).mono ?_);rintro e w3 ⟨rfl,h3⟩;have B3:Hid (Below w.heap.size w w3):=aF B1.out h3 lz9;clear h3)
 go_ret
 exact⟨by rw [<- e1];rfl,B3.out⟩
end
structure bV where
 f:Fl
 s:Int
def Seven(W:World)(g o:Nat)(x:bV):Prop:=Six W g o x.f/\W.cell? ⟨g,o+6,none⟩=some (.int .i64 x.s)
structure CB(W:World)(b:Nat)(c f:Bool)(ah gr:Int)(A:Nat->bV):Prop where
 blk:∃ cur,W.heap[b]?=some (.cells cur 63 (0,0))
 c0:W.cell? ⟨b,0,none⟩=some (.bool c)
 c1:W.cell? ⟨b,1,none⟩=some (.bool f)
 c2:W.cell? ⟨b,2,none⟩=some (.int .i64 ah)
 c3:W.cell? ⟨b,3,none⟩=some (.int .i64 gr)
 sp:∀ d,d < 41->Seven W b (4+d * 7) (A d)
theorem CB.lt{W:World}{b:Nat}{c f:Bool}{ah gr:Int}{A:Nat->bV}(h:CB W b c f ah gr A):b < W.heap.size:=by
 obtain⟨cur,h⟩:=h.blk
 exact aA h
theorem CB.ck{N:Nat->Prop}{W W':World}{b:Nat}{c f:Bool}{ah gr:Int}{A:Nat->bV}(h:CB W b c f ah gr A)(hk:CKeep N W W')(hb:N b):CB W' b c f ah gr A:=by
 obtain⟨cur,hc⟩:=h.blk
 exact⟨⟨cur,hk.same _ _ _ _ hb hc⟩,cC hk (p:=⟨b,0,none⟩) hb h.c0,cC hk (p:=⟨b,1,none⟩) hb h.c1,cC hk (p:=⟨b,2,none⟩) hb h.c2,cC hk (p:=⟨b,3,none⟩) hb h.c3,fun d hd=>⟨(h.sp d hd).1.ck hk hb,cC hk (p:=⟨b,4+d * 7+6,none⟩) hb (h.sp d hd).2⟩⟩
theorem CB.kept{W W':World}{b:Nat}{c f:Bool}{ah gr:Int}{A:Nat->bV}(h:CB W b c f ah gr A)(hb:Below W.heap.size W W'):CB W' b c f ah gr A:=h.ck (CK.of_below hb) h.lt
theorem CB.row{W W':World}{b B:Nat}{c f:Bool}{ah gr:Int}{A:Nat->bV}{row:Option Nat}(h:CB W b c f ah gr A)(hg:W.grownBy W' row)(hr:∀ r,row=some r->B<=r/\∃ o:Obj,W.heap[r]?=some o/\o.isCells=false):CB W' b c f ah gr A:=
 h.ck (N:=fun _=>True) ⟨hg.size,fun _ _ _ _ _ hc=>aZ hg hr hc⟩ trivial
theorem aF9{b i j:Nat}(h:i≠j):(⟨b,i,none⟩:Addr)≠⟨b,j,none⟩:=fun e=>h (by injection e)
theorem aD{W:World}{b i j:Nat}{u v:Value}(h:W.cell? ⟨b,i,none⟩=some v)(hij:i≠j):(W.setCell ⟨b,j,none⟩ u).cell? ⟨b,i,none⟩=some v:=by
 rw [World.cell?_setCell_other]
 ·exact h
 ·exact aF9 hij.symm
theorem Six.off{W:World}{b o j:Nat}{u:Value}{f:Fl}(h:Six W b o f)(hj:j < o\/o+6<=j):Six (W.setCell ⟨b,j,none⟩ u) b o f:=
 ⟨aD h.1 (by omega),aD h.2.1 (by omega),aD h.2.2.1 (by omega),aD h.2.2.2.1 (by omega),aD h.2.2.2.2.1 (by omega),aD h.2.2.2.2.2 (by omega)⟩
theorem dL{W:World}{b:Nat}{t:TypeId}(h:∃ cur,W.heap[b]?=some (.cells cur t (0,0)))(j:Nat)(u:Value):∃ cur,(W.setCell ⟨b,j,none⟩ u).heap[b]?=some (.cells cur t (0,0)):=by
 obtain⟨cur,hc⟩:=h
 exact⟨_,bB hc j u⟩
theorem Seven.off{W:World}{b o j:Nat}{u:Value}{x:bV}(h:Seven W b o x)(hj:j < o\/o+7<=j):Seven (W.setCell ⟨b,j,none⟩ u) b o x:=
 ⟨h.1.off (by omega),aD h.2 (by omega)⟩
theorem CB.setAh{W:World}{b:Nat}{c f:Bool}{ah gr:Int}{A:Nat->bV}(h:CB W b c f ah gr A)(x:Int):CB (W.setCell ⟨b,2,none⟩ (.int .i64 x)) b c f x gr A:=
 ⟨dL h.blk _ _,aD h.c0 (by omega),aD h.c1 (by omega),World.cell?_setCell_same _ _ _ h.c2,aD h.c3 (by omega),fun d hd=>(h.sp d hd).off (by omega)⟩
theorem CB.setGr{W:World}{b:Nat}{c f:Bool}{ah gr:Int}{A:Nat->bV}(h:CB W b c f ah gr A)(x:Int):CB (W.setCell ⟨b,3,none⟩ (.int .i64 x)) b c f ah x A:=
 ⟨dL h.blk _ _,aD h.c0 (by omega),aD h.c1 (by omega),aD h.c2 (by omega),World.cell?_setCell_same _ _ _ h.c3,fun d hd=>(h.sp d hd).off (by omega)⟩
def jQ(A:Nat->bV)(d:Nat)(x:bV):Nat->bV:=fun i=>if i=d then x else A i
theorem CB.setSeen{W:World}{b:Nat}{c f:Bool}{ah gr:Int}{A:Nat->bV}(h:CB W b c f ah gr A){d:Nat}(hd:d < 41)(x:Int):CB (W.setCell ⟨b,4+d * 7+6,none⟩ (.int .i64 x)) b c f ah gr (jQ A d ⟨(A d).f,x⟩):=
 ⟨dL h.blk _ _,aD h.c0 (by omega),aD h.c1 (by omega),aD h.c2 (by omega),aD h.c3 (by omega),fun i hi=>by
  unfold jQ
  by_cases e:i=d
  ·subst e
   rw [if_pos rfl]
   exact⟨(h.sp i hi).1.off (by omega),World.cell?_setCell_same _ _ _ (h.sp i hi).2⟩
  ·rw [if_neg e]
   exact(h.sp i hi).off (by omega)⟩
def fZ(W:World)(b o:Nat)(x:bV):World:=
 ((((((W.setCell ⟨b,o,none⟩ (.int .i64 x.f.k)).setCell ⟨b,o+1,none⟩ (.int .i64 x.f.n)).setCell ⟨b,o+2,none⟩ (.int .i64 x.f.mn)).setCell ⟨b,o+3,none⟩ (.int .i64 x.f.mx)).setCell ⟨b,o+4,none⟩ (.slice x.f.rq x.f.rs.length x.f.rc)).setCell ⟨b,o+5,none⟩ (.slice x.f.kq x.f.kl x.f.kc)).setCell ⟨b,o+6,none⟩ (.int .i64 x.s)
theorem CB.setSpot{W:World}{b:Nat}{c f:Bool}{ah gr:Int}{A:Nat->bV}(h:CB W b c f ah gr A){d:Nat}(hd:d < 41)(x:bV):CB (fZ W b (4+d * 7) x) b c f ah gr (jQ A d x):=by
 have off:∀ {i:Nat} {v:Value},W.cell? ⟨b,i,none⟩=some v->(i < 4+d * 7\/4+d * 7+7<=i)->(fZ W b (4+d * 7) x).cell? ⟨b,i,none⟩=some v:=by
  intro i v hv hi
  unfold fZ
  exact aD (aD (aD (aD (aD (aD (aD hv (by omega)) (by omega)) (by omega)) (by omega)) (by omega)) (by omega)) (by omega)
 refine⟨?_,off h.c0 (by omega),off h.c1 (by omega),off h.c2 (by omega),off h.c3 (by omega),fun i hi=>?_⟩
 ·unfold fZ
  exact dL (dL (dL (dL (dL (dL (dL h.blk _ _) _ _) _ _) _ _) _ _) _ _) _ _
 ·unfold jQ
  by_cases e:i=d
  ·subst e
   rw [if_pos rfl]
   obtain⟨⟨k0,k1,k2,k3,k4,k5⟩,k6⟩:=h.sp i hi
   unfold fZ
   refine⟨⟨?_,?_,?_,?_,?_,?_⟩,?_⟩
   ·exact aD (aD (aD (aD (aD (aD (World.cell?_setCell_same _ _ _ k0) (by omega)) (by omega)) (by omega)) (by omega)) (by omega)) (by omega)
   ·exact aD (aD (aD (aD (aD (World.cell?_setCell_same _ _ _ (aD k1 (by omega))) (by omega)) (by omega)) (by omega)) (by omega)) (by omega)
   ·exact aD (aD (aD (aD (World.cell?_setCell_same _ _ _ (aD (aD k2 (by omega)) (by omega))) (by omega)) (by omega)) (by omega)) (by omega)
   ·exact aD (aD (aD (World.cell?_setCell_same _ _ _ (aD (aD (aD k3 (by omega)) (by omega)) (by omega))) (by omega)) (by omega)) (by omega)
   ·exact aD (aD (World.cell?_setCell_same _ _ _ (aD (aD (aD (aD k4 (by omega)) (by omega)) (by omega)) (by omega))) (by omega)) (by omega)
   ·exact aD (World.cell?_setCell_same _ _ _ (aD (aD (aD (aD (aD k5 (by omega)) (by omega)) (by omega)) (by omega)) (by omega))) (by omega)
   ·exact World.cell?_setCell_same _ _ _ (aD (aD (aD (aD (aD (aD k6 (by omega)) (by omega)) (by omega)) (by omega)) (by omega)) (by omega))
  ·rw [if_neg e]
   obtain⟨⟨k0,k1,k2,k3,k4,k5⟩,k6⟩:=h.sp i hi
   exact⟨⟨off k0 (by omega),off k1 (by omega),off k2 (by omega),off k3 (by omega),off k4 (by omega),off k5 (by omega)⟩,off k6 (by omega)⟩
theorem tH(W:World)(b o:Nat)(x:bV):Fr (fun z=>z=b) W (fZ W b o x):=by
 unfold fZ
 exact(((((((Fr.refl (fun z=>z=b) W).setCell (p:=⟨b,o,none⟩) rfl _).setCell (p:=⟨b,o+1,none⟩) rfl _).setCell (p:=⟨b,o+2,none⟩) rfl _).setCell (p:=⟨b,o+3,none⟩) rfl _).setCell (p:=⟨b,o+4,none⟩) rfl _).setCell (p:=⟨b,o+5,none⟩) rfl _).setCell (p:=⟨b,o+6,none⟩) rfl _
section
attribute [local go_sem] bD
def bT(pk:Int)(seen:Int)(kl:Nat)(k:Int):Bool:=
 if pk=5 then bG k ||(k==3 && seen==0) ||(k==4 && seen==(kl:Int) - 1)
 else if pk=9 then bG k
 else if pk=6 then bX k && k != 6
 else bX k
theorem sA{w:World}{b:Nat}{c f:Bool}{ah gr:Int}{A:Nat->bV}(h:CB w b c f ah gr A){d:Nat}(hd:d < 41)(k:Int)(hkl:(A d).f.kl<=9223372036854775807) :
  Calls Tryz.prog 59 #[.pointer (some ⟨b,0,none⟩),.int .i64 ((d:Int)+1),.int .i64 k] w fun e w'=>e=.returned (.bool (bT (A d).f.k (A d).s (A d).f.kl k))/\Below w.heap.size w w':=by
 obtain⟨⟨k0,k1,k2,k3,k4,k5⟩,k6⟩:=h.sp d hd
 have hlt:=h.lt
 have e1:((d:Int)+1) - 1=(d:Int):=by omega
 have e2:(d:Int) < 41:=by omega
 have B1:Hid (Below w.heap.size w (w.alloc (.cells #[.int .i64 (A d).f.k,.int .i64 (A d).f.n,.int .i64 (A d).f.mn,.int .i64 (A d).f.mx,.slice (A d).f.rq (A d).f.rs.length (A d).f.rc,.slice (A d).f.kq (A d).f.kl (A d).f.kc,.int .i64 (A d).s] 60))):=bz9
 have N1:=aE w (.cells #[.int .i64 (A d).f.k,.int .i64 (A d).f.n,.int .i64 (A d).f.mn,.int .i64 (A d).f.mx,.slice (A d).f.rq (A d).f.rs.length (A d).f.rc,.slice (A d).f.kq (A d).f.kl (A d).f.kc,.int .i64 (A d).s] 60)
 obtain⟨r,hr⟩:∃ r,bT (A d).f.k (A d).s (A d).f.kl k=r:=⟨_,rfl⟩
 rw [hr]
 have HR:=aB hr
 clear hr
 go_enter Tryz.func59,Tryz.ntmps59
 go_upto_region 2 with fail
 have m0:(w.alloc (.cells #[.int .i64 (A d).f.k,.int .i64 (A d).f.n,.int .i64 (A d).f.mn,.int .i64 (A d).f.mx,.slice (A d).f.rq (A d).f.rs.length (A d).f.rc,.slice (A d).f.kq (A d).f.kl (A d).f.kc,.int .i64 (A d).s] 60)).cell? ⟨w.heap.size,0,none⟩=some (.int .i64 (A d).f.k):=aC N1 (i:=0) rfl
 have m5:(w.alloc (.cells #[.int .i64 (A d).f.k,.int .i64 (A d).f.n,.int .i64 (A d).f.mn,.int .i64 (A d).f.mx,.slice (A d).f.rq (A d).f.rs.length (A d).f.rc,.slice (A d).f.kq (A d).f.kl (A d).f.kc,.int .i64 (A d).s] 60)).cell? ⟨w.heap.size,5,none⟩=some (.slice (A d).f.kq (A d).f.kl (A d).f.kc):=aC N1 (i:=5) rfl
 have m6:(w.alloc (.cells #[.int .i64 (A d).f.k,.int .i64 (A d).f.n,.int .i64 (A d).f.mn,.int .i64 (A d).f.mx,.slice (A d).f.rq (A d).f.rs.length (A d).f.rc,.slice (A d).f.kq (A d).f.kl (A d).f.kc,.int .i64 (A d).s] 60)).cell? ⟨w.heap.size,6,none⟩=some (.int .i64 (A d).s):=aC N1 (i:=6) rfl
 have hlw:=aA N1
 generalize (w.alloc (.cells #[.int .i64 (A d).f.k,.int .i64 (A d).f.n,.int .i64 (A d).f.mn,.int .i64 (A d).f.mx,.slice (A d).f.rq (A d).f.rs.length (A d).f.rc,.slice (A d).f.kq (A d).f.kl (A d).f.kc,.int .i64 (A d).s] 60))=W1 at B1 m0 m5 m6 hlw ⊢
 clear N1 k0 k1 k2 k3 k4 k5 k6 hlt e1 e2 h hd
 generalize (A d).f.k=pk at m0 HR ⊢
 generalize (A d).f.kl=kl at m5 HR hkl ⊢
 generalize (A d).s=se at m6 HR ⊢
 cases h5:(pk==5) with
 | true=>
  obtain rfl:pk=5:=by simpa using h5
  go_upto_region 4 with fail
  refine wx9 ?_
  repeat (go_big_quiet_step (first | exact rfl))
  refine wpQuiet_nil ?_
  intro w2 hw
  have B2:Hid (Below w.heap.size w w2):=aF B1.out (aW hw) lz9
  clear hw B1
  have RR0:r=(bG k ||(k==3 && se==0) ||(k==4 && se==(kl:Int) - 1)):=by rw [<- HR.out];simp [bT]
  have HK:=aB (kE k)
  obtain⟨tb,htb⟩:∃ tb,bG k=tb:=⟨_,rfl⟩
  rw [htb] at HK RR0
  obtain⟨b1,hb1⟩:∃ b1,(se==0)=b1:=⟨_,rfl⟩
  obtain⟨b2,hb2⟩:∃ b2,(se==(kl:Int) - 1)=b2:=⟨_,rfl⟩
  rw [hb1,hb2] at RR0
  rw [hb1,hb2]
  have RRX:=aB RR0
  clear htb hb1 hb2 m0 m5 m6 RR0
  cases tb
  ·cases h3:(k==3)
   ·cases h4:(k==4)
    ·go_wp2_with (go_at_call 101;(with_reducible refine(HK.out _).mono ?_);rintro e w5 ⟨rfl,h5⟩;subst w5)
     go_ret
     exact⟨by rw [RRX.out,h3,h4];rfl,B2.out⟩
    ·go_wp2_with (go_at_call 101;(with_reducible refine(HK.out _).mono ?_);rintro e w5 ⟨rfl,h5⟩;subst w5)
     go_ret
     exact⟨by rw [RRX.out,h3,h4];simp,B2.out⟩
   ·obtain rfl:k=3:=by simpa using h3
    cases b1
    all_goals
     go_wp2_with (go_at_call 101;(with_reducible refine(HK.out _).mono ?_);rintro e w5 ⟨rfl,h5⟩;subst w5)
     go_ret
     exact⟨by rw [RRX.out];rfl,B2.out⟩
  ·go_wp2_with (go_at_call 101;(with_reducible refine(HK.out _).mono ?_);rintro e w5 ⟨rfl,h5⟩;subst w5)
   go_ret
   exact⟨by rw [RRX.out];rfl,B2.out⟩
 | false=>
  cases h9:(pk==9) with
  | true=>
   obtain rfl:pk=9:=by simpa using h9
   go_wp2_with (go_at_call 101;(with_reducible refine(kE _ _).mono ?_);rintro e w5 ⟨rfl,h5⟩;subst w5)
   go_ret
   exact⟨by rw [<- HR.out];simp [bT],B1.out⟩
  | false=>
   cases h6:(pk==6) with
   | true=>
    obtain rfl:pk=6:=by simpa using h6
    obtain⟨kb,hkb⟩:∃ kb,bX k=kb:=⟨_,rfl⟩
    have HK:=aB (qD k)
    rw [hkb] at HK
    have R2:r=(kb && k != 6):=by rw [<- HR.out,<- hkb];simp [bT]
    clear hkb
    cases kb with
    | true=>
     go_wp2_with (go_at_call 102;(with_reducible refine(HK.out _).mono ?_);rintro e w5 ⟨rfl,h5⟩;subst w5)
     go_ret
     exact⟨by rw [R2,Bool.true_and];rfl,B1.out⟩
    | false=>
     go_wp2_with (go_at_call 102;(with_reducible refine(HK.out _).mono ?_);rintro e w5 ⟨rfl,h5⟩;subst w5)
     go_ret
     exact⟨by rw [R2,Bool.false_and];rfl,B1.out⟩
   | false=>
    have R2:bX k=r:=by rw [<- HR.out];simp at h5 h9 h6;simp [bT,h5,h9,h6]
    go_wp2_with (go_at_call 102;(with_reducible refine(qD _ _).mono ?_);rintro e w5 ⟨rfl,h5⟩;subst w5)
    go_ret
    exact⟨by rw [<- R2];rfl,B1.out⟩
end
section
attribute [local go_sem] bD
def inB(A:Nat->bV)(d:Nat)(num:Int):Bool:=(List.range d).any fun i=>(A i).f.k==7 && (A i).f.n==num
theorem iX(A:Nat->bV)(d:Nat)(num:Int):inB A (d+1) num=(inB A d num ||((A d).f.k==7 && (A d).f.n==num)):=by
 unfold inB
 rw [List.range_succ,List.any_append]
 simp
theorem aG8{A:Nat->bV}{d e:Nat}{num:Int}(h:inB A d num=true)(hde:d<=e):inB A e num=true:=by
 unfold inB at *
 rw [List.any_eq_true] at *
 obtain⟨x,hx,h⟩:=h
 exact⟨x,by rw [List.mem_range] at *;omega,h⟩
theorem sE{w:World}{b:Nat}{c f:Bool}{ah gr:Int}{A:Nat->bV}(h:CB w b c f ah gr A){d:Nat}(hd:d<=41)(num:Int) :
  Calls Tryz.prog 62 #[.pointer (some ⟨b,0,none⟩),.int .i64 (d:Int),.int .i64 num] w fun e w'=>e=.returned (.bool (!inB A d num && decide (num<=gr)))/\Below w.heap.size w w':=by
 have H:=aB h
 have hlt:=h.lt
 have e2:(d:Int)<=41:=by omega
 obtain⟨r,hr⟩:∃ r,(!inB A d num && decide (num<=gr))=r:=⟨_,rfl⟩
 rw [hr]
 have HR:=aB hr
 clear h hr
 go_enter Tryz.func62,Tryz.ntmps62
 go_wp2
 go_loopw [15] (fun i wr=>∃ j:Nat,j<=d/\i=.int .i64 (j:Int)/\inB A j num=false/\Below w.heap.size w wr) (fun i _=>d - (intOf i).toNat)
 case atStart=>exact⟨0,Nat.zero_le _,rfl,rfl,Below.refl _ _⟩
 case round=>
  obtain⟨j,hj,rfl,hin,hb⟩:=hrel
  have HI:=aB hin
  have HB:=aB hb
  have H1:Hid (CB wr b c f ah gr A):=H.out.kept hb
  clear hin hb hlt
  have hlt:=H1.out.lt
  by_cases hjl:j < d
  ·have e0:(j:Int) < (d:Int):=by omega
   obtain⟨⟨k0,k1,k2,k3,k4,k5⟩,k6⟩:=H1.out.sp j (by omega)
   have B2:Hid (Below w.heap.size w (wr.alloc (.cells #[.int .i64 (A j).f.k,.int .i64 (A j).f.n,.int .i64 (A j).f.mn,.int .i64 (A j).f.mx,.slice (A j).f.rq (A j).f.rs.length (A j).f.rc,.slice (A j).f.kq (A j).f.kl (A j).f.kc,.int .i64 (A j).s] 60))):=HB.out.alloc HB.out.size _
   have N2:=aE wr (.cells #[.int .i64 (A j).f.k,.int .i64 (A j).f.n,.int .i64 (A j).f.mn,.int .i64 (A j).f.mx,.slice (A j).f.rq (A j).f.rs.length (A j).f.rc,.slice (A j).f.kq (A j).f.kl (A j).f.kc,.int .i64 (A j).s] 60)
   have m0:(wr.alloc (.cells #[.int .i64 (A j).f.k,.int .i64 (A j).f.n,.int .i64 (A j).f.mn,.int .i64 (A j).f.mx,.slice (A j).f.rq (A j).f.rs.length (A j).f.rc,.slice (A j).f.kq (A j).f.kl (A j).f.kc,.int .i64 (A j).s] 60)).cell? ⟨wr.heap.size,0,none⟩=some (.int .i64 (A j).f.k):=aC N2 (i:=0) rfl
   have m1:(wr.alloc (.cells #[.int .i64 (A j).f.k,.int .i64 (A j).f.n,.int .i64 (A j).f.mn,.int .i64 (A j).f.mx,.slice (A j).f.rq (A j).f.rs.length (A j).f.rc,.slice (A j).f.kq (A j).f.kl (A j).f.kc,.int .i64 (A j).s] 60)).cell? ⟨wr.heap.size,1,none⟩=some (.int .i64 (A j).f.n):=aC N2 (i:=1) rfl
   have HS:=aB (iX A j num)
   clear N2
   go_upto_region 4 with fail
   generalize (wr.alloc (.cells #[.int .i64 (A j).f.k,.int .i64 (A j).f.n,.int .i64 (A j).f.mn,.int .i64 (A j).f.mx,.slice (A j).f.rq (A j).f.rs.length (A j).f.rc,.slice (A j).f.kq (A j).f.kl (A j).f.kc,.int .i64 (A j).s] 60))=W2 at B2 m0 m1 ⊢
   cases h7:((A j).f.k==7)
   ·have HN:Hid (inB A (j+1) num=false):=(by rw [HS.out,HI.out,h7];rfl)
    clear HS
    go_wp2
    go_roundw
    case rel=>exact⟨j+1,by omega,by go_num,HN.out,B2.out⟩
    case measure=>simp only [intOf];omega
   ·cases hn:((A j).f.n==num)
    ·have HN:Hid (inB A (j+1) num=false):=(by rw [HS.out,HI.out,h7,hn];rfl)
     clear HS
     go_wp2
     go_roundw
     case rel=>exact⟨j+1,by omega,by go_num,HN.out,B2.out⟩
     case measure=>simp only [intOf];omega
    ·have HN:Hid (inB A d num=true):=aG8 (d:=j+1) (by rw [HS.out,HI.out,h7,hn];rfl) (by omega)
     clear HS
     go_wp2
     go_ret
     exact⟨by rw [<- HR.out,HN.out];rfl,B2.out⟩
  ·have e0:¬ (j:Int) < (d:Int):=by omega
   obtain rfl:j=d:=by omega
   have k3:=H1.out.c3
   go_wp2
   go_ret
   exact⟨by rw [<- HR.out,HI.out];rfl,HB.out⟩
theorem CB.frz{W:World}{b:Nat}{c f:Bool}{ah gr:Int}{A:Nat->bV}(h:CB W b c f ah gr A)(j:Nat):W.frozen? ⟨b,j,none⟩=false:=by
 obtain⟨cur,hc⟩:=h.blk
 exact bM hc j
theorem kP{W:World}{k b j:Nat}{f:Fl}{u:Value}(h:BoxN W k f)(hk:k≠b):BoxN (W.setCell ⟨b,j,none⟩ u) k f:=(((Fr.refl (fun z=>z=b) W).setCell (p:=⟨b,j,none⟩) rfl u).block _ (aA h) hk).trans h
theorem oL{w:World}{b:Nat}{c f:Bool}{ah gr:Int}{A:Nat->bV}(h:CB w b c f ah gr A){d:Nat}(hd:d+1 < 41)(x:Fl)(ha:0<=ah/\ah<=1000000)(hg:0<=gr/\gr<=1000000)(hs:0<=(A d).s/\(A d).s<=1000000) :
  Calls Tryz.prog 63 #[.pointer (some ⟨b,0,none⟩),.int .i64 ((d:Int)+1),.agg #[.int .i64 x.k,.int .i64 x.n,.int .i64 x.mn,.int .i64 x.mx,.slice x.rq x.rs.length x.rc,.slice x.kq x.kl x.kc]] w fun e w'=>e=.returned (.tuple #[])/\CB w' b c f (ah+1) (gr+(if x.k=7 then 1 else 0)) (jQ (jQ A d ⟨(A d).f,(A d).s+1⟩) (d+1) ⟨x,0⟩)/\Fr (fun z=>z=b) w w':=by
 have H:=aB h
 have hlt:=h.lt
 have B1:Hid (Below w.heap.size w (w.alloc (.cells #[.int .i64 x.k,.int .i64 x.n,.int .i64 x.mn,.int .i64 x.mx,.slice x.rq x.rs.length x.rc,.slice x.kq x.kl x.kc] 25))):=bz9
 have N1:Hid (BoxN (w.alloc (.cells #[.int .i64 x.k,.int .i64 x.n,.int .i64 x.mn,.int .i64 x.mx,.slice x.rq x.rs.length x.rc,.slice x.kq x.kl x.kc] 25)) w.heap.size x):=aE w _
 have H1:Hid (CB (w.alloc (.cells #[.int .i64 x.k,.int .i64 x.n,.int .i64 x.mn,.int .i64 x.mx,.slice x.rq x.rs.length x.rc,.slice x.kq x.kl x.kc] 25)) b c f ah gr A):=h.kept B1.out
 have F1:Hid (Fr (fun z=>z=b) w (w.alloc (.cells #[.int .i64 x.k,.int .i64 x.n,.int .i64 x.mn,.int .i64 x.mx,.slice x.rq x.rs.length x.rc,.slice x.kq x.kl x.kc] 25))):=Fr.of_below B1.out
 have hne:w.heap.size≠b:=by omega
 clear h H
 obtain⟨g2,hg2⟩:∃ g2,gr+(if x.k=7 then 1 else 0)=g2:=⟨_,rfl⟩
 rw [hg2]
 have HG:=aB hg2
 clear hg2
 go_enter Tryz.func63,Tryz.ntmps63
 go_upto_region 1 with fail
 generalize (w.alloc (.cells #[.int .i64 x.k,.int .i64 x.n,.int .i64 x.mn,.int .i64 x.mx,.slice x.rq x.rs.length x.rc,.slice x.kq x.kl x.kc] 25))=w1 at B1 N1 H1 F1 ⊢
 have c2:=H1.out.c2
 have f2:=H1.out.frz 2
 have lb:=H1.out.lt
 have H2:Hid (CB (w1.setCell ⟨b,2,none⟩ (.int .i64 (ah+1))) b c f (ah+1) gr A):=H1.out.setAh _
 have N2:Hid (BoxN (w1.setCell ⟨b,2,none⟩ (.int .i64 (ah+1))) w.heap.size x):=kP N1.out hne
 have F2:Hid (Fr (fun z=>z=b) w (w1.setCell ⟨b,2,none⟩ (.int .i64 (ah+1)))):=F1.out.setCell (p:=⟨b,2,none⟩) rfl _
 clear B1 N1 H1 F1
 go_upto_region 2 with fail
 generalize (w1.setCell ⟨b,2,none⟩ (.int .i64 (ah+1)))=w2 at H2 N2 F2 ⊢
 clear c2 f2 lb hlt
 obtain⟨c0,-⟩:=N2.out.six
 have c3:=H2.out.c3
 have f3:=H2.out.frz 3
 have lb:=H2.out.lt
 have e1:((d:Int)+1) - 1=(d:Int):=by omega
 have e2:(d:Int) < 41:=by omega
 have e3:(d:Int)+1 < 41:=by omega
 by_cases hk:x.k=7
 ·have hkb:(x.k==7)=true:=by simpa using hk
  have E2:=HG.out
  rw [if_pos hk] at E2
  subst E2
  have H3:Hid (CB (w2.setCell ⟨b,3,none⟩ (.int .i64 (gr+1))) b c f (ah+1) (gr+1) A):=H2.out.setGr _
  have N3:Hid (BoxN (w2.setCell ⟨b,3,none⟩ (.int .i64 (gr+1))) w.heap.size x):=kP N2.out hne
  have F3:Hid (Fr (fun z=>z=b) w (w2.setCell ⟨b,3,none⟩ (.int .i64 (gr+1)))):=F2.out.setCell (p:=⟨b,3,none⟩) rfl _
  clear H2 N2 F2 hk
  go_upto_region 4 with fail
  generalize (w2.setCell ⟨b,3,none⟩ (.int .i64 (gr+1)))=w3 at H3 N3 F3 ⊢
  clear c0 c3 f3 lb
  have p6:=(H3.out.sp d (by omega)).2
  have lb:=H3.out.lt
  have f6:=H3.out.frz (4+d * 7+6)
  have H5:=aB ((H3.out.setSeen (d:=d) (by omega) ((A d).s+1)).kept ((Below.refl _ _).drew))
  have N5:Hid (BoxN (w3.setCell ⟨b,4+d * 7+6,none⟩ (.int .i64 ((A d).s+1))).drew w.heap.size x):=kP N3.out hne
  have F5:Hid (Fr (fun z=>z=b) w (w3.setCell ⟨b,4+d * 7+6,none⟩ (.int .i64 ((A d).s+1))).drew):=(F3.out.setCell (p:=⟨b,4+d * 7+6,none⟩) rfl _).trans (Fr.of_below ((Below.refl _ _).drew))
  clear H3 N3 F3
  go_region
  go_upto_region 5 with fail
  generalize (w3.setCell ⟨b,4+d * 7+6,none⟩ (.int .i64 ((A d).s+1))).drew=w5 at H5 N5 F5 ⊢
  clear p6 f6 lb
  have lb:=H5.out.lt
  have ln:=aA N5.out
  obtain⟨n0,n1,n2,n3,n4,n5⟩:=N5.out.six
  simp only [Nat.zero_add] at n1 n2 n3 n4 n5
  have fr:=fun j=>H5.out.frz j
  obtain⟨⟨q0,q1,q2,q3,q4,q5⟩,q6⟩:=H5.out.sp (d+1) (by omega)
  have H7:=aB ((H5.out.setSpot (d:=d+1) (by omega) ⟨x,0⟩).kept ((Below.refl _ _).drew))
  have F7:Hid (Fr (fun z=>z=b) w (fZ w5 b (4+(d+1) * 7) ⟨x,0⟩).drew):=(F5.out.trans (tH _ _ _ _)).trans (Fr.of_below ((Below.refl _ _).drew))
  unfold fZ at H7 F7
  clear H5 F5
  go_region
  go_wp2
  go_end0
  exact⟨rfl,H7.out,F7.out⟩
 ·have hkb:(x.k==7)=false:=by simpa using hk
  have E2:=HG.out
  rw [if_neg hk,Int.add_zero] at E2
  subst E2
  have H3:=H2
  have N3:=N2
  have F3:=F2
  clear H2 N2 F2 hk
  go_upto_region 4 with fail
  clear c0 c3 f3 lb
  have p6:=(H3.out.sp d (by omega)).2
  have lb:=H3.out.lt
  have f6:=H3.out.frz (4+d * 7+6)
  have H5:=aB ((H3.out.setSeen (d:=d) (by omega) ((A d).s+1)).kept ((Below.refl _ _).drew))
  have N5:Hid (BoxN (w2.setCell ⟨b,4+d * 7+6,none⟩ (.int .i64 ((A d).s+1))).drew w.heap.size x):=kP N3.out hne
  have F5:Hid (Fr (fun z=>z=b) w (w2.setCell ⟨b,4+d * 7+6,none⟩ (.int .i64 ((A d).s+1))).drew):=(F3.out.setCell (p:=⟨b,4+d * 7+6,none⟩) rfl _).trans (Fr.of_below ((Below.refl _ _).drew))
  clear H3 N3 F3
  go_region
  go_upto_region 5 with fail
  generalize (w2.setCell ⟨b,4+d * 7+6,none⟩ (.int .i64 ((A d).s+1))).drew=w5 at H5 N5 F5 ⊢
  clear p6 f6 lb
  have lb:=H5.out.lt
  have ln:=aA N5.out
  obtain⟨n0,n1,n2,n3,n4,n5⟩:=N5.out.six
  simp only [Nat.zero_add] at n1 n2 n3 n4 n5
  have fr:=fun j=>H5.out.frz j
  obtain⟨⟨q0,q1,q2,q3,q4,q5⟩,q6⟩:=H5.out.sp (d+1) (by omega)
  have H7:=aB ((H5.out.setSpot (d:=d+1) (by omega) ⟨x,0⟩).kept ((Below.refl _ _).drew))
  have F7:Hid (Fr (fun z=>z=b) w (fZ w5 b (4+(d+1) * 7) ⟨x,0⟩).drew):=(F5.out.trans (tH _ _ _ _)).trans (Fr.of_below ((Below.refl _ _).drew))
  unfold fZ at H7 F7
  clear H5 F5
  go_region
  go_wp2
  go_end0
  exact⟨rfl,H7.out,F7.out⟩
end
end Go.Proofs.YticfnglebbakkaaGreatDoor
