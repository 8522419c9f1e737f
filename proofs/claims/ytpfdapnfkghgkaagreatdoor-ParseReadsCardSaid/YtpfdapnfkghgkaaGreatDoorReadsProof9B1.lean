/-
  Parts of the proof.
-/
import Derived.Test.YtpfdapnfkghgkaaGreatDoorReadsProof9B0
namespace Go.Proofs.YtpfdapnfkghgkaaGreatDoor
open Go Go.RowKit
section
open Go
def eD(t:Tk):Prop:=1<=t.kind/\t.kind<=8/\t.n<=9/\(-1<=t.mn/\t.mn<=255)/\(-1<=t.mx/\t.mx<=255)
def OKr(r:Rs (Tk × Nat)):Prop:=match r with
 | .error _=>True
 | .ok x=>eD x.1
theorem oQ(m:Md)(L:List (Int × Int))(t:Bool):eD (bB m L t):=by simp [eD,bB]
theorem bG4(m:Md)(s:ByteArray)(p:Nat):OKr (brk m s p):=by
 unfold brk
 split
 ·trivial
 ·split
  ·trivial
  ·exact oQ ..
theorem aX6(s:ByteArray)(p:Nat):OKr (dY s p):=by
 unfold dY
 split
 ·trivial
 split
 ·trivial
 ·rename_i h
  refine⟨by simp [cQ],by simp [cQ],by simp [cQ],?_,?_⟩
  ·simp only [cQ];omega
  ·have:-1<=ivB s p:=by unfold ivB;split <;> (try split) <;> omega
   simp only [cQ];omega
theorem bG0(m:Md)(s:ByteArray)(p last:Nat):OKr (esc m s p last):=by
 unfold esc
 have h4:=aX6 s p
 repeat' split
 all_goals first | trivial | exact h4 | exact oQ .. |(refine⟨?_,?_,?_,?_,?_⟩ <;> simp [kT,cQ,cX] <;> omega) |(simp [OKr,eD,kT,cQ,cX])
theorem pA(m:Md)(s:ByteArray)(p last:Nat):OKr (tok m s p last):=by
 unfold tok
 split
 ·exact bG0 ..
 split
 ·simp [OKr,eD,cQ]
 split
 ·simp [OKr,eD,kT]
 split
 ·simp [OKr,eD,kT]
 split
 ·exact oQ ..
 split
 ·exact bG4 ..
 ·split
  ·trivial
  ·exact oQ ..
def plc(T:List Tp):Nat->Nat
 | 0=>0
 | i+1=>match T[i]? with
  | some t=>t.2.2
  | none=>0
structure Stands(s:ByteArray)(T:List Tp)(p:Nat):Prop where
 each:∀ i t,T[i]?=some t->t.2.1=plc T i/\t.2.1 < t.2.2/\t.2.2<=s.size/\eD t.1
 last:plc T T.length=p
 few:T.length<=p
theorem zU(T:List Tp)(x:Tp)(i:Nat)(h:i<=T.length):plc (T ++ [x]) i=plc T i:=by
 cases i with
 | zero=>rfl
 | succ i=>
  simp only [plc]
  rw [List.getElem?_append_left (by omega)]
theorem aW3(T:List Tp)(x:Tp):plc (T ++ [x]) (T.length+1)=x.2.2:=by
 simp only [plc]
 rw [List.getElem?_append_right lz9,Nat.sub_self]
 rfl
theorem Stands.nil(s:ByteArray):Stands s [] 0:=⟨fun i t h=>by simp at h,rfl,Nat.le_refl _⟩
theorem Stands.add{s:ByteArray}{T:List Tp}{p:Nat}(h:Stands s T p){t:Tk}{q:Nat}(h1:p < q)(h2:q<=s.size)(h3:eD t):Stands s (T ++ [(t,p,q)]) q:=by
 refine⟨fun i x hx=>?_,?_,?_⟩
 ·rcases Nat.lt_trichotomy i T.length with g | g | g
  ·rw [List.getElem?_append_left g] at hx
   rw [zU _ _ _ (by omega)]
   exact h.each i x hx
  ·subst g
   rw [List.getElem?_append_right lz9,Nat.sub_self] at hx
   simp at hx
   subst hx
   rw [zU _ _ _ lz9,h.last]
   exact⟨rfl,h1,h2,h3⟩
  ·rw [List.getElem?_append_right (by omega),List.getElem?_eq_none (by simp;omega)] at hx
   cases hx
 ·rw [List.length_append];exact aW3 T _
 ·rw [List.length_append]
  have:=h.few
  simp;omega
def bG7(s:ByteArray)(r:Rs (List Tp)):Prop:=match r with
 | .error (c,a)=>(c=20\/30<=c/\c<=38)/\a<=s.size
 | .ok T=>Stands s T s.size
theorem aA2(m:Md)(s:ByteArray):∀ (f p:Nat) (T:List Tp),Stands s T p->p<=s.size->s.size < f+p->bG7 s (lx m s f p T)
 | 0,p,T,_,h1,h2=>by omega
 | f+1,p,T,h,h1,h2=>by
  unfold lx
  split
  ·rename_i hp
   have q1:=lZ m s p (cH T) hp
   have q2:=pA m s p (cH T)
   split
   ·rename_i e he
    rw [he] at q1
    exact q1
   ·rename_i t q he
    rw [he] at q1 q2
    have q3:=q1.1
    have q4:=q1.2
    simp only at q3 q4
    exact aA2 m s f q _ (h.add q3 q4 q2) q4 (by omega)
  ·rename_i hp
   have:p=s.size:=by omega
   simp only [bG7]
   rw [<- this];exact h
theorem nL(m:Md)(s:ByteArray):bG7 s (gB m s):=by
 unfold gB
 split
 ·exact⟨.inr (by omega),by omega⟩
 ·exact aA2 m s _ 0 [] (Stands.nil s) (by omega) (by omega)
end
def oE(k:Int):Bool:=decide (1<=k) && decide (k<=9)
def aI8(k:Int):Bool:=k==2 || k==7 || k==8 || k==9
def aR2(a b:Int):Bool:=decide (0<=a) && decide (a<=255) && (b==-1 ||(decide (a<=b) && decide (b<=255)))
def bH7(k:Int)(n:Nat):Bool:=if k=5\/k=6 then decide (2<=n) else if k=7\/k=9 then n==1 else n==0
section
open Go
open Classical in
noncomputable def rsQ (q:Int->Prop):List (Int × Int):=if h:∃ C,IsC C q then h.choose else []
theorem aK8{C:List (Int × Int)}{q:Int->Prop}(h:IsC C q):rsQ q=C:=by
 have hx:∃ C,IsC C q:=⟨C,h⟩
 unfold rsQ
 rw [dif_pos hx]
 exact hx.choose_spec.one h (fun _=>Iff.rfl)
noncomputable def sgT (g:Nat) (t:Tk):Sgn:=
 if t.kind=3 then .op (g+1) else if t.kind=4 then .cl else if t.kind=5 then .al else if t.kind=2 then .rp t.mn t.mx
 else if t.kind=7 then .lf 3 0 [] else if t.kind=8 then .lf 4 0 [] else if t.kind=6 then .lf 8 (t.n:Int) [] else .lf 2 0 (rsQ t.q)
def gnx(g:Nat)(t:Tk):Nat:=if t.kind=3 then g+1 else g
noncomputable def mC:Nat->List Tp->List Sgn
 | _,[]=>[]
 | g,t :: T=>sgT g t.1 :: mC (gnx g t.1) T
theorem gT:∀ (g:Nat) (T:List Tp),(mC g T).length=T.length
 | g,[]=>rfl
 | g,t :: T=>by rw [mC,List.length_cons,List.length_cons,gT]
structure GS where
 g:Nat
 o:List (Nat × Nat)
 e:List Nat
def glk(s:GS)(t:Tp):Except (Nat × Nat) GS:=
 if t.1.kind=3 then (if s.g=30 then .error (42,t.2.1) else .ok ⟨s.g+1,s.o ++ [(s.g+1,t.2.1)],s.e⟩)
 else if t.1.kind=4 then (match s.o.getLast? with
  | none=>.error (40,t.2.1)
  | some x=>.ok ⟨s.g,s.o.dropLast,x.1 :: s.e⟩)
 else if t.1.kind=6 then (if t.1.n∈s.e then .ok s else .error (41,t.2.1))
 else .ok s
def gck:GS->List Tp->Except (Nat × Nat) GS
 | s,[]=>.ok s
 | s,t :: T=>match glk s t with
  | .error x=>.error x
  | .ok s'=>gck s' T
def gs0:GS:=⟨0,[],[]⟩
def dC(T:List Tp):Option (Nat × Nat):=match gck gs0 T with
 | .error x=>some x
 | .ok s=>match s.o with
  | []=>none
  | x :: _=>some (39,x.2)
theorem qC:∀ (T:List Tp) (s s':GS),s.g<=30->gck s T=.ok s'->s'.o=[]->hk s.g (s.o.map Prod.fst).reverse s.e (mC s.g T)
 | [],s,s',hg,h,ho=>by
  cases h
  rw [ho]
  rfl
 | t :: T,s,s',hg,h,ho=>by
  rw [gck] at h
  rw [mC]
  by_cases k3:t.1.kind=3
  ·by_cases hg2:s.g=30
   ·simp [glk,k3,hg2] at h
   ·simp only [glk,if_pos k3,if_neg hg2] at h
    have:=qC T _ s' (by simp only;omega) h ho
    simp only [List.map_append,List.reverse_append] at this
    simp only [sgT,if_pos k3,gnx,hk]
    exact⟨trivial,by omega,this⟩
  ·by_cases k4:t.1.kind=4
   ·cases hl:s.o.getLast? with
    | none=>simp [glk,k4,hl] at h
    | some x=>
     simp only [glk,if_neg k3,if_pos k4,hl] at h
     have hx:s.o=s.o.dropLast ++ [x]:=by
      have hne:s.o≠[]:=fun e=>by rw [e] at hl;cases hl
      rw [List.getLast?_eq_some_getLast hne] at hl
      cases hl
      exact(List.dropLast_concat_getLast hne).symm
     have:=qC T _ s' (by simp only;omega) h ho
     simp only [sgT,if_neg k3,if_pos k4,gnx,hk]
     refine⟨x.1,(s.o.dropLast.map Prod.fst).reverse,?_,this⟩
     conv=>lhs;rw [hx]
     simp
   ·by_cases k6:t.1.kind=6
    ·by_cases hm:t.1.n∈s.e
     ·simp only [glk,if_neg k3,if_neg k4,if_pos k6,if_pos hm] at h
      have:=qC T _ s' hg h ho
      have e1:sgT s.g t.1=.lf 8 (t.1.n:Int) []:=by simp [sgT,k6]
      rw [e1]
      simp only [gnx,if_neg k3,hk]
      exact⟨fun _=>⟨_,hm,rfl⟩,this⟩
     ·simp [glk,k6,hm] at h
    ·simp only [glk,if_neg k3,if_neg k4,if_neg k6] at h
     have:=qC T _ s' hg h ho
     simp only [sgT,if_neg k3,if_neg k4,if_neg k6,gnx]
     repeat' split
     all_goals first | exact this | exact⟨fun q=>by(exfalso;revert q;decide),this⟩ |(simp only [hk];exact this)
theorem aX8{T:List Tp}(h:dC T=none):hk 0 [] [] (mC 0 T):=by
 unfold dC at h
 cases hg:gck gs0 T with
 | error x=>rw [hg] at h;cases h
 | ok s=>
  rw [hg] at h
  have ho:s.o=[]:=by
   cases ho:s.o with
   | nil=>rfl
   | cons x r=>simp [ho] at h
  exact qC T gs0 s (by simp [gs0]) hg ho
theorem aY4{s:GS}{t:Tp}{c a:Nat}(h:glk s t=.error (c,a)):(c=40\/c=41\/c=42)/\a=t.2.1:=by
 unfold glk at h
 repeat' split at h
 all_goals (cases h;try exact⟨by omega,rfl⟩)
theorem bI1{s s':GS}{t:Tp}(h:glk s t=.ok s'):∀ x∈s'.o,x∈s.o\/x.2=t.2.1:=by
 unfold glk at h
 repeat' split at h
 all_goals cases h
 ·intro x hx
  rcases List.mem_append.1 hx with q | q
  ·exact .inl q
  ·simp at q;exact .inr (by rw [q])
 ·exact fun x hx=>.inl (List.dropLast_subset _ hx)
 ·exact fun x hx=>.inl hx
 ·exact fun x hx=>.inl hx
theorem aO5(n:Nat):∀ (T:List Tp) (s:GS),(∀ t∈T,t.2.1<=n)->(∀ x∈s.o,x.2<=n)->match gck s T with
  | .error (c,a)=>(c=40\/c=41\/c=42)/\a<=n
  | .ok s'=>∀ x∈s'.o,x.2<=n
 | [],s,_,ho=>ho
 | t :: T,s,hT,ho=>by
  have h1:=hT t (List.mem_cons_self ..)
  rw [gck]
  cases hg:glk s t with
  | error x=>
   obtain⟨c,a⟩:=x
   obtain⟨h2,h3⟩:=aY4 hg
   exact⟨h2,by omega⟩
  | ok s'=>
   exact aO5 n T s' (fun u hu=>hT u (List.mem_cons_of_mem _ hu)) (fun x hx=>by
    rcases bI1 hg x hx with q | q
    ·exact ho x q
    ·omega)
theorem aX9{s:ByteArray}{T:List Tp}{p c a:Nat}(hs:Stands s T p)(h:dC T=some (c,a)):39<=c/\c<=42/\a<=s.size:=by
 have hT:∀ t∈T,t.2.1<=s.size:=fun t ht=>by
  obtain⟨i,hi,e⟩:=List.getElem_of_mem ht
  have:=hs.each i t (by rw [List.getElem?_eq_getElem hi,e])
  omega
 have:=aO5 s.size T gs0 hT (fun x hx=>by cases hx)
 unfold dC at h
 cases hg:gck gs0 T with
 | error x=>
  rw [hg] at h this
  cases h
  simp only at this
  omega
 | ok s'=>
  rw [hg] at h this
  simp only at h this
  split at h
  ·cases h
  ·rename_i x r ho
   cases h
   have:=this x (by rw [ho];exact List.mem_cons_self ..)
   exact⟨by omega,by omega,this⟩
structure TkK(m:Md)(s:ByteArray)(p last:Nat)(t:Tk)(q:Nat):Prop where
 rep:t.kind=2->cS last=false/\aR2 t.mn t.mx=true
 beg:t.kind=7->p=0\/last=3\/last=5
 fin:t.kind=8->q=p+1/\iU s p=true
 back:t.kind=6->1<=t.n/\t.n<=9
 set:t.kind=1->∃ L b,t.q=cP m L b
 chr:∀ c,t.q c->bK m.c c
def TkR(m:Md)(s:ByteArray)(p last:Nat)(r:Rs (Tk × Nat)):Prop:=match r with
 | .error _=>True
 | .ok x=>TkK m s p last x.1 x.2
theorem sD(m:Md)(s:ByteArray)(p last:Nat)(L:List (Int × Int))(b:Bool)(q:Nat):TkR m s p last (.ok (bB m L b,q)):=
 ⟨fun h=>(by cases h),fun h=>(by cases h),fun h=>(by cases h),fun h=>(by cases h),fun _=>⟨L,b,rfl⟩,fun c h=>h.1⟩
theorem aI6(m:Md)(s:ByteArray)(p last k q:Nat)(h1:k=3\/k=4\/k=5):TkR m s p last (.ok (kT k,q)):=by
 refine⟨fun h=>?_,fun h=>?_,fun h=>?_,fun h=>?_,fun h=>?_,fun c h=>h.elim⟩ <;> (have h':k=_:=h;omega)
theorem sE(m:Md)(s:ByteArray)(p last:Nat)(a b:Int)(q:Nat)(h1:cS last=false)(h2:aR2 a b=true):TkR m s p last (.ok (cQ a b,q)):=
 ⟨fun _=>⟨h1,h2⟩,fun h=>(by cases h),fun h=>(by cases h),fun h=>(by cases h),fun h=>(by cases h),fun c h=>h.elim⟩
theorem bI7(m:Md)(s:ByteArray)(p last:Nat):TkR m s p last (brk m s p):=by
 unfold brk
 split
 ·trivial
 ·split
  ·trivial
  ·exact sD ..
theorem bF1(m:Md)(s:ByteArray)(p last:Nat)(h:cS last=false):TkR m s p last (dY s p):=by
 unfold dY
 split
 ·trivial
 split
 ·trivial
 ·rename_i n
  refine sE _ _ _ _ _ _ _ h ?_
  have:-1<=ivB s p:=by unfold ivB;split <;> (try split) <;> omega
  simp only [aR2,Bool.and_eq_true,Bool.or_eq_true,decide_eq_true_eq,beq_iff_eq]
  omega
theorem bI3(m:Md)(s:ByteArray)(p last:Nat):TkR m s p last (esc m s p last):=by
 unfold esc
 split
 ·trivial
 split
 ·exact aI6 _ _ _ _ _ _ (by omega)
 split
 ·exact aI6 _ _ _ _ _ _ (by omega)
 split
 ·exact aI6 _ _ _ _ _ _ (by omega)
 split
 ·rename_i h
  exact⟨fun h=>(by cases h),fun h=>(by cases h),fun h=>(by cases h),fun _=>⟨by simp only [cX];omega,by simp only [cX];omega⟩,fun h=>(by cases h),fun c h=>h.elim⟩
 split
 ·split
  ·trivial
  rename_i hb
  have hb':cS last=false:=by simpa using hb
  split
  ·exact sE _ _ _ _ _ _ _ hb' rfl
  split
  ·exact sE _ _ _ _ _ _ _ hb' rfl
  ·exact bF1 m s p last hb'
 split
 ·exact sD ..
 ·trivial
theorem bH2(m:Md)(s:ByteArray)(p last:Nat):TkR m s p last (tok m s p last):=by
 unfold tok
 split
 ·exact bI3 ..
 split
 ·rename_i h
  simp only [Bool.and_eq_true,Bool.not_eq_true'] at h
  exact sE _ _ _ _ _ _ _ h.2 rfl
 split
 ·rename_i h
  simp only [Bool.and_eq_true,Bool.or_eq_true,beq_iff_eq] at h
  exact⟨fun h=>(by cases h),fun _=>by omega,fun h=>(by cases h),fun h=>(by cases h),fun h=>(by cases h),fun c h=>h.elim⟩
 split
 ·rename_i h
  simp only [Bool.and_eq_true] at h
  exact⟨fun h=>(by cases h),fun h=>(by cases h),fun _=>⟨rfl,h.2⟩,fun h=>(by cases h),fun h=>(by cases h),fun c h=>h.elim⟩
 split
 ·exact sD ..
 split
 ·exact bI7 ..
 ·split
  ·trivial
  ·exact sD ..
theorem aS5(m:Md)(s:ByteArray)(p last:Nat){t:Tk}{q:Nat}(h:aJ s p [92,41]=true\/aJ s p [92,124]=true)(hw:tok m s p last=.ok (t,q)):t.kind=4\/t.kind=5:=by
 have h0:aJ s p [92]=true:=by
  rcases h with h | h
  ·exact pH.2 ⟨by have:=(eE.1 h).1;omega,(eE.1 h).2.1⟩
  ·exact pH.2 ⟨by have:=(eE.1 h).1;omega,(eE.1 h).2.1⟩
 unfold tok at hw
 rw [if_pos h0] at hw
 unfold esc at hw
 rcases h with h | h
 ·have h1:=eE.1 h
  rw [if_neg (by omega),if_neg (by rw [h1.2.2];decide),if_pos (by rw [h1.2.2];decide)] at hw
  cases hw
  exact .inl rfl
 ·have h1:=eE.1 h
  rw [if_neg (by omega),if_neg (by rw [h1.2.2];decide),if_neg (by rw [h1.2.2];decide),if_pos (by rw [h1.2.2];decide)] at hw
  cases hw
  exact .inr rfl
def okk(a b:Nat):Prop:=(b=2->a=1\/a=2\/a=4\/a=6)/\(b=7->a=0\/a=3\/a=5)/\(a=8->b=4\/b=5)
structure TkW(m:Md)(t:Tk):Prop where
 ok:eD t
 rep:t.kind=2->aR2 t.mn t.mx=true
 back:t.kind=6->1<=t.n/\t.n<=9
 set:t.kind=1->∃ L b,t.q=cP m L b
 chr:∀ c,t.q c->bK m.c c
structure Beside(m:Md)(s:ByteArray)(T:List Tp)(p:Nat):Prop where
 each:∀ i t,T[i]?=some t->okk (cH (T.take i)) t.1.kind
 tok:∀ t∈T,TkW m t.1
 fin:cH T=8->p=s.size\/aJ s p [92,41]=true\/aJ s p [92,124]=true
theorem vV{m:Md}{s:ByteArray}{T:List Tp}{p:Nat}(h:Beside m s T p):cH T<=8/\(cH T=0->T=[]):=by
 unfold cH
 cases hl:T.getLast? with
 | none=>exact⟨by simp,fun _=>List.getLast?_eq_none_iff.1 hl⟩
 | some x=>
  have:=(h.tok x (List.mem_of_getLast? hl)).ok
  exact⟨this.2.1,fun q=>by have:=this.1;simp only at q;omega⟩
theorem Beside.add{m:Md}{s:ByteArray}{T:List Tp}{p q:Nat}{t:Tk}(h:Beside m s T p)(hp:p < s.size)(h0:p=0->T=[])(hw:Go.Proofs.YtpfdapnfkghgkaaGreatDoor.tok m s p (cH T)=.ok (t,q)):Beside m s (T ++ [(t,p,q)]) q:=by
 have hk:=bH2 m s p (cH T)
 have ho:=pA m s p (cH T)
 rw [hw] at hk ho
 have hk':TkK m s p (cH T) t q:=hk
 have ho':eD t:=ho
 have hr:=vV h
 have h8:cH T=8->t.kind=4\/t.kind=5:=fun e=>by
  rcases h.fin e with z | z
  ·omega
  ·exact aS5 m s p _ z hw
 refine⟨fun i x hx=>?_,fun x hx=>?_,fun e=>?_⟩
 ·rcases Nat.lt_trichotomy i T.length with g | g | g
  ·rw [List.getElem?_append_left g] at hx
   rw [List.take_append_of_le_length (by omega)]
   exact h.each i x hx
  ·subst g
   rw [List.getElem?_append_right lz9,Nat.sub_self] at hx
   simp at hx
   subst hx
   rw [List.take_append_of_le_length (by omega),List.take_length]
   refine⟨fun e=>?_,fun e=>?_,h8⟩
   ·have:=(hk'.rep e).1
    have k1:cH T≠8:=fun z=>by have:=h8 z;simp only at e;omega
    unfold cS at this
    simp only [Bool.or_eq_false_iff,beq_eq_false_iff_ne] at this
    omega
   ·rcases hk'.beg e with z | z
    ·left;rw [h0 z];rfl
    ·right;exact z
  ·rw [List.getElem?_append_right (by omega),List.getElem?_eq_none (by simp;omega)] at hx
   cases hx
 ·rcases List.mem_append.1 hx with z | z
  ·exact h.tok x z
  ·simp at z
   subst z
   exact⟨ho',fun e=>(hk'.rep e).2,hk'.back,hk'.set,hk'.chr⟩
 ·rw [show cH (T ++ [(t,p,q)])=t.kind by simp [cH]] at e
  obtain⟨e1,e2⟩:=hk'.fin e
  unfold iU at e2
  simp only [Bool.or_eq_true,decide_eq_true_eq] at e2
  subst e1
  rcases e2 with (z | z) | z
  ·exact .inl z
  ·exact .inr (.inl z)
  ·exact .inr (.inr z)
theorem rQ(m:Md)(s:ByteArray):∀ (f p:Nat) (T T':List Tp),Stands s T p->Beside m s T p->lx m s f p T=.ok T'->∃ p',Beside m s T' p'
 | 0,p,T,T',_,_,hw=>by unfold lx at hw;cases hw
 | f+1,p,T,T',hs,hb,hw=>by
  unfold lx at hw
  split at hw
  ·rename_i hp
   have q1:=lZ m s p (cH T) hp
   have q2:=pA m s p (cH T)
   cases ht:Go.Proofs.YtpfdapnfkghgkaaGreatDoor.tok m s p (cH T) with
   | error e=>rw [ht] at hw;cases hw
   | ok x=>
    obtain⟨t,q⟩:=x
    rw [ht] at hw q1 q2
    have h1:p < q:=q1.1
    have h2:q<=s.size:=q1.2
    exact rQ m s f q _ T' (hs.add h1 h2 q2) (hb.add hp (fun z=>by have:=hs.few;exact List.eq_nil_of_length_eq_zero (by omega)) ht) hw
  ·cases hw
   exact⟨p,hb⟩
theorem pU{m:Md}{s:ByteArray}{T:List Tp}(h:gB m s=.ok T):∃ p,Beside m s T p:=by
 unfold gB at h
 split at h
 ·cases h
 ·exact rQ m s _ 0 [] T (Stands.nil s) ⟨fun i t hx=>(by simp at hx),fun t ht=>by(cases ht),fun e=>(by cases e)⟩ h
theorem gQ{k:Nat}(h1:1<=k)(h2:k<=8):k=1\/k=2\/k=3\/k=4\/k=5\/k=6\/k=7\/k=8:=by omega
theorem bE5{p:Option Sgn}{a g:Nat}{t:Tk}(h:okk a t.kind)(h1:1<=t.kind)(h2:t.kind<=8)(hp:(p=none/\a=0)\/∃ g' t',p=some (sgT g' t')/\a=t'.kind/\1<=t'.kind/\t'.kind<=8):okp p (sgT g t):=by
 rcases hp with⟨rfl,rfl⟩ | ⟨g',t',rfl,rfl,k1,k2⟩
 ·rcases gQ h1 h2 with e | e | e | e | e | e | e | e
  all_goals first
   |(exfalso;have:=h.1 e;omega)
   | simp [sgT,e,okp]
 ·rcases gQ h1 h2 with e | e | e | e | e | e | e | e <;> rcases gQ k1 k2 with f | f | f | f | f | f | f | f
  all_goals first
   |(exfalso;have q1:=h.1;have q2:=h.2.1;have q3:=h.2.2;omega)
   | simp [sgT,e,f,okp]
theorem aR8{m:Md}{s:ByteArray}:∀ (B A:List Tp) (g p0:Nat) (p:Option Sgn),Beside m s (A ++ B) p0->((p=none/\A=[])\/∃ g' A' t',A=A' ++ [t']/\p=some (sgT g' t'.1))->adj p (mC g B)
 | [],A,g,p0,p,_,_=>trivial
 | t :: B,A,g,p0,p,h,hp=>by
  have h1:=h.each A.length t (by rw [List.getElem?_append_right lz9,Nat.sub_self];rfl)
  rw [List.take_append_of_le_length lz9,List.take_length] at h1
  have h2:=(h.tok t (by simp)).ok
  refine⟨bE5 h1 h2.1 h2.2.1 ?_,aR8 B (A ++ [t]) _ p0 _ (by rw [List.append_assoc];exact h) (.inr ⟨g,A,t,rfl,rfl⟩)⟩
  rcases hp with⟨e1,e2⟩ | ⟨g',A',t',e1,e2⟩
  ·exact .inl ⟨e1,by rw [e2];rfl⟩
  ·subst e1
   have h3:=(h.tok t' (by simp)).ok
   exact .inr ⟨g',t'.1,e2,by simp [cH],h3.1,h3.2.1⟩
theorem aS4{m:Md}{s:ByteArray}{T:List Tp}(h:gB m s=.ok T)(hh:dC T=none):∃ x,wf x/\pfl x=mC 0 T:=by
 obtain⟨p,hb⟩:=pU h
 exact aW0 (aR8 T [] 0 p none (by simpa using hb) (.inl ⟨rfl,rfl⟩)) (aX8 hh)
end
end Go.Proofs.YtpfdapnfkghgkaaGreatDoor
