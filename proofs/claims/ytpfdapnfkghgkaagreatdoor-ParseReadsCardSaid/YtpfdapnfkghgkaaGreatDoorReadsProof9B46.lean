/-
  Parts of the proof.
-/
import Derived.Test.YtpfdapnfkghgkaaGreatDoorReadsProof9B45
set_option maxRecDepth 100000
set_option maxHeartbeats 8000000
namespace Go.Proofs.YtpfdapnfkghgkaaGreatDoor
open Go Go.RowKit
attribute [local go_sem] aR
def zE(w:World)(r:Rs (List Tp))(e:Ending)(w':World):Prop:=Below w.heap.size w w'/\match r with
 | .error (c,a)=>e=.returned (.tuple #[.slice none 0 0,.int .i64 (c:Int),.int .i64 (a:Int)])
 | .ok T=>∃ v D,e=.returned (.tuple #[v,.int .i64 0,.int .i64 0])/\TL w.heap.size w' v D/\D.map Prod.fst=T
def psM(w:World)(b:Nat):Nat:=match w.cell? ⟨b,3,none⟩ with
 | some (.int _ x)=>x.toNat
 | _=>0
theorem SX.ps{w:World}{b:Nat}{s:ByteArray}{m:Md}{p:Nat}{tv:Value}{e a:Nat}(h:SX w b s m p tv e a):psM w b=p:=by
 unfold psM
 rw [h.c3]
 exact Int.toNat_natCast p
def lxM(s:ByteArray)(b:Nat)(wr:World):Nat:=if erM wr b=0 then s.size+1 - psM wr b else 0
structure LxI(base:Nat)(b:Nat)(s:ByteArray)(m:Md)(RES:Rs (List Tp))(p:Nat)(v:Value)(D:List Dt)(T:List Tp)(wr:World):Prop where
 sx:SX wr b s m p v 0 0
 tl:TL base wr v D
 map:D.map Prod.fst=T
 nil:D=[]->v=.slice none 0 0
 st:Stands s T p
 le:p<=s.size
 zero:cH T=0 ↔ p=0
 is:∃ f,s.size < f+p/\lx m s f p T=RES
def LxR(w:World)(b:Nat)(s:ByteArray)(m:Md)(RES:Rs (List Tp))(wr:World):Prop:=Below w.heap.size w wr /\
 ((∃ p v D T,LxI w.heap.size b s m RES p v D T wr)\/(∃ p v c a,SX wr b s m p v c a/\c≠0/\RES=.error (c,a)))
theorem yM(T:List Tp)(x:Tp):cH (T ++ [x])=x.1.kind:=by
 unfold cH
 rw [List.getLast?_append]
 rfl
theorem LxI.next{base b:Nat}{s:ByteArray}{m:Md}{RES:Rs (List Tp)}{p:Nat}{v:Value}{D:List Dt}{T:List Tp}{wr:World}(h:LxI base b s m RES p v D T wr)(hp:p < s.size){t:Tk}{q:Nat}(ht:tok m s p (cH T)=.ok (t,q)){w':World}{v' rv:Value}{C:List (Int × Int)}
  (h1:SX w' b s m q v' 0 0) (h2:TL base w' v' (D ++ [((t,p,q),rv,C)])):LxI base b s m RES q v' (D ++ [((t,p,q),rv,C)]) (T ++ [(t,p,q)]) w'/\p < q:=by
 have hr:=lZ m s p (cH T) hp
 have ho:=pA m s p (cH T)
 rw [ht] at hr ho
 have r1:p < q:=hr.1
 have r2:q<=s.size:=hr.2
 have o1:1<=t.kind:=ho.1
 obtain⟨f,f1,f2⟩:=h.is
 obtain⟨f,rfl⟩:∃ g,f=g+1:=⟨f - 1,by omega⟩
 refine⟨⟨h1,h2,by rw [List.map_append,h.map];rfl,fun e=>by simp at e,h.st.add r1 r2 ho,r2,?_,f,by omega,?_⟩,r1⟩
 ·rw [yM]
  constructor
  ·intro e
   have:t.kind=0:=e
   omega
  ·intro e
   omega
 ·rw [<- f2]
  conv=>rhs;unfold lx
  rw [if_pos hp,ht]
theorem LxI.err{base b:Nat}{s:ByteArray}{m:Md}{RES:Rs (List Tp)}{p:Nat}{v:Value}{D:List Dt}{T:List Tp}{wr:World}(h:LxI base b s m RES p v D T wr)(hp:p < s.size){c a:Nat}(ht:tok m s p (cH T)=.error (c,a)):c≠0/\RES=.error (c,a):=by
 have hr:=lZ m s p (cH T) hp
 rw [ht] at hr
 obtain⟨f,f1,f2⟩:=h.is
 obtain⟨f,rfl⟩:∃ g,f=g+1:=⟨f - 1,by omega⟩
 refine⟨by have:=hr.1;omega,?_⟩
 rw [<- f2]
 unfold lx
 rw [if_pos hp,ht]
theorem LxI.ends{base b:Nat}{s:ByteArray}{m:Md}{RES:Rs (List Tp)}{p:Nat}{v:Value}{D:List Dt}{T:List Tp}{wr:World}(h:LxI base b s m RES p v D T wr)(hp:¬ p < s.size):RES=.ok T:=by
 obtain⟨f,f1,f2⟩:=h.is
 obtain⟨f,rfl⟩:∃ g,f=g+1:=⟨f - 1,by have:=h.le;omega⟩
 rw [<- f2]
 unfold lx
 rw [if_neg hp]
theorem LxI.room{base b:Nat}{s:ByteArray}{m:Md}{RES:Rs (List Tp)}{p:Nat}{v:Value}{D:List Dt}{T:List Tp}{wr:World}(h:LxI base b s m RES p v D T wr)(hp:p < s.size)(hs:s.size<=2000)(hb:base<=b):Room base wr b s m p v D/\LK wr b v (cH T):=
 ⟨⟨h.sx,h.tl,hb,by have h1:=h.st.few;have h2:=congrArg List.length h.map;rw [List.length_map] at h2;omega,hs,hp⟩,h.tl.lastS h.sx h.map h.st (by omega) h.nil⟩
theorem aD7{w:World}(s:ByteArray)(m:Md)(hs:2000 < s.size) :
  Calls Tryz.prog 39 #[.string s,.agg #[.bool m.c,.bool m.f]] w (zE w (.error (30,0))):=by
 have d0:(2000:Int) < (s.size:Int):=by omega
 go_enter Tryz.func39,Tryz.ntmps39
 go_wp2
 go_ret3
 exact⟨bz9,rfl⟩
end Go.Proofs.YtpfdapnfkghgkaaGreatDoor
