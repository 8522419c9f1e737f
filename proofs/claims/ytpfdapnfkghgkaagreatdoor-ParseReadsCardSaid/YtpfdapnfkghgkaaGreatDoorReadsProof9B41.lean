/-
  Parts of the proof.
-/
import Derived.Test.YtpfdapnfkghgkaaGreatDoorReadsProof9B39
import Derived.Test.YtpfdapnfkghgkaaGreatDoorReadsProof9B40
set_option maxRecDepth 100000
set_option maxHeartbeats 8000000
namespace Go.Proofs.YtpfdapnfkghgkaaGreatDoor
open Go Go.RowKit
attribute [local go_sem] aR
abbrev It:=Bool × Int × List (Int × Int) × Nat
def ItIs(w:World)(b:Nat)(s:ByteArray)(m:Md)(p:Nat)(v:Value)(r:Rs It)(e:Ending)(w':World):Prop:=
 Fr (At b) w w'/\match r with
 | .error (c,a)=>∃ ev cv q n k tv,e=.returned (.agg #[.bool ev,.int .i64 cv,.slice q n k,.int .i64 tv])/\SX w' b s m p v c a
 | .ok (ev,cv,L,q)=>∃ lv,e=.returned (.agg #[.bool ev,.int .i64 cv,lv,.int .i64 (q:Int)])/\RR w.heap.size w' lv L/\SX w' b s m p v 0 0
def yF(s:ByteArray)(o k:Nat):Rs It:=match nam s o k with
 | .error e=>.error e
 | .ok (L,q)=>.ok (false,0,L,q)
def qF(m:Md)(s:ByteArray)(o k:Nat)(d:Bool):Rs It:=match jX m s o k with
 | .error e=>.error e
 | .ok (c,q)=>.ok (d,c,[(c,c)],q)
def aQ2(m:Md)(s:ByteArray)(o k:Nat):Rs It:=if s.size<=k then .error (33,o) else match chr m s k with
 | .error e=>.error e
 | .ok (c,q)=>.ok (true,c,[(c,c)],q)
def hJ(m:Md)(s:ByteArray)(o k:Nat):Rs It:=
 if aJ s k [91,58] then yF s o k else if aJ s k [91,61] then qF m s o k false else if aJ s k [91,46] then qF m s o k true else aQ2 m s o k
theorem gH{s:ByteArray}{k:Nat}{x:UInt8}(h:aJ s k [91,x]=true):s.extract (k+1) (k+2)=⟨#[x]⟩:=by
 have h2:=eE.1 h
 have e1:s.data.toList[k+1]?=some x:=kD.2 ⟨h2.1,h2.2.2⟩
 refine ByteArray.ext (Array.toList_inj.1 ?_)
 rw [ByteArray.data_extract,Array.toList_extract,List.extract_eq_take_drop,show k+2 - (k+1)=1 by omega,List.take_one,List.head?_drop,e1]
 rfl
abbrev itZ:Obj:=.cells #[.bool false,.int .i64 0,.slice none 0 0,.int .i64 0] 172
def IZ(w:World)(g:Nat):Prop:=w.heap[g]?=some itZ
theorem IZ.all{w:World}{g:Nat}(h:IZ w g):w.cell? ⟨g,0,none⟩=some (.bool false)/\w.cell? ⟨g,1,none⟩=some (.int .i64 0)/\w.cell? ⟨g,2,none⟩=some (.slice none 0 0)/\w.cell? ⟨g,3,none⟩=some (.int .i64 0) /\
  w.frozen? ⟨g,0,none⟩=false/\w.frozen? ⟨g,1,none⟩=false/\w.frozen? ⟨g,2,none⟩=false/\w.frozen? ⟨g,3,none⟩=false:=
 ⟨aB h (i:=0) rfl,aB h (i:=1) rfl,aB h (i:=2) rfl,aB h (i:=3) rfl,aP h 0,aP h 1,aP h 2,aP h 3⟩
theorem IZ.fr{w w':World}{g:Nat}{S:Nat->Prop}(h:IZ w g)(hb:Fr S w w')(hn:¬ S g):IZ w' g:=(hb.block g (aA h) hn).trans h
theorem IZ.new(w:World):IZ (w.alloc itZ) w.heap.size:=aG _ _
abbrev uY(w:World)(g:Nat)(a b c d:Value):World:=(((w.setCell ⟨g,0,none⟩ a).setCell ⟨g,1,none⟩ b).setCell ⟨g,2,none⟩ c).setCell ⟨g,3,none⟩ d
theorem bO{w:World}{g:Nat}(h:IZ w g)(a b c d:Value):(uY w g a b c d).cell? ⟨g,0,none⟩=some a/\(uY w g a b c d).cell? ⟨g,1,none⟩=some b/\(uY w g a b c d).cell? ⟨g,2,none⟩=some c/\(uY w g a b c d).cell? ⟨g,3,none⟩=some d:=by
 have k:(uY w g a b c d).heap[g]?=some (.cells #[a,b,c,d] 172 (0,0)):=aK (aK (aK (aK h 0 a) 1 b) 2 c) 3 d
 exact⟨aB k (i:=0) rfl,aB k (i:=1) rfl,aB k (i:=2) rfl,aB k (i:=3) rfl⟩
theorem fr4{S:Nat->Prop}{a w:World}{g:Nat}(h:Fr S a w)(hg:a.heap.size<=g)(x0 x1 x2 x3:Value):Fr S a (uY w g x0 x1 x2 x3):=
 (((h.setNew (p:=⟨g,0,none⟩) hg _).setNew (p:=⟨g,1,none⟩) hg _).setNew (p:=⟨g,2,none⟩) hg _).setNew (p:=⟨g,3,none⟩) hg _
theorem iA{w:World}{g:Nat}(x0 x1 x2 x3:Value):Fr (fun k=>k=g) w (uY w g x0 x1 x2 x3):=
 ((((Fr.refl (fun k=>k=g) w).setCell (S:=fun k=>k=g) (p:=⟨g,0,none⟩) rfl _).setCell (S:=fun k=>k=g) (p:=⟨g,1,none⟩) rfl _).setCell (S:=fun k=>k=g) (p:=⟨g,2,none⟩) rfl _).setCell (S:=fun k=>k=g) (p:=⟨g,3,none⟩) rfl _
theorem aD6{w:World}{b:Nat}{s:ByteArray}{m:Md}{p:Nat}{v:Value}(h:SX w b s m p v 0 0)(hs:s.size<=2000)(o k:Nat)(hsee:aJ s k [91,58]=true)(hf:fnd s [58,93] (k+2)=none) :
  Calls Tryz.prog 142 #[.pointer (some ⟨b,0,none⟩),.int .i64 (k:Int),.int .i64 (o:Int)] w (ItIs w b s m p v (.error (33,o))):=by
 have hsl:=bE hsee (by simp)
 simp only [List.length_cons,List.length_nil] at hsl
 have hsg:=gH hsee
 obtain⟨K1,hK1⟩:∃ K1,K1=k+1:=⟨_,rfl⟩
 obtain⟨K2,hK2⟩:∃ K2,K2=k+2:=⟨_,rfl⟩
 obtain⟨K3,hK3⟩:∃ K3,K3=k+2:=⟨_,rfl⟩
 rw [<- hK1,<- hK2] at hsg
 rw [<- hK3] at hf
 have w1:IntKind.wrap .i64 ((k:Int)+1)=(K1:Int):=by rw [wrap_small _ (by omega) (by omega)];omega
 have w2:IntKind.wrap .i64 ((k:Int)+2)=(K2:Int):=by rw [wrap_small _ (by omega) (by omega)];omega
 have w3:IntKind.wrap .i64 ((K2:Int)+1)=(K2:Int)+1:=by rw [wrap_small _ (by omega) (by omega)]
 have i1:(0:Int)<=(K1:Int):=by omega
 have i2:(K1:Int)<=(K2:Int):=by omega
 have i3:(K2:Int)<=(s.size:Int):=by omega
 have W1:Below w.heap.size w (w.alloc itZ):=bz9
 have lb:=h.lt
 have c0:=(h.kept W1).c0
 have HF:Hid (∀ W,SX W b s m p v 0 0->Calls Tryz.prog 156 #[.pointer (some ⟨b,0,none⟩),.int .i64 (K2:Int),.string (⟨#[58]⟩ ++ ⟨#[93]⟩)] W fun e w'=>e=.returned (.int .i64 (-1))/\Below W.heap.size W w'):=fun W hW=>by
  have:=gJ hW hs K3 (by omega) ⟨#[58,93]⟩ rfl
  rw [show fnd s (ByteArray.mk #[58,93]).data.toList K3=none from hf,show (K3:Int)=(K2:Int) by omega] at this
  exact this
 have H:Hid (SX w b s m p v 0 0/\Below w.heap.size w (w.alloc itZ)):=⟨h,W1⟩
 clear h W1 hf hsee hK1 hsl
 clear hK2 hK3
 go_enter Tryz.func142,Tryz.ntmps142
 go_wp2_with first
  |(go_at_call 156;(with_reducible refine(HF.out _ (H.out.1.kept H.out.2)).mono ?_);rintro e w5 ⟨rfl,h5⟩;have X5:Hid (SX w5 b s m p v 0 0/\Below w.heap.size w w5/\IZ w5 w.heap.size):=⟨(H.out.1.kept H.out.2).kept h5,aE H.out.2 h5 lz9,(IZ.new w).fr (Fr.of_below h5) (S:=fun _=>False) (fun q=>q)⟩;have q0:=X5.out.1.c0;have q1:=X5.out.1.c1;have ql:=X5.out.1.lt;clear h5)
  |(go_at_call 97;refine(dR X5.out.1 33 o).mono ?_;rintro e w6 ⟨rfl,h6,g6⟩;have X6:Hid (SX w6 b s m p v 33 o/\Fr (At b) w w6/\IZ w6 w.heap.size):=⟨h6,(Fr.of_below X5.out.2.1).trans g6,X5.out.2.2.fr g6 (by intro q;have:w.heap.size=b:=q;omega)⟩;have r0:=X6.out.1.c0;have rl:=X6.out.1.lt;obtain⟨z0,z1,z2,z3,y0,y1,y2,y3⟩:=X6.out.2.2.all;clear h6 g6)
 refine bodyPost_ret (v:=.agg #[.bool false,.int .i64 0,.slice none 0 0,.int .i64 (s.size:Int)]) (by obtain⟨e0,e1,e2,e3⟩:=bO X6.out.2.2 (.bool false) (.int .i64 0) (.slice none 0 0) (.int .i64 (s.size:Int));simp [results,Tryz.results142,go_sem,e0,e1,e2,e3]) rfl ⟨fr4 X6.out.2.1 lz9 _ _ _ _,_,_,_,_,_,_,rfl,X6.out.1.fr (iA _ _ _ _) (by intro q;have:b=w.heap.size:=q;omega)⟩
theorem uV{w:World}{b:Nat}{s:ByteArray}{m:Md}{p:Nat}{v:Value}(h:SX w b s m p v 0 0)(hs:s.size<=2000)(o k:Nat)(hsee:aJ s k [91,61]=true)(hf:fnd s [61,93] (k+3)=none) :
  Calls Tryz.prog 142 #[.pointer (some ⟨b,0,none⟩),.int .i64 (k:Int),.int .i64 (o:Int)] w (ItIs w b s m p v (.error (33,o))):=by
 have hsl:=bE hsee (by simp)
 simp only [List.length_cons,List.length_nil] at hsl
 have hsg:=gH hsee
 obtain⟨K1,hK1⟩:∃ K1,K1=k+1:=⟨_,rfl⟩
 obtain⟨K2,hK2⟩:∃ K2,K2=k+2:=⟨_,rfl⟩
 obtain⟨K3,hK3⟩:∃ K3,K3=k+3:=⟨_,rfl⟩
 rw [<- hK1,<- hK2] at hsg
 rw [<- hK3] at hf
 have w1:IntKind.wrap .i64 ((k:Int)+1)=(K1:Int):=by rw [wrap_small _ (by omega) (by omega)];omega
 have w2:IntKind.wrap .i64 ((k:Int)+2)=(K2:Int):=by rw [wrap_small _ (by omega) (by omega)];omega
 have w3:IntKind.wrap .i64 ((K2:Int)+1)=(K2:Int)+1:=by rw [wrap_small _ (by omega) (by omega)]
 have i1:(0:Int)<=(K1:Int):=by omega
 have i2:(K1:Int)<=(K2:Int):=by omega
 have i3:(K2:Int)<=(s.size:Int):=by omega
 have W1:Below w.heap.size w (w.alloc itZ):=bz9
 have lb:=h.lt
 have c0:=(h.kept W1).c0
 have HF:Hid (∀ W,SX W b s m p v 0 0->Calls Tryz.prog 156 #[.pointer (some ⟨b,0,none⟩),.int .i64 ((K2:Int)+1),.string (⟨#[61]⟩ ++ ⟨#[93]⟩)] W fun e w'=>e=.returned (.int .i64 (-1))/\Below W.heap.size W w'):=fun W hW=>by
  have:=gJ hW hs K3 (by omega) ⟨#[61,93]⟩ rfl
  rw [show fnd s (ByteArray.mk #[61,93]).data.toList K3=none from hf,show (K3:Int)=((K2:Int)+1) by omega] at this
  exact this
 have H:Hid (SX w b s m p v 0 0/\Below w.heap.size w (w.alloc itZ)):=⟨h,W1⟩
 clear h W1 hf hsee hK1 hsl
 clear hK2 hK3
 go_enter Tryz.func142,Tryz.ntmps142
 go_wp2_with first
  |(go_at_call 156;(with_reducible refine(HF.out _ (H.out.1.kept H.out.2)).mono ?_);rintro e w5 ⟨rfl,h5⟩;have X5:Hid (SX w5 b s m p v 0 0/\Below w.heap.size w w5/\IZ w5 w.heap.size):=⟨(H.out.1.kept H.out.2).kept h5,aE H.out.2 h5 lz9,(IZ.new w).fr (Fr.of_below h5) (S:=fun _=>False) (fun q=>q)⟩;have q0:=X5.out.1.c0;have q1:=X5.out.1.c1;have ql:=X5.out.1.lt;clear h5)
  |(go_at_call 97;refine(dR X5.out.1 33 o).mono ?_;rintro e w6 ⟨rfl,h6,g6⟩;have X6:Hid (SX w6 b s m p v 33 o/\Fr (At b) w w6/\IZ w6 w.heap.size):=⟨h6,(Fr.of_below X5.out.2.1).trans g6,X5.out.2.2.fr g6 (by intro q;have:w.heap.size=b:=q;omega)⟩;have r0:=X6.out.1.c0;have rl:=X6.out.1.lt;obtain⟨z0,z1,z2,z3,y0,y1,y2,y3⟩:=X6.out.2.2.all;clear h6 g6)
 refine bodyPost_ret (v:=.agg #[.bool false,.int .i64 0,.slice none 0 0,.int .i64 (s.size:Int)]) (by obtain⟨e0,e1,e2,e3⟩:=bO X6.out.2.2 (.bool false) (.int .i64 0) (.slice none 0 0) (.int .i64 (s.size:Int));simp [results,Tryz.results142,go_sem,e0,e1,e2,e3]) rfl ⟨fr4 X6.out.2.1 lz9 _ _ _ _,_,_,_,_,_,_,rfl,X6.out.1.fr (iA _ _ _ _) (by intro q;have:b=w.heap.size:=q;omega)⟩
theorem uW{w:World}{b:Nat}{s:ByteArray}{m:Md}{p:Nat}{v:Value}(h:SX w b s m p v 0 0)(hs:s.size<=2000)(o k:Nat)(hsee:aJ s k [91,46]=true)(hf:fnd s [46,93] (k+3)=none) :
  Calls Tryz.prog 142 #[.pointer (some ⟨b,0,none⟩),.int .i64 (k:Int),.int .i64 (o:Int)] w (ItIs w b s m p v (.error (33,o))):=by
 have hsl:=bE hsee (by simp)
 simp only [List.length_cons,List.length_nil] at hsl
 have hsg:=gH hsee
 obtain⟨K1,hK1⟩:∃ K1,K1=k+1:=⟨_,rfl⟩
 obtain⟨K2,hK2⟩:∃ K2,K2=k+2:=⟨_,rfl⟩
 obtain⟨K3,hK3⟩:∃ K3,K3=k+3:=⟨_,rfl⟩
 rw [<- hK1,<- hK2] at hsg
 rw [<- hK3] at hf
 have w1:IntKind.wrap .i64 ((k:Int)+1)=(K1:Int):=by rw [wrap_small _ (by omega) (by omega)];omega
 have w2:IntKind.wrap .i64 ((k:Int)+2)=(K2:Int):=by rw [wrap_small _ (by omega) (by omega)];omega
 have w3:IntKind.wrap .i64 ((K2:Int)+1)=(K2:Int)+1:=by rw [wrap_small _ (by omega) (by omega)]
 have i1:(0:Int)<=(K1:Int):=by omega
 have i2:(K1:Int)<=(K2:Int):=by omega
 have i3:(K2:Int)<=(s.size:Int):=by omega
 have W1:Below w.heap.size w (w.alloc itZ):=bz9
 have lb:=h.lt
 have c0:=(h.kept W1).c0
 have HF:Hid (∀ W,SX W b s m p v 0 0->Calls Tryz.prog 156 #[.pointer (some ⟨b,0,none⟩),.int .i64 ((K2:Int)+1),.string (⟨#[46]⟩ ++ ⟨#[93]⟩)] W fun e w'=>e=.returned (.int .i64 (-1))/\Below W.heap.size W w'):=fun W hW=>by
  have:=gJ hW hs K3 (by omega) ⟨#[46,93]⟩ rfl
  rw [show fnd s (ByteArray.mk #[46,93]).data.toList K3=none from hf,show (K3:Int)=((K2:Int)+1) by omega] at this
  exact this
 have H:Hid (SX w b s m p v 0 0/\Below w.heap.size w (w.alloc itZ)):=⟨h,W1⟩
 clear h W1 hf hsee hK1 hsl
 clear hK2 hK3
 go_enter Tryz.func142,Tryz.ntmps142
 go_wp2_with first
  |(go_at_call 156;(with_reducible refine(HF.out _ (H.out.1.kept H.out.2)).mono ?_);rintro e w5 ⟨rfl,h5⟩;have X5:Hid (SX w5 b s m p v 0 0/\Below w.heap.size w w5/\IZ w5 w.heap.size):=⟨(H.out.1.kept H.out.2).kept h5,aE H.out.2 h5 lz9,(IZ.new w).fr (Fr.of_below h5) (S:=fun _=>False) (fun q=>q)⟩;have q0:=X5.out.1.c0;have q1:=X5.out.1.c1;have ql:=X5.out.1.lt;clear h5)
  |(go_at_call 97;refine(dR X5.out.1 33 o).mono ?_;rintro e w6 ⟨rfl,h6,g6⟩;have X6:Hid (SX w6 b s m p v 33 o/\Fr (At b) w w6/\IZ w6 w.heap.size):=⟨h6,(Fr.of_below X5.out.2.1).trans g6,X5.out.2.2.fr g6 (by intro q;have:w.heap.size=b:=q;omega)⟩;have r0:=X6.out.1.c0;have rl:=X6.out.1.lt;obtain⟨z0,z1,z2,z3,y0,y1,y2,y3⟩:=X6.out.2.2.all;clear h6 g6)
 refine bodyPost_ret (v:=.agg #[.bool false,.int .i64 0,.slice none 0 0,.int .i64 (s.size:Int)]) (by obtain⟨e0,e1,e2,e3⟩:=bO X6.out.2.2 (.bool false) (.int .i64 0) (.slice none 0 0) (.int .i64 (s.size:Int));simp [results,Tryz.results142,go_sem,e0,e1,e2,e3]) rfl ⟨fr4 X6.out.2.1 lz9 _ _ _ _,_,_,_,_,_,_,rfl,X6.out.1.fr (iA _ _ _ _) (by intro q;have:b=w.heap.size:=q;omega)⟩
theorem aU0{w:World}{b:Nat}{s:ByteArray}{m:Md}{p:Nat}{v:Value}(h:SX w b s m p v 0 0)(hs:s.size<=2000)(o k:Nat)(hsee:aJ s k [91,58]=true)(t0:Nat)(LL:List (Int × Int))(hf:fnd s [58,93] (k+2)=some t0)(hnm:nmd (s.extract (k+2) t0)=(true,LL)) :
  Calls Tryz.prog 142 #[.pointer (some ⟨b,0,none⟩),.int .i64 (k:Int),.int .i64 (o:Int)] w (ItIs w b s m p v (.ok (false,0,LL,t0+2))):=by
 have hsl:=bE hsee (by simp)
 simp only [List.length_cons,List.length_nil] at hsl
 have hsg:=gH hsee
 obtain⟨K1,hK1⟩:∃ K1,K1=k+1:=⟨_,rfl⟩
 obtain⟨K2,hK2⟩:∃ K2,K2=k+2:=⟨_,rfl⟩
 obtain⟨K3,hK3⟩:∃ K3,K3=k+2:=⟨_,rfl⟩
 rw [<- hK1,<- hK2] at hsg
 rw [<- hK3] at hf
 have w1:IntKind.wrap .i64 ((k:Int)+1)=(K1:Int):=by rw [wrap_small _ (by omega) (by omega)];omega
 have w2:IntKind.wrap .i64 ((k:Int)+2)=(K2:Int):=by rw [wrap_small _ (by omega) (by omega)];omega
 have w3:IntKind.wrap .i64 ((K2:Int)+1)=(K2:Int)+1:=by rw [wrap_small _ (by omega) (by omega)]
 have i1:(0:Int)<=(K1:Int):=by omega
 have i2:(K1:Int)<=(K2:Int):=by omega
 have i3:(K2:Int)<=(s.size:Int):=by omega
 have W1:Below w.heap.size w (w.alloc itZ):=bz9
 have lb:=h.lt
 have c0:=(h.kept W1).c0
 have HF:Hid (∀ W,SX W b s m p v 0 0->Calls Tryz.prog 156 #[.pointer (some ⟨b,0,none⟩),.int .i64 (K2:Int),.string (⟨#[58]⟩ ++ ⟨#[93]⟩)] W fun e w'=>e=.returned (.int .i64 (t0:Int))/\Below W.heap.size W w'):=fun W hW=>by
  have:=gJ hW hs K3 (by omega) ⟨#[58,93]⟩ rfl
  rw [show fnd s (ByteArray.mk #[58,93]).data.toList K3=some t0 from hf,show (K3:Int)=(K2:Int) by omega] at this
  exact this
 obtain⟨T2,hT2⟩:∃ T2,T2=t0+2:=⟨_,rfl⟩
 rw [<- hT2]
 have ht:=eG hf
 have ht2:=bE ht.2.1 (by simp)
 simp only [List.length_cons,List.length_nil] at ht2
 have i4:(K2:Int)<=(t0:Int):=by omega
 have i5:(t0:Int)<=(s.size:Int):=by omega
 have i6:(0:Int)<=(K2:Int):=by omega
 have i7:¬ (t0:Int) < 0:=by omega
 have w4:IntKind.wrap .i64 ((t0:Int)+2)=(T2:Int):=by rw [wrap_small _ (by omega) (by omega)];omega
 have HNM:Hid (∀ W,Calls Tryz.prog 157 #[.string (s.extract K2 t0)] W (qL W true LL)):=fun W=>by
  have:=rG (s.extract K2 t0) W
  rw [hK2,hnm] at this
  rw [hK2]
  exact this
 have H:Hid (SX w b s m p v 0 0/\Below w.heap.size w (w.alloc itZ)):=⟨h,W1⟩
 clear h W1 hf hsee hK1 hsl
 clear hK2 hK3 hT2 hnm ht ht2
 go_enter Tryz.func142,Tryz.ntmps142
 go_wp2_with first
  |(go_at_call 156;(with_reducible refine(HF.out _ (H.out.1.kept H.out.2)).mono ?_);rintro e w5 ⟨rfl,h5⟩;have X5:Hid (SX w5 b s m p v 0 0/\Below w.heap.size w w5/\IZ w5 w.heap.size):=⟨(H.out.1.kept H.out.2).kept h5,aE H.out.2 h5 lz9,(IZ.new w).fr (Fr.of_below h5) (S:=fun _=>False) (fun q=>q)⟩;have q0:=X5.out.1.c0;have q1:=X5.out.1.c1;have ql:=X5.out.1.lt;clear h5)
  |(go_at_call 157;(with_reducible refine(HNM.out _).mono ?_);rintro e w7 ⟨v7,rfl,h7,g7⟩;obtain⟨q7,k7,rfl⟩:=h7.shape;have X7:Hid (SX w7 b s m p v 0 0/\Below w.heap.size w w7/\IZ w7 w.heap.size/\RR w.heap.size w7 (.slice q7 LL.length k7) LL):=⟨X5.out.1.kept g7,aE X5.out.2.1 g7 lz9,X5.out.2.2.fr (S:=fun _=>False) (Fr.of_below g7) (fun q=>q),h7.mono X5.out.2.1.size⟩;obtain⟨z0,z1,z2,z3,y0,y1,y2,y3⟩:=X7.out.2.2.1.all;clear h7 g7)
 refine bodyPost_ret (v:=.agg #[.bool false,.int .i64 0,.slice q7 LL.length k7,.int .i64 (T2:Int)]) (by obtain⟨e0,e1,e2,e3⟩:=bO X7.out.2.2.1 (.bool false) (.int .i64 0) (.slice q7 LL.length k7) (.int .i64 (T2:Int));simp [results,Tryz.results142,go_sem,e0,e1,e2,e3]) rfl ⟨fr4 (Fr.of_below X7.out.2.1) lz9 _ _ _ _,_,rfl,(X7.out.2.2.2.fr (S:=fun k=>k=w.heap.size) (iA _ _ _ _) (fun k hk e=>aN X7.out.2.2.2 X7.out.2.2.1 (by decide) (by rw [hk,show k=_ from e]))),X7.out.1.fr (iA _ _ _ _) (by intro q;have:b=w.heap.size:=q;omega)⟩
theorem aL5{w:World}{b:Nat}{s:ByteArray}{m:Md}{p:Nat}{v:Value}(h:SX w b s m p v 0 0)(hs:s.size<=2000)(o k:Nat)(hsee:aJ s k [91,58]=true)(t0:Nat)(LL:List (Int × Int))(hf:fnd s [58,93] (k+2)=some t0)(hnm:nmd (s.extract (k+2) t0)=(false,LL)) :
  Calls Tryz.prog 142 #[.pointer (some ⟨b,0,none⟩),.int .i64 (k:Int),.int .i64 (o:Int)] w (ItIs w b s m p v (.error (35,k))):=by
 have hsl:=bE hsee (by simp)
 simp only [List.length_cons,List.length_nil] at hsl
 have hsg:=gH hsee
 obtain⟨K1,hK1⟩:∃ K1,K1=k+1:=⟨_,rfl⟩
 obtain⟨K2,hK2⟩:∃ K2,K2=k+2:=⟨_,rfl⟩
 obtain⟨K3,hK3⟩:∃ K3,K3=k+2:=⟨_,rfl⟩
 rw [<- hK1,<- hK2] at hsg
 rw [<- hK3] at hf
 have w1:IntKind.wrap .i64 ((k:Int)+1)=(K1:Int):=by rw [wrap_small _ (by omega) (by omega)];omega
 have w2:IntKind.wrap .i64 ((k:Int)+2)=(K2:Int):=by rw [wrap_small _ (by omega) (by omega)];omega
 have w3:IntKind.wrap .i64 ((K2:Int)+1)=(K2:Int)+1:=by rw [wrap_small _ (by omega) (by omega)]
 have i1:(0:Int)<=(K1:Int):=by omega
 have i2:(K1:Int)<=(K2:Int):=by omega
 have i3:(K2:Int)<=(s.size:Int):=by omega
 have W1:Below w.heap.size w (w.alloc itZ):=bz9
 have lb:=h.lt
 have c0:=(h.kept W1).c0
 have HF:Hid (∀ W,SX W b s m p v 0 0->Calls Tryz.prog 156 #[.pointer (some ⟨b,0,none⟩),.int .i64 (K2:Int),.string (⟨#[58]⟩ ++ ⟨#[93]⟩)] W fun e w'=>e=.returned (.int .i64 (t0:Int))/\Below W.heap.size W w'):=fun W hW=>by
  have:=gJ hW hs K3 (by omega) ⟨#[58,93]⟩ rfl
  rw [show fnd s (ByteArray.mk #[58,93]).data.toList K3=some t0 from hf,show (K3:Int)=(K2:Int) by omega] at this
  exact this
 obtain⟨T2,hT2⟩:∃ T2,T2=t0+2:=⟨_,rfl⟩
 have ht:=eG hf
 have ht2:=bE ht.2.1 (by simp)
 simp only [List.length_cons,List.length_nil] at ht2
 have i4:(K2:Int)<=(t0:Int):=by omega
 have i5:(t0:Int)<=(s.size:Int):=by omega
 have i6:(0:Int)<=(K2:Int):=by omega
 have i7:¬ (t0:Int) < 0:=by omega
 have w4:IntKind.wrap .i64 ((t0:Int)+2)=(T2:Int):=by rw [wrap_small _ (by omega) (by omega)];omega
 have HNM:Hid (∀ W,Calls Tryz.prog 157 #[.string (s.extract K2 t0)] W (qL W false LL)):=fun W=>by
  have:=rG (s.extract K2 t0) W
  rw [hK2,hnm] at this
  rw [hK2]
  exact this
 have H:Hid (SX w b s m p v 0 0/\Below w.heap.size w (w.alloc itZ)):=⟨h,W1⟩
 clear h W1 hf hsee hK1 hsl
 clear hK2 hK3 hT2 hnm ht ht2
 go_enter Tryz.func142,Tryz.ntmps142
 go_wp2_with first
  |(go_at_call 156;(with_reducible refine(HF.out _ (H.out.1.kept H.out.2)).mono ?_);rintro e w5 ⟨rfl,h5⟩;have X5:Hid (SX w5 b s m p v 0 0/\Below w.heap.size w w5/\IZ w5 w.heap.size):=⟨(H.out.1.kept H.out.2).kept h5,aE H.out.2 h5 lz9,(IZ.new w).fr (Fr.of_below h5) (S:=fun _=>False) (fun q=>q)⟩;have q0:=X5.out.1.c0;have q1:=X5.out.1.c1;have ql:=X5.out.1.lt;clear h5)
  |(go_at_call 157;(with_reducible refine(HNM.out _).mono ?_);rintro e w7 ⟨v7,rfl,h7,g7⟩;obtain⟨q7,k7,rfl⟩:=h7.shape;have X7:Hid (SX w7 b s m p v 0 0/\Below w.heap.size w w7/\IZ w7 w.heap.size/\RR w.heap.size w7 (.slice q7 LL.length k7) LL):=⟨X5.out.1.kept g7,aE X5.out.2.1 g7 lz9,X5.out.2.2.fr (S:=fun _=>False) (Fr.of_below g7) (fun q=>q),h7.mono X5.out.2.1.size⟩; clear h7 g7)
  |(go_at_call 97;refine(dR X7.out.1 35 k).mono ?_;rintro e w6 ⟨rfl,h6,g6⟩;have X6:Hid (SX w6 b s m p v 35 k/\Fr (At b) w w6/\IZ w6 w.heap.size):=⟨h6,(Fr.of_below X7.out.2.1).trans g6,X7.out.2.2.1.fr g6 (by intro q;have:w.heap.size=b:=q;omega)⟩;have r0:=X6.out.1.c0;have rl:=X6.out.1.lt;obtain⟨z0,z1,z2,z3,y0,y1,y2,y3⟩:=X6.out.2.2.all;clear h6 g6)
 refine bodyPost_ret (v:=.agg #[.bool false,.int .i64 0,.slice q7 LL.length k7,.int .i64 (T2:Int)]) (by obtain⟨e0,e1,e2,e3⟩:=bO X6.out.2.2 (.bool false) (.int .i64 0) (.slice q7 LL.length k7) (.int .i64 (T2:Int));simp [results,Tryz.results142,go_sem,e0,e1,e2,e3]) rfl ⟨fr4 (X6.out.2.1) lz9 _ _ _ _,_,_,_,_,_,_,rfl,X6.out.1.fr (iA _ _ _ _) (by intro q;have:b=w.heap.size:=q;omega)⟩
theorem aE3{w:World}{b:Nat}{s:ByteArray}{m:Md}{p:Nat}{v:Value}(h:SX w b s m p v 0 0)(hs:s.size<=2000)(o k:Nat)(hsee:aJ s k [91,61]=true)(t0:Nat)(c:Int)(n:Nat)(hf:fnd s [61,93] (k+3)=some t0)(hun:un m (s.extract (k+2) t0) 0=(c,n))(hcn:¬ c < 0/\n=t0 - (k+2)) :
  Calls Tryz.prog 142 #[.pointer (some ⟨b,0,none⟩),.int .i64 (k:Int),.int .i64 (o:Int)] w (ItIs w b s m p v (.ok (false,c,[(c,c)],t0+2))):=by
 have hsl:=bE hsee (by simp)
 simp only [List.length_cons,List.length_nil] at hsl
 have hsg:=gH hsee
 obtain⟨K1,hK1⟩:∃ K1,K1=k+1:=⟨_,rfl⟩
 obtain⟨K2,hK2⟩:∃ K2,K2=k+2:=⟨_,rfl⟩
 obtain⟨K3,hK3⟩:∃ K3,K3=k+3:=⟨_,rfl⟩
 rw [<- hK1,<- hK2] at hsg
 rw [<- hK3] at hf
 have w1:IntKind.wrap .i64 ((k:Int)+1)=(K1:Int):=by rw [wrap_small _ (by omega) (by omega)];omega
 have w2:IntKind.wrap .i64 ((k:Int)+2)=(K2:Int):=by rw [wrap_small _ (by omega) (by omega)];omega
 have w3:IntKind.wrap .i64 ((K2:Int)+1)=(K2:Int)+1:=by rw [wrap_small _ (by omega) (by omega)]
 have i1:(0:Int)<=(K1:Int):=by omega
 have i2:(K1:Int)<=(K2:Int):=by omega
 have i3:(K2:Int)<=(s.size:Int):=by omega
 have W1:Below w.heap.size w (w.alloc itZ):=bz9
 have lb:=h.lt
 have c0:=(h.kept W1).c0
 have HF:Hid (∀ W,SX W b s m p v 0 0->Calls Tryz.prog 156 #[.pointer (some ⟨b,0,none⟩),.int .i64 ((K2:Int)+1),.string (⟨#[61]⟩ ++ ⟨#[93]⟩)] W fun e w'=>e=.returned (.int .i64 (t0:Int))/\Below W.heap.size W w'):=fun W hW=>by
  have:=gJ hW hs K3 (by omega) ⟨#[61,93]⟩ rfl
  rw [show fnd s (ByteArray.mk #[61,93]).data.toList K3=some t0 from hf,show (K3:Int)=((K2:Int)+1) by omega] at this
  exact this
 obtain⟨T2,hT2⟩:∃ T2,T2=t0+2:=⟨_,rfl⟩
 rw [<- hT2]
 have ht:=eG hf
 have ht2:=bE ht.2.1 (by simp)
 simp only [List.length_cons,List.length_nil] at ht2
 have i4:(K2:Int)<=(t0:Int):=by omega
 have i5:(t0:Int)<=(s.size:Int):=by omega
 have i6:(0:Int)<=(K2:Int):=by omega
 have i7:¬ (t0:Int) < 0:=by omega
 have w4:IntKind.wrap .i64 ((t0:Int)+2)=(T2:Int):=by rw [wrap_small _ (by omega) (by omega)];omega
 obtain⟨TT,hTT⟩:∃ TT,TT=s.extract K2 t0:=⟨_,rfl⟩
 have hTs:TT.size=t0 - K2:=by rw [hTT,ByteArray.size_extract];omega
 have HU:Hid (∀ W,Calls Tryz.prog 93 #[.string TT,.int .i64 0,.bool m.c] W fun e w'=>e=.returned (.tuple #[.int .i64 c,.int .i64 (n:Int)])/\Below W.heap.size W w'):=fun W=>by
  have:=dB TT 0 m W (by omega) (by omega)
  rw [hTT,hK2,hun] at this
  rw [hTT,hK2]
  exact this
 rw [<- hK2] at hcn
 have j0:¬ c < 0:=by omega
 have j1:n=TT.size:=by omega
 have j2:((n:Int) != (TT.size:Int))=false:=by rw [j1];simp
 have hTT':=hTT.symm
 have H:Hid (SX w b s m p v 0 0/\Below w.heap.size w (w.alloc itZ)):=⟨h,W1⟩
 clear h W1 hf hsee hK1 hsl
 clear hK2 hK3 hT2 hun hcn ht ht2 hTT hTs j1
 go_enter Tryz.func142,Tryz.ntmps142
 go_wp2_with first
  |(go_at_call 156;(with_reducible refine(HF.out _ (H.out.1.kept H.out.2)).mono ?_);rintro e w5 ⟨rfl,h5⟩;have X5:Hid (SX w5 b s m p v 0 0/\Below w.heap.size w w5/\IZ w5 w.heap.size):=⟨(H.out.1.kept H.out.2).kept h5,aE H.out.2 h5 lz9,(IZ.new w).fr (Fr.of_below h5) (S:=fun _=>False) (fun q=>q)⟩;have q0:=X5.out.1.c0;have q1:=X5.out.1.c1;have ql:=X5.out.1.lt;clear h5)
  |(go_at_call 93;(with_reducible refine(HU.out _).mono ?_);rintro e w7 ⟨rfl,g7⟩;have X7:Hid (SX w7 b s m p v 0 0/\Below w.heap.size w w7/\IZ w7 w.heap.size):=⟨X5.out.1.kept g7,aE X5.out.2.1 g7 lz9,X5.out.2.2.fr (S:=fun _=>False) (Fr.of_below g7) (fun q=>q)⟩;have r1:=X7.out.1.lt;have X8:Hid (SX (w7.alloc (.cells #[.int .i64 c,.int .i64 c] 99)) b s m p v 0 0/\Below w.heap.size w (w7.alloc (.cells #[.int .i64 c,.int .i64 c] 99))/\IZ (w7.alloc (.cells #[.int .i64 c,.int .i64 c] 99)) w.heap.size/\RR w.heap.size (w7.alloc (.cells #[.int .i64 c,.int .i64 c] 99)) (.slice (some ⟨w7.heap.size,0,none⟩) 1 1) [(c,c)]):=⟨X7.out.1.kept (bz9),X7.out.2.1.alloc X7.out.2.1.size _,X7.out.2.2.fr (S:=fun _=>False) (Fr.of_below (bz9)) (fun q=>q),RR.mono (World.ownsRow_lit w7 #[.int .i64 c,.int .i64 c] 1 lz9 (by unfold maxLen;omega) rfl) X7.out.2.1.size⟩;obtain⟨z0,z1,z2,z3,y0,y1,y2,y3⟩:=X8.out.2.2.1.all;clear g7)
 refine bodyPost_ret (v:=.agg #[.bool false,.int .i64 c,.slice (some ⟨w7.heap.size,0,none⟩) 1 1,.int .i64 (T2:Int)]) (by obtain⟨e0,e1,e2,e3⟩:=bO X8.out.2.2.1 (.bool false) (.int .i64 c) (.slice (some ⟨w7.heap.size,0,none⟩) 1 1) (.int .i64 (T2:Int));simp [results,Tryz.results142,go_sem,e0,e1,e2,e3]) rfl ⟨fr4 (Fr.of_below X8.out.2.1) lz9 _ _ _ _,_,rfl,(X8.out.2.2.2.fr (S:=fun k=>k=w.heap.size) (iA _ _ _ _) (fun k hk e=>aN X8.out.2.2.2 X8.out.2.2.1 (by decide) (by rw [hk,show k=_ from e]))),X8.out.1.fr (iA _ _ _ _) (by intro q;have:b=w.heap.size:=q;omega)⟩
theorem xR{w:World}{b:Nat}{s:ByteArray}{m:Md}{p:Nat}{v:Value}(h:SX w b s m p v 0 0)(hs:s.size<=2000)(o k:Nat)(hsee:aJ s k [91,61]=true)(t0:Nat)(c:Int)(n:Nat)(hf:fnd s [61,93] (k+3)=some t0)(hun:un m (s.extract (k+2) t0) 0=(c,n))(hcn:c < 0\/n≠t0 - (k+2)) :
  Calls Tryz.prog 142 #[.pointer (some ⟨b,0,none⟩),.int .i64 (k:Int),.int .i64 (o:Int)] w (ItIs w b s m p v (.error (35,k))):=by
 have hsl:=bE hsee (by simp)
 simp only [List.length_cons,List.length_nil] at hsl
 have hsg:=gH hsee
 obtain⟨K1,hK1⟩:∃ K1,K1=k+1:=⟨_,rfl⟩
 obtain⟨K2,hK2⟩:∃ K2,K2=k+2:=⟨_,rfl⟩
 obtain⟨K3,hK3⟩:∃ K3,K3=k+3:=⟨_,rfl⟩
 rw [<- hK1,<- hK2] at hsg
 rw [<- hK3] at hf
 have w1:IntKind.wrap .i64 ((k:Int)+1)=(K1:Int):=by rw [wrap_small _ (by omega) (by omega)];omega
 have w2:IntKind.wrap .i64 ((k:Int)+2)=(K2:Int):=by rw [wrap_small _ (by omega) (by omega)];omega
 have w3:IntKind.wrap .i64 ((K2:Int)+1)=(K2:Int)+1:=by rw [wrap_small _ (by omega) (by omega)]
 have i1:(0:Int)<=(K1:Int):=by omega
 have i2:(K1:Int)<=(K2:Int):=by omega
 have i3:(K2:Int)<=(s.size:Int):=by omega
 have W1:Below w.heap.size w (w.alloc itZ):=bz9
 have lb:=h.lt
 have c0:=(h.kept W1).c0
 have HF:Hid (∀ W,SX W b s m p v 0 0->Calls Tryz.prog 156 #[.pointer (some ⟨b,0,none⟩),.int .i64 ((K2:Int)+1),.string (⟨#[61]⟩ ++ ⟨#[93]⟩)] W fun e w'=>e=.returned (.int .i64 (t0:Int))/\Below W.heap.size W w'):=fun W hW=>by
  have:=gJ hW hs K3 (by omega) ⟨#[61,93]⟩ rfl
  rw [show fnd s (ByteArray.mk #[61,93]).data.toList K3=some t0 from hf,show (K3:Int)=((K2:Int)+1) by omega] at this
  exact this
 obtain⟨T2,hT2⟩:∃ T2,T2=t0+2:=⟨_,rfl⟩
 have ht:=eG hf
 have ht2:=bE ht.2.1 (by simp)
 simp only [List.length_cons,List.length_nil] at ht2
 have i4:(K2:Int)<=(t0:Int):=by omega
 have i5:(t0:Int)<=(s.size:Int):=by omega
 have i6:(0:Int)<=(K2:Int):=by omega
 have i7:¬ (t0:Int) < 0:=by omega
 have w4:IntKind.wrap .i64 ((t0:Int)+2)=(T2:Int):=by rw [wrap_small _ (by omega) (by omega)];omega
 obtain⟨TT,hTT⟩:∃ TT,TT=s.extract K2 t0:=⟨_,rfl⟩
 have hTs:TT.size=t0 - K2:=by rw [hTT,ByteArray.size_extract];omega
 have HU:Hid (∀ W,Calls Tryz.prog 93 #[.string TT,.int .i64 0,.bool m.c] W fun e w'=>e=.returned (.tuple #[.int .i64 c,.int .i64 (n:Int)])/\Below W.heap.size W w'):=fun W=>by
  have:=dB TT 0 m W (by omega) (by omega)
  rw [hTT,hK2,hun] at this
  rw [hTT,hK2]
  exact this
 rw [<- hK2] at hcn
 have j2:c < 0\/(¬ c < 0/\((n:Int) != (TT.size:Int))=true):=by
  by_cases hc0:c < 0
  ·exact .inl hc0
  ·exact .inr ⟨hc0,bne_iff_ne.2 (by omega)⟩
 have hTT':=hTT.symm
 have H:Hid (SX w b s m p v 0 0/\Below w.heap.size w (w.alloc itZ)):=⟨h,W1⟩
 clear h W1 hf hsee hK1 hsl
 clear hK2 hK3 hT2 hun hcn ht ht2 hTT hTs
 rcases j2 with j2 | ⟨j1,j2⟩
 ·skip
  go_enter Tryz.func142,Tryz.ntmps142
  go_wp2_with first
   |(go_at_call 156;(with_reducible refine(HF.out _ (H.out.1.kept H.out.2)).mono ?_);rintro e w5 ⟨rfl,h5⟩;have X5:Hid (SX w5 b s m p v 0 0/\Below w.heap.size w w5/\IZ w5 w.heap.size):=⟨(H.out.1.kept H.out.2).kept h5,aE H.out.2 h5 lz9,(IZ.new w).fr (Fr.of_below h5) (S:=fun _=>False) (fun q=>q)⟩;have q0:=X5.out.1.c0;have q1:=X5.out.1.c1;have ql:=X5.out.1.lt;clear h5)
   |(go_at_call 93;(with_reducible refine(HU.out _).mono ?_);rintro e w7 ⟨rfl,g7⟩;have X7:Hid (SX w7 b s m p v 0 0/\Below w.heap.size w w7/\IZ w7 w.heap.size):=⟨X5.out.1.kept g7,aE X5.out.2.1 g7 lz9,X5.out.2.2.fr (S:=fun _=>False) (Fr.of_below g7) (fun q=>q)⟩;have r1:=X7.out.1.lt;clear g7)
   |(go_at_call 97;refine(dR X7.out.1 35 k).mono ?_;rintro e w6 ⟨rfl,h6,g6⟩;have X6:Hid (SX w6 b s m p v 35 k/\Fr (At b) w w6/\IZ w6 w.heap.size):=⟨h6,(Fr.of_below X7.out.2.1).trans g6,X7.out.2.2.fr g6 (by intro q;have:w.heap.size=b:=q;omega)⟩;have r0:=X6.out.1.c0;have rl:=X6.out.1.lt; have X8:Hid (SX (w6.alloc (.cells #[.int .i64 c,.int .i64 c] 99)) b s m p v 35 k/\Fr (At b) w (w6.alloc (.cells #[.int .i64 c,.int .i64 c] 99))/\IZ (w6.alloc (.cells #[.int .i64 c,.int .i64 c] 99)) w.heap.size):=⟨X6.out.1.kept (bz9),X6.out.2.1.alloc _,X6.out.2.2.fr (S:=fun _=>False) (Fr.of_below (bz9)) (fun q=>q)⟩;obtain⟨z0,z1,z2,z3,y0,y1,y2,y3⟩:=X8.out.2.2.all;clear h6 g6)
  refine bodyPost_ret (v:=.agg #[.bool false,.int .i64 c,.slice (some ⟨w6.heap.size,0,none⟩) 1 1,.int .i64 (T2:Int)]) (by obtain⟨e0,e1,e2,e3⟩:=bO X8.out.2.2 (.bool false) (.int .i64 c) (.slice (some ⟨w6.heap.size,0,none⟩) 1 1) (.int .i64 (T2:Int));simp [results,Tryz.results142,go_sem,e0,e1,e2,e3]) rfl ⟨fr4 (X8.out.2.1) lz9 _ _ _ _,_,_,_,_,_,_,rfl,X8.out.1.fr (iA _ _ _ _) (by intro q;have:b=w.heap.size:=q;omega)⟩
 ·skip
  go_enter Tryz.func142,Tryz.ntmps142
  go_wp2_with first
   |(go_at_call 156;(with_reducible refine(HF.out _ (H.out.1.kept H.out.2)).mono ?_);rintro e w5 ⟨rfl,h5⟩;have X5:Hid (SX w5 b s m p v 0 0/\Below w.heap.size w w5/\IZ w5 w.heap.size):=⟨(H.out.1.kept H.out.2).kept h5,aE H.out.2 h5 lz9,(IZ.new w).fr (Fr.of_below h5) (S:=fun _=>False) (fun q=>q)⟩;have q0:=X5.out.1.c0;have q1:=X5.out.1.c1;have ql:=X5.out.1.lt;clear h5)
   |(go_at_call 93;(with_reducible refine(HU.out _).mono ?_);rintro e w7 ⟨rfl,g7⟩;have X7:Hid (SX w7 b s m p v 0 0/\Below w.heap.size w w7/\IZ w7 w.heap.size):=⟨X5.out.1.kept g7,aE X5.out.2.1 g7 lz9,X5.out.2.2.fr (S:=fun _=>False) (Fr.of_below g7) (fun q=>q)⟩;have r1:=X7.out.1.lt;clear g7)
   |(go_at_call 97;refine(dR X7.out.1 35 k).mono ?_;rintro e w6 ⟨rfl,h6,g6⟩;have X6:Hid (SX w6 b s m p v 35 k/\Fr (At b) w w6/\IZ w6 w.heap.size):=⟨h6,(Fr.of_below X7.out.2.1).trans g6,X7.out.2.2.fr g6 (by intro q;have:w.heap.size=b:=q;omega)⟩;have r0:=X6.out.1.c0;have rl:=X6.out.1.lt; have X8:Hid (SX (w6.alloc (.cells #[.int .i64 c,.int .i64 c] 99)) b s m p v 35 k/\Fr (At b) w (w6.alloc (.cells #[.int .i64 c,.int .i64 c] 99))/\IZ (w6.alloc (.cells #[.int .i64 c,.int .i64 c] 99)) w.heap.size):=⟨X6.out.1.kept (bz9),X6.out.2.1.alloc _,X6.out.2.2.fr (S:=fun _=>False) (Fr.of_below (bz9)) (fun q=>q)⟩;obtain⟨z0,z1,z2,z3,y0,y1,y2,y3⟩:=X8.out.2.2.all;clear h6 g6)
  refine bodyPost_ret (v:=.agg #[.bool false,.int .i64 c,.slice (some ⟨w6.heap.size,0,none⟩) 1 1,.int .i64 (T2:Int)]) (by obtain⟨e0,e1,e2,e3⟩:=bO X8.out.2.2 (.bool false) (.int .i64 c) (.slice (some ⟨w6.heap.size,0,none⟩) 1 1) (.int .i64 (T2:Int));simp [results,Tryz.results142,go_sem,e0,e1,e2,e3]) rfl ⟨fr4 (X8.out.2.1) lz9 _ _ _ _,_,_,_,_,_,_,rfl,X8.out.1.fr (iA _ _ _ _) (by intro q;have:b=w.heap.size:=q;omega)⟩
theorem aE4{w:World}{b:Nat}{s:ByteArray}{m:Md}{p:Nat}{v:Value}(h:SX w b s m p v 0 0)(hs:s.size<=2000)(o k:Nat)(hsee:aJ s k [91,46]=true)(t0:Nat)(c:Int)(n:Nat)(hf:fnd s [46,93] (k+3)=some t0)(hun:un m (s.extract (k+2) t0) 0=(c,n))(hcn:¬ c < 0/\n=t0 - (k+2)) :
  Calls Tryz.prog 142 #[.pointer (some ⟨b,0,none⟩),.int .i64 (k:Int),.int .i64 (o:Int)] w (ItIs w b s m p v (.ok (true,c,[(c,c)],t0+2))):=by
 have hsl:=bE hsee (by simp)
 simp only [List.length_cons,List.length_nil] at hsl
 have hsg:=gH hsee
 obtain⟨K1,hK1⟩:∃ K1,K1=k+1:=⟨_,rfl⟩
 obtain⟨K2,hK2⟩:∃ K2,K2=k+2:=⟨_,rfl⟩
 obtain⟨K3,hK3⟩:∃ K3,K3=k+3:=⟨_,rfl⟩
 rw [<- hK1,<- hK2] at hsg
 rw [<- hK3] at hf
 have w1:IntKind.wrap .i64 ((k:Int)+1)=(K1:Int):=by rw [wrap_small _ (by omega) (by omega)];omega
 have w2:IntKind.wrap .i64 ((k:Int)+2)=(K2:Int):=by rw [wrap_small _ (by omega) (by omega)];omega
 have w3:IntKind.wrap .i64 ((K2:Int)+1)=(K2:Int)+1:=by rw [wrap_small _ (by omega) (by omega)]
 have i1:(0:Int)<=(K1:Int):=by omega
 have i2:(K1:Int)<=(K2:Int):=by omega
 have i3:(K2:Int)<=(s.size:Int):=by omega
 have W1:Below w.heap.size w (w.alloc itZ):=bz9
 have lb:=h.lt
 have c0:=(h.kept W1).c0
 have HF:Hid (∀ W,SX W b s m p v 0 0->Calls Tryz.prog 156 #[.pointer (some ⟨b,0,none⟩),.int .i64 ((K2:Int)+1),.string (⟨#[46]⟩ ++ ⟨#[93]⟩)] W fun e w'=>e=.returned (.int .i64 (t0:Int))/\Below W.heap.size W w'):=fun W hW=>by
  have:=gJ hW hs K3 (by omega) ⟨#[46,93]⟩ rfl
  rw [show fnd s (ByteArray.mk #[46,93]).data.toList K3=some t0 from hf,show (K3:Int)=((K2:Int)+1) by omega] at this
  exact this
 obtain⟨T2,hT2⟩:∃ T2,T2=t0+2:=⟨_,rfl⟩
 rw [<- hT2]
 have ht:=eG hf
 have ht2:=bE ht.2.1 (by simp)
 simp only [List.length_cons,List.length_nil] at ht2
 have i4:(K2:Int)<=(t0:Int):=by omega
 have i5:(t0:Int)<=(s.size:Int):=by omega
 have i6:(0:Int)<=(K2:Int):=by omega
 have i7:¬ (t0:Int) < 0:=by omega
 have w4:IntKind.wrap .i64 ((t0:Int)+2)=(T2:Int):=by rw [wrap_small _ (by omega) (by omega)];omega
 obtain⟨TT,hTT⟩:∃ TT,TT=s.extract K2 t0:=⟨_,rfl⟩
 have hTs:TT.size=t0 - K2:=by rw [hTT,ByteArray.size_extract];omega
 have HU:Hid (∀ W,Calls Tryz.prog 93 #[.string TT,.int .i64 0,.bool m.c] W fun e w'=>e=.returned (.tuple #[.int .i64 c,.int .i64 (n:Int)])/\Below W.heap.size W w'):=fun W=>by
  have:=dB TT 0 m W (by omega) (by omega)
  rw [hTT,hK2,hun] at this
  rw [hTT,hK2]
  exact this
 rw [<- hK2] at hcn
 have j0:¬ c < 0:=by omega
 have j1:n=TT.size:=by omega
 have j2:((n:Int) != (TT.size:Int))=false:=by rw [j1];simp
 have hTT':=hTT.symm
 have H:Hid (SX w b s m p v 0 0/\Below w.heap.size w (w.alloc itZ)):=⟨h,W1⟩
 clear h W1 hf hsee hK1 hsl
 clear hK2 hK3 hT2 hun hcn ht ht2 hTT hTs j1
 go_enter Tryz.func142,Tryz.ntmps142
 go_wp2_with first
  |(go_at_call 156;(with_reducible refine(HF.out _ (H.out.1.kept H.out.2)).mono ?_);rintro e w5 ⟨rfl,h5⟩;have X5:Hid (SX w5 b s m p v 0 0/\Below w.heap.size w w5/\IZ w5 w.heap.size):=⟨(H.out.1.kept H.out.2).kept h5,aE H.out.2 h5 lz9,(IZ.new w).fr (Fr.of_below h5) (S:=fun _=>False) (fun q=>q)⟩;have q0:=X5.out.1.c0;have q1:=X5.out.1.c1;have ql:=X5.out.1.lt;clear h5)
  |(go_at_call 93;(with_reducible refine(HU.out _).mono ?_);rintro e w7 ⟨rfl,g7⟩;have X7:Hid (SX w7 b s m p v 0 0/\Below w.heap.size w w7/\IZ w7 w.heap.size):=⟨X5.out.1.kept g7,aE X5.out.2.1 g7 lz9,X5.out.2.2.fr (S:=fun _=>False) (Fr.of_below g7) (fun q=>q)⟩;have r1:=X7.out.1.lt;have X8:Hid (SX (w7.alloc (.cells #[.int .i64 c,.int .i64 c] 99)) b s m p v 0 0/\Below w.heap.size w (w7.alloc (.cells #[.int .i64 c,.int .i64 c] 99))/\IZ (w7.alloc (.cells #[.int .i64 c,.int .i64 c] 99)) w.heap.size/\RR w.heap.size (w7.alloc (.cells #[.int .i64 c,.int .i64 c] 99)) (.slice (some ⟨w7.heap.size,0,none⟩) 1 1) [(c,c)]):=⟨X7.out.1.kept (bz9),X7.out.2.1.alloc X7.out.2.1.size _,X7.out.2.2.fr (S:=fun _=>False) (Fr.of_below (bz9)) (fun q=>q),RR.mono (World.ownsRow_lit w7 #[.int .i64 c,.int .i64 c] 1 lz9 (by unfold maxLen;omega) rfl) X7.out.2.1.size⟩;obtain⟨z0,z1,z2,z3,y0,y1,y2,y3⟩:=X8.out.2.2.1.all;clear g7)
 refine bodyPost_ret (v:=.agg #[.bool true,.int .i64 c,.slice (some ⟨w7.heap.size,0,none⟩) 1 1,.int .i64 (T2:Int)]) (by obtain⟨e0,e1,e2,e3⟩:=bO X8.out.2.2.1 (.bool true) (.int .i64 c) (.slice (some ⟨w7.heap.size,0,none⟩) 1 1) (.int .i64 (T2:Int));simp [results,Tryz.results142,go_sem,e0,e1,e2,e3]) rfl ⟨fr4 (Fr.of_below X8.out.2.1) lz9 _ _ _ _,_,rfl,(X8.out.2.2.2.fr (S:=fun k=>k=w.heap.size) (iA _ _ _ _) (fun k hk e=>aN X8.out.2.2.2 X8.out.2.2.1 (by decide) (by rw [hk,show k=_ from e]))),X8.out.1.fr (iA _ _ _ _) (by intro q;have:b=w.heap.size:=q;omega)⟩
theorem xS{w:World}{b:Nat}{s:ByteArray}{m:Md}{p:Nat}{v:Value}(h:SX w b s m p v 0 0)(hs:s.size<=2000)(o k:Nat)(hsee:aJ s k [91,46]=true)(t0:Nat)(c:Int)(n:Nat)(hf:fnd s [46,93] (k+3)=some t0)(hun:un m (s.extract (k+2) t0) 0=(c,n))(hcn:c < 0\/n≠t0 - (k+2)) :
  Calls Tryz.prog 142 #[.pointer (some ⟨b,0,none⟩),.int .i64 (k:Int),.int .i64 (o:Int)] w (ItIs w b s m p v (.error (35,k))):=by
 have hsl:=bE hsee (by simp)
 simp only [List.length_cons,List.length_nil] at hsl
 have hsg:=gH hsee
 obtain⟨K1,hK1⟩:∃ K1,K1=k+1:=⟨_,rfl⟩
 obtain⟨K2,hK2⟩:∃ K2,K2=k+2:=⟨_,rfl⟩
 obtain⟨K3,hK3⟩:∃ K3,K3=k+3:=⟨_,rfl⟩
 rw [<- hK1,<- hK2] at hsg
 rw [<- hK3] at hf
 have w1:IntKind.wrap .i64 ((k:Int)+1)=(K1:Int):=by rw [wrap_small _ (by omega) (by omega)];omega
 have w2:IntKind.wrap .i64 ((k:Int)+2)=(K2:Int):=by rw [wrap_small _ (by omega) (by omega)];omega
 have w3:IntKind.wrap .i64 ((K2:Int)+1)=(K2:Int)+1:=by rw [wrap_small _ (by omega) (by omega)]
 have i1:(0:Int)<=(K1:Int):=by omega
 have i2:(K1:Int)<=(K2:Int):=by omega
 have i3:(K2:Int)<=(s.size:Int):=by omega
 have W1:Below w.heap.size w (w.alloc itZ):=bz9
 have lb:=h.lt
 have c0:=(h.kept W1).c0
 have HF:Hid (∀ W,SX W b s m p v 0 0->Calls Tryz.prog 156 #[.pointer (some ⟨b,0,none⟩),.int .i64 ((K2:Int)+1),.string (⟨#[46]⟩ ++ ⟨#[93]⟩)] W fun e w'=>e=.returned (.int .i64 (t0:Int))/\Below W.heap.size W w'):=fun W hW=>by
  have:=gJ hW hs K3 (by omega) ⟨#[46,93]⟩ rfl
  rw [show fnd s (ByteArray.mk #[46,93]).data.toList K3=some t0 from hf,show (K3:Int)=((K2:Int)+1) by omega] at this
  exact this
 obtain⟨T2,hT2⟩:∃ T2,T2=t0+2:=⟨_,rfl⟩
 have ht:=eG hf
 have ht2:=bE ht.2.1 (by simp)
 simp only [List.length_cons,List.length_nil] at ht2
 have i4:(K2:Int)<=(t0:Int):=by omega
 have i5:(t0:Int)<=(s.size:Int):=by omega
 have i6:(0:Int)<=(K2:Int):=by omega
 have i7:¬ (t0:Int) < 0:=by omega
 have w4:IntKind.wrap .i64 ((t0:Int)+2)=(T2:Int):=by rw [wrap_small _ (by omega) (by omega)];omega
 obtain⟨TT,hTT⟩:∃ TT,TT=s.extract K2 t0:=⟨_,rfl⟩
 have hTs:TT.size=t0 - K2:=by rw [hTT,ByteArray.size_extract];omega
 have HU:Hid (∀ W,Calls Tryz.prog 93 #[.string TT,.int .i64 0,.bool m.c] W fun e w'=>e=.returned (.tuple #[.int .i64 c,.int .i64 (n:Int)])/\Below W.heap.size W w'):=fun W=>by
  have:=dB TT 0 m W (by omega) (by omega)
  rw [hTT,hK2,hun] at this
  rw [hTT,hK2]
  exact this
 rw [<- hK2] at hcn
 have j2:c < 0\/(¬ c < 0/\((n:Int) != (TT.size:Int))=true):=by
  by_cases hc0:c < 0
  ·exact .inl hc0
  ·exact .inr ⟨hc0,bne_iff_ne.2 (by omega)⟩
 have hTT':=hTT.symm
 have H:Hid (SX w b s m p v 0 0/\Below w.heap.size w (w.alloc itZ)):=⟨h,W1⟩
 clear h W1 hf hsee hK1 hsl
 clear hK2 hK3 hT2 hun hcn ht ht2 hTT hTs
 rcases j2 with j2 | ⟨j1,j2⟩
 ·skip
  go_enter Tryz.func142,Tryz.ntmps142
  go_wp2_with first
   |(go_at_call 156;(with_reducible refine(HF.out _ (H.out.1.kept H.out.2)).mono ?_);rintro e w5 ⟨rfl,h5⟩;have X5:Hid (SX w5 b s m p v 0 0/\Below w.heap.size w w5/\IZ w5 w.heap.size):=⟨(H.out.1.kept H.out.2).kept h5,aE H.out.2 h5 lz9,(IZ.new w).fr (Fr.of_below h5) (S:=fun _=>False) (fun q=>q)⟩;have q0:=X5.out.1.c0;have q1:=X5.out.1.c1;have ql:=X5.out.1.lt;clear h5)
   |(go_at_call 93;(with_reducible refine(HU.out _).mono ?_);rintro e w7 ⟨rfl,g7⟩;have X7:Hid (SX w7 b s m p v 0 0/\Below w.heap.size w w7/\IZ w7 w.heap.size):=⟨X5.out.1.kept g7,aE X5.out.2.1 g7 lz9,X5.out.2.2.fr (S:=fun _=>False) (Fr.of_below g7) (fun q=>q)⟩;have r1:=X7.out.1.lt;clear g7)
   |(go_at_call 97;refine(dR X7.out.1 35 k).mono ?_;rintro e w6 ⟨rfl,h6,g6⟩;have X6:Hid (SX w6 b s m p v 35 k/\Fr (At b) w w6/\IZ w6 w.heap.size):=⟨h6,(Fr.of_below X7.out.2.1).trans g6,X7.out.2.2.fr g6 (by intro q;have:w.heap.size=b:=q;omega)⟩;have r0:=X6.out.1.c0;have rl:=X6.out.1.lt; have X8:Hid (SX (w6.alloc (.cells #[.int .i64 c,.int .i64 c] 99)) b s m p v 35 k/\Fr (At b) w (w6.alloc (.cells #[.int .i64 c,.int .i64 c] 99))/\IZ (w6.alloc (.cells #[.int .i64 c,.int .i64 c] 99)) w.heap.size):=⟨X6.out.1.kept (bz9),X6.out.2.1.alloc _,X6.out.2.2.fr (S:=fun _=>False) (Fr.of_below (bz9)) (fun q=>q)⟩;obtain⟨z0,z1,z2,z3,y0,y1,y2,y3⟩:=X8.out.2.2.all;clear h6 g6)
  refine bodyPost_ret (v:=.agg #[.bool true,.int .i64 c,.slice (some ⟨w6.heap.size,0,none⟩) 1 1,.int .i64 (T2:Int)]) (by obtain⟨e0,e1,e2,e3⟩:=bO X8.out.2.2 (.bool true) (.int .i64 c) (.slice (some ⟨w6.heap.size,0,none⟩) 1 1) (.int .i64 (T2:Int));simp [results,Tryz.results142,go_sem,e0,e1,e2,e3]) rfl ⟨fr4 (X8.out.2.1) lz9 _ _ _ _,_,_,_,_,_,_,rfl,X8.out.1.fr (iA _ _ _ _) (by intro q;have:b=w.heap.size:=q;omega)⟩
 ·skip
  go_enter Tryz.func142,Tryz.ntmps142
  go_wp2_with first
   |(go_at_call 156;(with_reducible refine(HF.out _ (H.out.1.kept H.out.2)).mono ?_);rintro e w5 ⟨rfl,h5⟩;have X5:Hid (SX w5 b s m p v 0 0/\Below w.heap.size w w5/\IZ w5 w.heap.size):=⟨(H.out.1.kept H.out.2).kept h5,aE H.out.2 h5 lz9,(IZ.new w).fr (Fr.of_below h5) (S:=fun _=>False) (fun q=>q)⟩;have q0:=X5.out.1.c0;have q1:=X5.out.1.c1;have ql:=X5.out.1.lt;clear h5)
   |(go_at_call 93;(with_reducible refine(HU.out _).mono ?_);rintro e w7 ⟨rfl,g7⟩;have X7:Hid (SX w7 b s m p v 0 0/\Below w.heap.size w w7/\IZ w7 w.heap.size):=⟨X5.out.1.kept g7,aE X5.out.2.1 g7 lz9,X5.out.2.2.fr (S:=fun _=>False) (Fr.of_below g7) (fun q=>q)⟩;have r1:=X7.out.1.lt;clear g7)
   |(go_at_call 97;refine(dR X7.out.1 35 k).mono ?_;rintro e w6 ⟨rfl,h6,g6⟩;have X6:Hid (SX w6 b s m p v 35 k/\Fr (At b) w w6/\IZ w6 w.heap.size):=⟨h6,(Fr.of_below X7.out.2.1).trans g6,X7.out.2.2.fr g6 (by intro q;have:w.heap.size=b:=q;omega)⟩;have r0:=X6.out.1.c0;have rl:=X6.out.1.lt; have X8:Hid (SX (w6.alloc (.cells #[.int .i64 c,.int .i64 c] 99)) b s m p v 35 k/\Fr (At b) w (w6.alloc (.cells #[.int .i64 c,.int .i64 c] 99))/\IZ (w6.alloc (.cells #[.int .i64 c,.int .i64 c] 99)) w.heap.size):=⟨X6.out.1.kept (bz9),X6.out.2.1.alloc _,X6.out.2.2.fr (S:=fun _=>False) (Fr.of_below (bz9)) (fun q=>q)⟩;obtain⟨z0,z1,z2,z3,y0,y1,y2,y3⟩:=X8.out.2.2.all;clear h6 g6)
  refine bodyPost_ret (v:=.agg #[.bool true,.int .i64 c,.slice (some ⟨w6.heap.size,0,none⟩) 1 1,.int .i64 (T2:Int)]) (by obtain⟨e0,e1,e2,e3⟩:=bO X8.out.2.2 (.bool true) (.int .i64 c) (.slice (some ⟨w6.heap.size,0,none⟩) 1 1) (.int .i64 (T2:Int));simp [results,Tryz.results142,go_sem,e0,e1,e2,e3]) rfl ⟨fr4 (X8.out.2.1) lz9 _ _ _ _,_,_,_,_,_,_,rfl,X8.out.1.fr (iA _ _ _ _) (by intro q;have:b=w.heap.size:=q;omega)⟩
end Go.Proofs.YtpfdapnfkghgkaaGreatDoor
