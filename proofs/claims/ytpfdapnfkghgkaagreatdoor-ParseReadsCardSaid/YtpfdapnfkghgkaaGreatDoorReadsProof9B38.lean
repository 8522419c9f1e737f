/-
  Parts of the proof.
-/
import Derived.Test.YtpfdapnfkghgkaaGreatDoorReadsProof9B37
import Derived.Test.YtpfdapnfkghgkaaGreatDoorReadsProof9B23
set_option maxRecDepth 100000
set_option maxHeartbeats 8000000
namespace Go.Proofs.YtpfdapnfkghgkaaGreatDoor
open Go Go.RowKit
attribute [local go_sem] aR
def Puts(base:Nat)(w:World)(b:Nat)(s:ByteArray)(m:Md)(p:Nat)(D:List Dt)(r:Rs (Tk × Nat))(e:Ending)(w':World):Prop:=
 e=.returned (.tuple #[])/\Below base w w'/\match r with
 | .error (c,a)=>∃ v',SX w' b s m p v' c a
 | .ok (t,q)=>∃ v' rv C,SX w' b s m q v' 0 0/\TL base w' v' (D ++ [((t,p,q),rv,C)])
structure Room(base:Nat)(w:World)(b:Nat)(s:ByteArray)(m:Md)(p:Nat)(v:Value)(D:List Dt):Prop where
 sx:SX w b s m p v 0 0
 tl:TL base w v D
 low:base<=b
 few:D.length<=2000
 len:s.size<=2000
 at_:p < s.size
section
variable {base:Nat} {w w':World} {b:Nat} {s:ByteArray} {m:Md} {p:Nat} {v:Value} {D:List Dt}
theorem Room.kept(h:Room base w b s m p v D)(hb:Below w.heap.size w w'):Room base w' b s m p v D:=⟨h.sx.kept hb,h.tl.kept hb,h.low,h.few,h.len,h.at_⟩
theorem Room.size(h:Room base w b s m p v D):base<=w.heap.size:=Nat.le_trans h.low (Nat.le_of_lt h.sx.lt)
theorem Room.no(h:Room base w b s m p v D)(x y:Nat):Calls Tryz.prog 97 #[.pointer (some ⟨b,0,none⟩),.int .i64 (x:Int),.int .i64 (y:Int)] w fun r w'=>r=.returned (.tuple #[])/\SX w' b s m p v x y/\Below base w w':=
 (dR h.sx x y).mono fun r w' k=>⟨k.1,k.2.1,k.2.2.below h.size fun j hj=>by have:=h.low;have:j=b:=hj;omega⟩
theorem Room.put(h:Room base w b s m p v D){t:Tk}{rv:Value}{C:List (Int × Int)}(hR:RR base w rv C)(hI:IsC C t.q)(hap:∀ a∈D,∀ k,a.2.1.ownBlock=some k->rv.ownBlock≠some k){n q:Nat}(hq:q=p+n)(hn:n<=2000) :
  Calls Tryz.prog 100 #[.pointer (some ⟨b,0,none⟩),tkV t 0 0 rv,.int .i64 (n:Int)] w (Puts base w b s m p D (.ok (t,q))):=
 (bE0 h.sx h.tl hR hI hap h.low hq (by have:=h.len;have:=h.at_;omega) h.few).mono fun _ _ k=>⟨k.1,k.2.choose_spec.2.2,_,_,_,k.2.choose_spec.1,k.2.choose_spec.2.1⟩
theorem Room.put0(h:Room base w b s m p v D){t:Tk}(ht:t.q=fun _=>False){n q:Nat}(hq:q=p+n)(hn:n<=2000) :
  Calls Tryz.prog 100 #[.pointer (some ⟨b,0,none⟩),tkV t 0 0 (.slice none 0 0),.int .i64 (n:Int)] w (Puts base w b s m p D (.ok (t,q))):=
 h.put (RR.nil _ _) (by rw [ht];exact wD) (fun _ _ _ _ q=>by cases q) hq hn
theorem Puts.from{r:Rs (Tk × Nat)}{e:Ending}{w1:World}(h:Puts base w1 b s m p D r e w')(hb:Below base w w1):Puts base w b s m p D r e w':=⟨h.1,hb.trans h.2.1,h.2.2⟩
end
theorem uP{base:Nat}{w:World}{b:Nat}{s:ByteArray}{m:Md}{p:Nat}{v:Value}{D:List Dt}(h:Room base w b s m p v D)(h2:p+2<=s.size) :
  Calls Tryz.prog 121 #[.pointer (some ⟨b,0,none⟩)] w (Puts base w b s m p D (dY s p)):=by
 have hs:=h.len
 have c3:=h.sx.c3
 have lb:=h.sx.lt
 have bs:=h.size
 have hd:=lC s (p+2) h2
 obtain⟨P2,hP2⟩:∃ P2,P2=p+2:=⟨_,rfl⟩
 have hw1:IntKind.wrap .i64 ((p:Int)+2)=(P2:Int):=by rw [wrap_small _ (by omega) (by omega)];omega
 obtain⟨N,hN⟩:∃ N,N=fE (bQ s (p+2)):=⟨_,rfl⟩
 obtain⟨Q,hQ⟩:∃ Q,Q=ivQ s p:=⟨_,rfl⟩
 have hN2:N<=256:=by rw [hN];exact kR _
 have hQ2:Q<=s.size:=by rw [hQ];unfold ivQ;omega
 have hQ3:p+2<=Q:=by rw [hQ];unfold ivQ;omega
 have HN1:∀ W,SX W b s m p v 0 0->Calls Tryz.prog 141 #[.pointer (some ⟨b,0,none⟩),.int .i64 (P2:Int)] W fun e w'=>e=.returned (.tuple #[.int .i64 (N:Int),.int .i64 (Q:Int),.bool (decide (0 < (bQ s (p+2)).length))])/\Below W.heap.size W w':=fun W hW=>by
  have:=rF hW (p+2) h2 hs
  rw [<- hN] at this
  rw [hQ,hP2]
  exact this
 have H:Hid (Room base w b s m p v D):=h
 clear h hP2
 by_cases hlen:(bQ s (p+2)).length=0
 ·have hr:dY s p=.error (36,p):=by unfold dY;rw [if_pos (.inl hlen)]
  rw [hr]
  have hN1:Hid (∀ W,SX W b s m p v 0 0->Calls Tryz.prog 141 #[.pointer (some ⟨b,0,none⟩),.int .i64 (P2:Int)] W fun e w'=>e=.returned (.tuple #[.int .i64 (N:Int),.int .i64 (Q:Int),.bool false])/\Below W.heap.size W w'):=fun W hW=>by
   have:=HN1 W hW
   rw [hlen] at this
   exact this
  clear HN1 hr hN hQ
  go_enter Tryz.func121,Tryz.ntmps121
  go_wp2_with first
   |(go_at_call 141;(with_reducible refine(hN1.out _ H.out.sx).mono ?_);rintro e w5 ⟨rfl,h5⟩;have X5:Hid (Room base w5 b s m p v D/\Below base w w5):=⟨H.out.kept h5,h5.mono bs⟩;have k3:=X5.out.1.sx.c3;have kl:=X5.out.1.sx.lt;clear h5)
   |(go_at_call 97;refine(X5.out.1.no 36 p).mono ?_;rintro e w9 ⟨rfl,h9,g9⟩;have X9:Hid (SX w9 b s m p v 36 p/\Below base w w9):=⟨h9,X5.out.2.trans g9⟩;clear h9 g9)
  go_end0
  exact⟨rfl,X9.out.2,v,X9.out.1⟩
 have hN1:Hid (∀ W,SX W b s m p v 0 0->Calls Tryz.prog 141 #[.pointer (some ⟨b,0,none⟩),.int .i64 (P2:Int)] W fun e w'=>e=.returned (.tuple #[.int .i64 (N:Int),.int .i64 (Q:Int),.bool true])/\Below W.heap.size W w'):=fun W hW=>by
  have:=HN1 W hW
  rw [decide_eq_true (by omega)] at this
  exact this
 clear HN1
 have HI:∀ (k:Nat) (W:World),k<=4000->SX W b s m p v 0 0->Calls Tryz.prog 96 #[.pointer (some ⟨b,0,none⟩),.int .i64 (k:Int),.string ⟨#[92,125]⟩] W fun e w'=>e=.returned (.bool (aJ s k [92,125]))/\Below W.heap.size W w':=fun k W hk hW=>rI hW hs k (by omega) ⟨#[92,125]⟩ (by decide) (by decide)
 have HC:∀ W,SX W b s m p v 0 0->Calls Tryz.prog 96 #[.pointer (some ⟨b,0,none⟩),.int .i64 (Q:Int),.string ⟨#[44]⟩] W fun e w'=>e=.returned (.bool (aJ s Q [44]))/\Below W.heap.size W w':=fun W hW=>rI hW hs Q (by omega) ⟨#[44]⟩ (by decide) (by decide)
 obtain⟨Q1,hQ1⟩:∃ Q1,Q1=Q+1:=⟨_,rfl⟩
 have hw4:IntKind.wrap .i64 ((Q:Int)+1)=(Q1:Int):=by rw [wrap_small _ (by omega) (by omega)];omega
 cases hcom:aJ s Q [44] with
 | false=>
  have hC:Hid (∀ W,SX W b s m p v 0 0->Calls Tryz.prog 96 #[.pointer (some ⟨b,0,none⟩),.int .i64 (Q:Int),.string ⟨#[44]⟩] W fun e w'=>e=.returned (.bool false)/\Below W.heap.size W w'):=fun W hW=>by
   have:=HC W hW
   rw [hcom] at this
   exact this
  have hR:Q=ivR s p:=by unfold ivR;rw [<- hQ,hcom];simp
  have hB:ivB s p=(N:Int):=by unfold ivB;rw [<- hQ,hcom,<- hN];simp
  clear HC hcom hQ1
  have hE0:=HI Q
  cases hends:aJ s Q [92,125] with
  | false=>
   have hr:dY s p=.error (36,p):=by unfold dY;rw [if_pos (.inr (by rw [<- hR];exact hends))]
   rw [hr]
   have hE:Hid (∀ W,SX W b s m p v 0 0->Calls Tryz.prog 96 #[.pointer (some ⟨b,0,none⟩),.int .i64 (Q:Int),.string ⟨#[92,125]⟩] W fun e w'=>e=.returned (.bool false)/\Below W.heap.size W w'):=fun W hW=>by
    have:=hE0 W (by omega) hW
    rw [hends] at this
    exact this
   clear hE0 HI hr hR hN hQ hends
   go_enter Tryz.func121,Tryz.ntmps121
   go_wp2_with first
    |(go_at_call 141;(with_reducible refine(hN1.out _ H.out.sx).mono ?_);rintro e w5 ⟨rfl,h5⟩;have X5:Hid (Room base w5 b s m p v D/\Below base w w5):=⟨H.out.kept h5,h5.mono bs⟩;clear h5)
    |(go_at_call 96;(with_reducible refine(hC.out _ X5.out.1.sx).mono ?_);rintro e w6 ⟨rfl,h6⟩;have X6:Hid (Room base w6 b s m p v D/\Below base w w6):=⟨X5.out.1.kept h6,X5.out.2.trans (h6.mono X5.out.1.size)⟩;clear h6)
    |(go_at_call 96;(with_reducible refine(hE.out _ X6.out.1.sx).mono ?_);rintro e w8 ⟨rfl,h8⟩;have X8:Hid (Room base w8 b s m p v D/\Below base w w8):=⟨X6.out.1.kept h8,X6.out.2.trans (h8.mono X6.out.1.size)⟩;have k3:=X8.out.1.sx.c3;have kl:=X8.out.1.sx.lt;clear h8)
    |(go_at_call 97;refine(X8.out.1.no 36 p).mono ?_;rintro e w9 ⟨rfl,h9,g9⟩;have X9:Hid (SX w9 b s m p v 36 p/\Below base w w9):=⟨h9,X8.out.2.trans g9⟩;clear h9 g9)
   go_end0
   exact⟨rfl,X9.out.2,v,X9.out.1⟩
  | true=>
   have hE:Hid (∀ W,SX W b s m p v 0 0->Calls Tryz.prog 96 #[.pointer (some ⟨b,0,none⟩),.int .i64 (Q:Int),.string ⟨#[92,125]⟩] W fun e w'=>e=.returned (.bool true)/\Below W.heap.size W w'):=fun W hW=>by
    have:=hE0 W (by omega) hW
    rw [hends] at this
    exact this
   have hRs:Q+2<=s.size:=bE hends (by simp)
   have hg:¬ ((bQ s (p+2)).length=0\/aJ s (ivR s p) [92,125]=false):=by rw [<- hR,hends];simp [hlen]
   clear hE0 HI hends
   obtain⟨NQ,hNQ⟩:∃ NQ,NQ=Q+2 - p:=⟨_,rfl⟩
   have hw2:IntKind.wrap .i64 ((Q:Int)+2)=(Q:Int)+2:=wrap_small _ (by omega) (by omega)
   have hw3:IntKind.wrap .i64 ((Q:Int)+2 - (p:Int))=(NQ:Int):=by rw [wrap_small _ (by omega) (by omega)];omega
   by_cases hb0:255 < N
   ·have hr:dY s p=.error (37,p):=by unfold dY;rw [if_neg hg,if_pos (by rw [<- hN,hB];omega)]
    rw [hr]
    have j0:(255:Int) < (N:Int):=by omega
    clear hr hR hN hQ hB hg
    go_enter Tryz.func121,Tryz.ntmps121
    go_wp2_with first
     |(go_at_call 141;(with_reducible refine(hN1.out _ H.out.sx).mono ?_);rintro e w5 ⟨rfl,h5⟩;have X5:Hid (Room base w5 b s m p v D/\Below base w w5):=⟨H.out.kept h5,h5.mono bs⟩;clear h5)
     |(go_at_call 96;(with_reducible refine(hC.out _ X5.out.1.sx).mono ?_);rintro e w6 ⟨rfl,h6⟩;have X6:Hid (Room base w6 b s m p v D/\Below base w w6):=⟨X5.out.1.kept h6,X5.out.2.trans (h6.mono X5.out.1.size)⟩;clear h6)
     |(go_at_call 96;(with_reducible refine(hE.out _ X6.out.1.sx).mono ?_);rintro e w8 ⟨rfl,h8⟩;have X8:Hid (Room base w8 b s m p v D/\Below base w w8):=⟨X6.out.1.kept h8,X6.out.2.trans (h8.mono X6.out.1.size)⟩;have k3:=X8.out.1.sx.c3;have kl:=X8.out.1.sx.lt;clear h8)
     |(go_at_call 97;refine(X8.out.1.no 37 p).mono ?_;rintro e w9 ⟨rfl,h9,g9⟩;have X9:Hid (SX w9 b s m p v 37 p/\Below base w w9):=⟨h9,X8.out.2.trans g9⟩;clear h9 g9)
    go_end0
    exact⟨rfl,X9.out.2,v,X9.out.1⟩
   have hr:dY s p=.ok (cQ (N:Int) (N:Int),p+NQ):=by unfold dY;rw [if_neg hg,if_neg (by rw [<- hN,hB];omega),<- hN,hB,<- hR,hNQ];congr 2;omega
   rw [hr]
   have j0:¬ (255:Int) < (N:Int):=by omega
   have j1:((N:Int)==-1)=false:=beq_eq_false_iff_ne.2 (by omega)
   have j2:¬ (N:Int)=-1:=by omega
   clear hr hR hN hQ hB hg
   have hnq:NQ<=2000:=by omega
   clear hNQ
   go_enter Tryz.func121,Tryz.ntmps121
   go_wp2_with first
    |(go_at_call 141;(with_reducible refine(hN1.out _ H.out.sx).mono ?_);rintro e w5 ⟨rfl,h5⟩;have X5:Hid (Room base w5 b s m p v D/\Below base w w5):=⟨H.out.kept h5,h5.mono bs⟩;clear h5)
    |(go_at_call 96;(with_reducible refine(hC.out _ X5.out.1.sx).mono ?_);rintro e w6 ⟨rfl,h6⟩;have X6:Hid (Room base w6 b s m p v D/\Below base w w6):=⟨X5.out.1.kept h6,X5.out.2.trans (h6.mono X5.out.1.size)⟩;clear h6)
    |(go_at_call 96;(with_reducible refine(hE.out _ X6.out.1.sx).mono ?_);rintro e w8 ⟨rfl,h8⟩;have X8:Hid (Room base w8 b s m p v D/\Below base w w8):=⟨X6.out.1.kept h8,X6.out.2.trans (h8.mono X6.out.1.size)⟩;have k3:=X8.out.1.sx.c3;have kl:=X8.out.1.sx.lt;clear h8)
    |(go_at_call 100;refine(X8.out.1.put0 (t:=cQ (N:Int) (N:Int)) rfl (n:=NQ) (q:=p+NQ) rfl (by omega)).mono ?_;rintro e w9 h9;have hz:=h9.1;subst hz;have X9:Hid (Puts base w b s m p D (.ok (cQ (N:Int) (N:Int),p+NQ)) (.returned (.tuple #[])) w9):=h9.from X8.out.2;clear h9)
   go_end0
   exact X9.out
 | true=>
  have hC:Hid (∀ W,SX W b s m p v 0 0->Calls Tryz.prog 96 #[.pointer (some ⟨b,0,none⟩),.int .i64 (Q:Int),.string ⟨#[44]⟩] W fun e w'=>e=.returned (.bool true)/\Below W.heap.size W w'):=fun W hW=>by
   have:=HC W hW
   rw [hcom] at this
   exact this
  have hQs:Q+1<=s.size:=bE hcom (by simp)
  have hd2:=lC s (Q+1) hQs
  obtain⟨K,hK⟩:∃ K,K=fE (bQ s (Q+1)):=⟨_,rfl⟩
  obtain⟨R,hRR⟩:∃ R,R=Q+1+(bQ s (Q+1)).length:=⟨_,rfl⟩
  have hK2:K<=256:=by rw [hK];exact kR _
  have hR2:R<=s.size:=by omega
  have hR:R=ivR s p:=by unfold ivR;rw [<- hQ,hcom,hRR];simp
  have HN2:∀ W,SX W b s m p v 0 0->Calls Tryz.prog 141 #[.pointer (some ⟨b,0,none⟩),.int .i64 (Q1:Int)] W fun e w'=>e=.returned (.tuple #[.int .i64 (K:Int),.int .i64 (R:Int),.bool (decide (0 < (bQ s (Q+1)).length))])/\Below W.heap.size W w':=fun W hW=>by
   have:=rF hW (Q+1) hQs hs
   rw [<- hK,<- hRR] at this
   rw [hQ1]
   exact this
  by_cases hl2:(bQ s (Q+1)).length=0
  ·have hB:ivB s p=-1:=by unfold ivB;rw [<- hQ,hcom];simp [hl2]
   have hN2:Hid (∀ W,SX W b s m p v 0 0->Calls Tryz.prog 141 #[.pointer (some ⟨b,0,none⟩),.int .i64 (Q1:Int)] W fun e w'=>e=.returned (.tuple #[.int .i64 (K:Int),.int .i64 (R:Int),.bool false])/\Below W.heap.size W w'):=fun W hW=>by
    have:=HN2 W hW
    rw [hl2] at this
    exact this
   clear HC hcom HN2 hQ1
   have hQR:Q < R:=by omega
   clear hRR hK
   have hE0:=HI R
   cases hends:aJ s R [92,125] with
   | false=>
    have hr:dY s p=.error (36,p):=by unfold dY;rw [if_pos (.inr (by rw [<- hR];exact hends))]
    rw [hr]
    have hE:Hid (∀ W,SX W b s m p v 0 0->Calls Tryz.prog 96 #[.pointer (some ⟨b,0,none⟩),.int .i64 (R:Int),.string ⟨#[92,125]⟩] W fun e w'=>e=.returned (.bool false)/\Below W.heap.size W w'):=fun W hW=>by
     have:=hE0 W (by omega) hW
     rw [hends] at this
     exact this
    clear hE0 HI hr hR hN hQ hends
    go_enter Tryz.func121,Tryz.ntmps121
    go_wp2_with first
     |(go_at_call 141;(with_reducible refine(hN1.out _ H.out.sx).mono ?_);rintro e w5 ⟨rfl,h5⟩;have X5:Hid (Room base w5 b s m p v D/\Below base w w5):=⟨H.out.kept h5,h5.mono bs⟩;clear h5)
     |(go_at_call 96;(with_reducible refine(hC.out _ X5.out.1.sx).mono ?_);rintro e w6 ⟨rfl,h6⟩;have X6:Hid (Room base w6 b s m p v D/\Below base w w6):=⟨X5.out.1.kept h6,X5.out.2.trans (h6.mono X5.out.1.size)⟩;clear h6)
     |(go_at_call 141;(with_reducible refine(hN2.out _ X6.out.1.sx).mono ?_);rintro e w7 ⟨rfl,h7⟩;have X7:Hid (Room base w7 b s m p v D/\Below base w w7):=⟨X6.out.1.kept h7,X6.out.2.trans (h7.mono X6.out.1.size)⟩;clear h7)
     |(go_at_call 96;(with_reducible refine(hE.out _ X7.out.1.sx).mono ?_);rintro e w8 ⟨rfl,h8⟩;have X8:Hid (Room base w8 b s m p v D/\Below base w w8):=⟨X7.out.1.kept h8,X7.out.2.trans (h8.mono X7.out.1.size)⟩;have k3:=X8.out.1.sx.c3;have kl:=X8.out.1.sx.lt;clear h8)
     |(go_at_call 97;refine(X8.out.1.no 36 p).mono ?_;rintro e w9 ⟨rfl,h9,g9⟩;have X9:Hid (SX w9 b s m p v 36 p/\Below base w w9):=⟨h9,X8.out.2.trans g9⟩;clear h9 g9)
    go_end0
    exact⟨rfl,X9.out.2,v,X9.out.1⟩
   | true=>
    have hE:Hid (∀ W,SX W b s m p v 0 0->Calls Tryz.prog 96 #[.pointer (some ⟨b,0,none⟩),.int .i64 (R:Int),.string ⟨#[92,125]⟩] W fun e w'=>e=.returned (.bool true)/\Below W.heap.size W w'):=fun W hW=>by
     have:=hE0 W (by omega) hW
     rw [hends] at this
     exact this
    have hRs:R+2<=s.size:=bE hends (by simp)
    have hg:¬ ((bQ s (p+2)).length=0\/aJ s (ivR s p) [92,125]=false):=by rw [<- hR,hends];simp [hlen]
    clear hE0 HI hends
    obtain⟨NQ,hNQ⟩:∃ NQ,NQ=R+2 - p:=⟨_,rfl⟩
    have hw2:IntKind.wrap .i64 ((R:Int)+2)=(R:Int)+2:=wrap_small _ (by omega) (by omega)
    have hw3:IntKind.wrap .i64 ((R:Int)+2 - (p:Int))=(NQ:Int):=by rw [wrap_small _ (by omega) (by omega)];omega
    by_cases hb0:255 < N
    ·have hr:dY s p=.error (37,p):=by unfold dY;rw [if_neg hg,if_pos (by rw [<- hN,hB];omega)]
     rw [hr]
     have j0:(255:Int) < (N:Int):=by omega
     clear hr hR hN hQ hB hg
     go_enter Tryz.func121,Tryz.ntmps121
     go_wp2_with first
      |(go_at_call 141;(with_reducible refine(hN1.out _ H.out.sx).mono ?_);rintro e w5 ⟨rfl,h5⟩;have X5:Hid (Room base w5 b s m p v D/\Below base w w5):=⟨H.out.kept h5,h5.mono bs⟩;clear h5)
      |(go_at_call 96;(with_reducible refine(hC.out _ X5.out.1.sx).mono ?_);rintro e w6 ⟨rfl,h6⟩;have X6:Hid (Room base w6 b s m p v D/\Below base w w6):=⟨X5.out.1.kept h6,X5.out.2.trans (h6.mono X5.out.1.size)⟩;clear h6)
      |(go_at_call 141;(with_reducible refine(hN2.out _ X6.out.1.sx).mono ?_);rintro e w7 ⟨rfl,h7⟩;have X7:Hid (Room base w7 b s m p v D/\Below base w w7):=⟨X6.out.1.kept h7,X6.out.2.trans (h7.mono X6.out.1.size)⟩;clear h7)
      |(go_at_call 96;(with_reducible refine(hE.out _ X7.out.1.sx).mono ?_);rintro e w8 ⟨rfl,h8⟩;have X8:Hid (Room base w8 b s m p v D/\Below base w w8):=⟨X7.out.1.kept h8,X7.out.2.trans (h8.mono X7.out.1.size)⟩;have k3:=X8.out.1.sx.c3;have kl:=X8.out.1.sx.lt;clear h8)
      |(go_at_call 97;refine(X8.out.1.no 37 p).mono ?_;rintro e w9 ⟨rfl,h9,g9⟩;have X9:Hid (SX w9 b s m p v 37 p/\Below base w w9):=⟨h9,X8.out.2.trans g9⟩;clear h9 g9)
     go_end0
     exact⟨rfl,X9.out.2,v,X9.out.1⟩
    have hr:dY s p=.ok (cQ (N:Int) (-1),p+NQ):=by unfold dY;rw [if_neg hg,if_neg (by rw [<- hN,hB];omega),<- hN,hB,<- hR,hNQ];congr 2;omega
    rw [hr]
    have j0:¬ (255:Int) < (N:Int):=by omega
    clear hr hR hN hQ hB hg
    have hnq:NQ<=2000:=by omega
    clear hNQ
    go_enter Tryz.func121,Tryz.ntmps121
    go_wp2_with first
     |(go_at_call 141;(with_reducible refine(hN1.out _ H.out.sx).mono ?_);rintro e w5 ⟨rfl,h5⟩;have X5:Hid (Room base w5 b s m p v D/\Below base w w5):=⟨H.out.kept h5,h5.mono bs⟩;clear h5)
     |(go_at_call 96;(with_reducible refine(hC.out _ X5.out.1.sx).mono ?_);rintro e w6 ⟨rfl,h6⟩;have X6:Hid (Room base w6 b s m p v D/\Below base w w6):=⟨X5.out.1.kept h6,X5.out.2.trans (h6.mono X5.out.1.size)⟩;clear h6)
     |(go_at_call 141;(with_reducible refine(hN2.out _ X6.out.1.sx).mono ?_);rintro e w7 ⟨rfl,h7⟩;have X7:Hid (Room base w7 b s m p v D/\Below base w w7):=⟨X6.out.1.kept h7,X6.out.2.trans (h7.mono X6.out.1.size)⟩;clear h7)
     |(go_at_call 96;(with_reducible refine(hE.out _ X7.out.1.sx).mono ?_);rintro e w8 ⟨rfl,h8⟩;have X8:Hid (Room base w8 b s m p v D/\Below base w w8):=⟨X7.out.1.kept h8,X7.out.2.trans (h8.mono X7.out.1.size)⟩;have k3:=X8.out.1.sx.c3;have kl:=X8.out.1.sx.lt;clear h8)
     |(go_at_call 100;refine(X8.out.1.put0 (t:=cQ (N:Int) (-1)) rfl (n:=NQ) (q:=p+NQ) rfl (by omega)).mono ?_;rintro e w9 h9;have hz:=h9.1;subst hz;have X9:Hid (Puts base w b s m p D (.ok (cQ (N:Int) (-1),p+NQ)) (.returned (.tuple #[])) w9):=h9.from X8.out.2;clear h9)
    go_end0
    exact X9.out
  ·have hB:ivB s p=(K:Int):=by unfold ivB;rw [<- hQ,hcom,<- hK];simp [hl2]
   have hN2:Hid (∀ W,SX W b s m p v 0 0->Calls Tryz.prog 141 #[.pointer (some ⟨b,0,none⟩),.int .i64 (Q1:Int)] W fun e w'=>e=.returned (.tuple #[.int .i64 (K:Int),.int .i64 (R:Int),.bool true])/\Below W.heap.size W w'):=fun W hW=>by
    have:=HN2 W hW
    rw [decide_eq_true (by omega)] at this
    exact this
   clear HC hcom HN2 hQ1
   have hQR:Q < R:=by omega
   clear hRR hK
   have jk:((K:Int)==-1)=false:=beq_eq_false_iff_ne.2 (by omega)
   have jk2:¬ (K:Int)=-1:=by omega
   have jk3:((K:Int) != -1)=true:=bne_iff_ne.2 jk2
   have hE0:=HI R
   cases hends:aJ s R [92,125] with
   | false=>
    have hr:dY s p=.error (36,p):=by unfold dY;rw [if_pos (.inr (by rw [<- hR];exact hends))]
    rw [hr]
    have hE:Hid (∀ W,SX W b s m p v 0 0->Calls Tryz.prog 96 #[.pointer (some ⟨b,0,none⟩),.int .i64 (R:Int),.string ⟨#[92,125]⟩] W fun e w'=>e=.returned (.bool false)/\Below W.heap.size W w'):=fun W hW=>by
     have:=hE0 W (by omega) hW
     rw [hends] at this
     exact this
    clear hE0 HI hr hR hN hQ hends
    go_enter Tryz.func121,Tryz.ntmps121
    go_wp2_with first
     |(go_at_call 141;(with_reducible refine(hN1.out _ H.out.sx).mono ?_);rintro e w5 ⟨rfl,h5⟩;have X5:Hid (Room base w5 b s m p v D/\Below base w w5):=⟨H.out.kept h5,h5.mono bs⟩;clear h5)
     |(go_at_call 96;(with_reducible refine(hC.out _ X5.out.1.sx).mono ?_);rintro e w6 ⟨rfl,h6⟩;have X6:Hid (Room base w6 b s m p v D/\Below base w w6):=⟨X5.out.1.kept h6,X5.out.2.trans (h6.mono X5.out.1.size)⟩;clear h6)
     |(go_at_call 141;(with_reducible refine(hN2.out _ X6.out.1.sx).mono ?_);rintro e w7 ⟨rfl,h7⟩;have X7:Hid (Room base w7 b s m p v D/\Below base w w7):=⟨X6.out.1.kept h7,X6.out.2.trans (h7.mono X6.out.1.size)⟩;clear h7)
     |(go_at_call 96;(with_reducible refine(hE.out _ X7.out.1.sx).mono ?_);rintro e w8 ⟨rfl,h8⟩;have X8:Hid (Room base w8 b s m p v D/\Below base w w8):=⟨X7.out.1.kept h8,X7.out.2.trans (h8.mono X7.out.1.size)⟩;have k3:=X8.out.1.sx.c3;have kl:=X8.out.1.sx.lt;clear h8)
     |(go_at_call 97;refine(X8.out.1.no 36 p).mono ?_;rintro e w9 ⟨rfl,h9,g9⟩;have X9:Hid (SX w9 b s m p v 36 p/\Below base w w9):=⟨h9,X8.out.2.trans g9⟩;clear h9 g9)
    go_end0
    exact⟨rfl,X9.out.2,v,X9.out.1⟩
   | true=>
    have hE:Hid (∀ W,SX W b s m p v 0 0->Calls Tryz.prog 96 #[.pointer (some ⟨b,0,none⟩),.int .i64 (R:Int),.string ⟨#[92,125]⟩] W fun e w'=>e=.returned (.bool true)/\Below W.heap.size W w'):=fun W hW=>by
     have:=hE0 W (by omega) hW
     rw [hends] at this
     exact this
    have hRs:R+2<=s.size:=bE hends (by simp)
    have hg:¬ ((bQ s (p+2)).length=0\/aJ s (ivR s p) [92,125]=false):=by rw [<- hR,hends];simp [hlen]
    clear hE0 HI hends
    obtain⟨NQ,hNQ⟩:∃ NQ,NQ=R+2 - p:=⟨_,rfl⟩
    have hw2:IntKind.wrap .i64 ((R:Int)+2)=(R:Int)+2:=wrap_small _ (by omega) (by omega)
    have hw3:IntKind.wrap .i64 ((R:Int)+2 - (p:Int))=(NQ:Int):=by rw [wrap_small _ (by omega) (by omega)];omega
    by_cases hb0:255 < N
    ·have hr:dY s p=.error (37,p):=by unfold dY;rw [if_neg hg,if_pos (by rw [<- hN,hB];omega)]
     rw [hr]
     have j0:(255:Int) < (N:Int):=by omega
     clear hr hR hN hQ hB hg
     go_enter Tryz.func121,Tryz.ntmps121
     go_wp2_with first
      |(go_at_call 141;(with_reducible refine(hN1.out _ H.out.sx).mono ?_);rintro e w5 ⟨rfl,h5⟩;have X5:Hid (Room base w5 b s m p v D/\Below base w w5):=⟨H.out.kept h5,h5.mono bs⟩;clear h5)
      |(go_at_call 96;(with_reducible refine(hC.out _ X5.out.1.sx).mono ?_);rintro e w6 ⟨rfl,h6⟩;have X6:Hid (Room base w6 b s m p v D/\Below base w w6):=⟨X5.out.1.kept h6,X5.out.2.trans (h6.mono X5.out.1.size)⟩;clear h6)
      |(go_at_call 141;(with_reducible refine(hN2.out _ X6.out.1.sx).mono ?_);rintro e w7 ⟨rfl,h7⟩;have X7:Hid (Room base w7 b s m p v D/\Below base w w7):=⟨X6.out.1.kept h7,X6.out.2.trans (h7.mono X6.out.1.size)⟩;clear h7)
      |(go_at_call 96;(with_reducible refine(hE.out _ X7.out.1.sx).mono ?_);rintro e w8 ⟨rfl,h8⟩;have X8:Hid (Room base w8 b s m p v D/\Below base w w8):=⟨X7.out.1.kept h8,X7.out.2.trans (h8.mono X7.out.1.size)⟩;have k3:=X8.out.1.sx.c3;have kl:=X8.out.1.sx.lt;clear h8)
      |(go_at_call 97;refine(X8.out.1.no 37 p).mono ?_;rintro e w9 ⟨rfl,h9,g9⟩;have X9:Hid (SX w9 b s m p v 37 p/\Below base w w9):=⟨h9,X8.out.2.trans g9⟩;clear h9 g9)
     go_end0
     exact⟨rfl,X9.out.2,v,X9.out.1⟩
    by_cases hb1:255 < K
    ·have hr:dY s p=.error (37,p):=by unfold dY;rw [if_neg hg,if_pos (by rw [<- hN,hB];omega)]
     rw [hr]
     have j0:¬ (255:Int) < (N:Int):=by omega
     have j1:(255:Int) < (K:Int):=by omega
     clear hr hR hN hQ hB hg
     go_enter Tryz.func121,Tryz.ntmps121
     go_wp2_with first
      |(go_at_call 141;(with_reducible refine(hN1.out _ H.out.sx).mono ?_);rintro e w5 ⟨rfl,h5⟩;have X5:Hid (Room base w5 b s m p v D/\Below base w w5):=⟨H.out.kept h5,h5.mono bs⟩;clear h5)
      |(go_at_call 96;(with_reducible refine(hC.out _ X5.out.1.sx).mono ?_);rintro e w6 ⟨rfl,h6⟩;have X6:Hid (Room base w6 b s m p v D/\Below base w w6):=⟨X5.out.1.kept h6,X5.out.2.trans (h6.mono X5.out.1.size)⟩;clear h6)
      |(go_at_call 141;(with_reducible refine(hN2.out _ X6.out.1.sx).mono ?_);rintro e w7 ⟨rfl,h7⟩;have X7:Hid (Room base w7 b s m p v D/\Below base w w7):=⟨X6.out.1.kept h7,X6.out.2.trans (h7.mono X6.out.1.size)⟩;clear h7)
      |(go_at_call 96;(with_reducible refine(hE.out _ X7.out.1.sx).mono ?_);rintro e w8 ⟨rfl,h8⟩;have X8:Hid (Room base w8 b s m p v D/\Below base w w8):=⟨X7.out.1.kept h8,X7.out.2.trans (h8.mono X7.out.1.size)⟩;have k3:=X8.out.1.sx.c3;have kl:=X8.out.1.sx.lt;clear h8)
      |(go_at_call 97;refine(X8.out.1.no 37 p).mono ?_;rintro e w9 ⟨rfl,h9,g9⟩;have X9:Hid (SX w9 b s m p v 37 p/\Below base w w9):=⟨h9,X8.out.2.trans g9⟩;clear h9 g9)
     go_end0
     exact⟨rfl,X9.out.2,v,X9.out.1⟩
    by_cases hb2:K < N
    ·have hr:dY s p=.error (37,p):=by unfold dY;rw [if_neg hg,if_pos (by rw [<- hN,hB];omega)]
     rw [hr]
     have j0:¬ (255:Int) < (N:Int):=by omega
     have j1:¬ (255:Int) < (K:Int):=by omega
     have j3:(K:Int) < (N:Int):=by omega
     clear hr hR hN hQ hB hg
     go_enter Tryz.func121,Tryz.ntmps121
     go_wp2_with first
      |(go_at_call 141;(with_reducible refine(hN1.out _ H.out.sx).mono ?_);rintro e w5 ⟨rfl,h5⟩;have X5:Hid (Room base w5 b s m p v D/\Below base w w5):=⟨H.out.kept h5,h5.mono bs⟩;clear h5)
      |(go_at_call 96;(with_reducible refine(hC.out _ X5.out.1.sx).mono ?_);rintro e w6 ⟨rfl,h6⟩;have X6:Hid (Room base w6 b s m p v D/\Below base w w6):=⟨X5.out.1.kept h6,X5.out.2.trans (h6.mono X5.out.1.size)⟩;clear h6)
      |(go_at_call 141;(with_reducible refine(hN2.out _ X6.out.1.sx).mono ?_);rintro e w7 ⟨rfl,h7⟩;have X7:Hid (Room base w7 b s m p v D/\Below base w w7):=⟨X6.out.1.kept h7,X6.out.2.trans (h7.mono X6.out.1.size)⟩;clear h7)
      |(go_at_call 96;(with_reducible refine(hE.out _ X7.out.1.sx).mono ?_);rintro e w8 ⟨rfl,h8⟩;have X8:Hid (Room base w8 b s m p v D/\Below base w w8):=⟨X7.out.1.kept h8,X7.out.2.trans (h8.mono X7.out.1.size)⟩;have k3:=X8.out.1.sx.c3;have kl:=X8.out.1.sx.lt;clear h8)
      |(go_at_call 97;refine(X8.out.1.no 37 p).mono ?_;rintro e w9 ⟨rfl,h9,g9⟩;have X9:Hid (SX w9 b s m p v 37 p/\Below base w w9):=⟨h9,X8.out.2.trans g9⟩;clear h9 g9)
     go_end0
     exact⟨rfl,X9.out.2,v,X9.out.1⟩
    have hr:dY s p=.ok (cQ (N:Int) (K:Int),p+NQ):=by unfold dY;rw [if_neg hg,if_neg (by rw [<- hN,hB];omega),<- hN,hB,<- hR,hNQ];congr 2;omega
    rw [hr]
    have j0:¬ (255:Int) < (N:Int):=by omega
    have j1:¬ (255:Int) < (K:Int):=by omega
    have j3:¬ (K:Int) < (N:Int):=by omega
    clear hr hR hN hQ hB hg
    have hnq:NQ<=2000:=by omega
    clear hNQ
    go_enter Tryz.func121,Tryz.ntmps121
    go_wp2_with first
     |(go_at_call 141;(with_reducible refine(hN1.out _ H.out.sx).mono ?_);rintro e w5 ⟨rfl,h5⟩;have X5:Hid (Room base w5 b s m p v D/\Below base w w5):=⟨H.out.kept h5,h5.mono bs⟩;clear h5)
     |(go_at_call 96;(with_reducible refine(hC.out _ X5.out.1.sx).mono ?_);rintro e w6 ⟨rfl,h6⟩;have X6:Hid (Room base w6 b s m p v D/\Below base w w6):=⟨X5.out.1.kept h6,X5.out.2.trans (h6.mono X5.out.1.size)⟩;clear h6)
     |(go_at_call 141;(with_reducible refine(hN2.out _ X6.out.1.sx).mono ?_);rintro e w7 ⟨rfl,h7⟩;have X7:Hid (Room base w7 b s m p v D/\Below base w w7):=⟨X6.out.1.kept h7,X6.out.2.trans (h7.mono X6.out.1.size)⟩;clear h7)
     |(go_at_call 96;(with_reducible refine(hE.out _ X7.out.1.sx).mono ?_);rintro e w8 ⟨rfl,h8⟩;have X8:Hid (Room base w8 b s m p v D/\Below base w w8):=⟨X7.out.1.kept h8,X7.out.2.trans (h8.mono X7.out.1.size)⟩;have k3:=X8.out.1.sx.c3;have kl:=X8.out.1.sx.lt;clear h8)
     |(go_at_call 100;refine(X8.out.1.put0 (t:=cQ (N:Int) (K:Int)) rfl (n:=NQ) (q:=p+NQ) rfl (by omega)).mono ?_;rintro e w9 h9;have hz:=h9.1;subst hz;have X9:Hid (Puts base w b s m p D (.ok (cQ (N:Int) (K:Int),p+NQ)) (.returned (.tuple #[])) w9):=h9.from X8.out.2;clear h9)
    go_end0
    exact X9.out
end Go.Proofs.YtpfdapnfkghgkaaGreatDoor
