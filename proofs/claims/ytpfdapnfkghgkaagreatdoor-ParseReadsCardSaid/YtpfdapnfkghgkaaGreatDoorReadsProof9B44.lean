/-
  Parts of the proof.
-/
import Derived.Test.YtpfdapnfkghgkaaGreatDoorReadsProof9B43
import Derived.Deep.DeepCutAuto
namespace Go.Proofs.YtpfdapnfkghgkaaGreatDoor
open Go Go.RowKit
def IA(w:World)(g:Nat)(ev:Bool)(c:Int)(lv:Value)(t:Int):Prop:=w.heap[g]?=some (.cells #[.bool ev,.int .i64 c,lv,.int .i64 t] 172 (0,0))
section
variable {w w':World} {g:Nat} {ev:Bool} {c:Int} {lv:Value} {t:Int}
theorem IA.lt(h:IA w g ev c lv t):g < w.heap.size:=aA h
theorem IA.kept(h:IA w g ev c lv t)(hb:Below w.heap.size w w'):IA w' g ev c lv t:=(hb.block g h.lt).trans h
theorem IA.fr{S:Nat->Prop}(h:IA w g ev c lv t)(hb:Fr S w w')(hn:¬ S g):IA w' g ev c lv t:=(hb.block g h.lt hn).trans h
theorem IA.sx{b:Nat}{s:ByteArray}{m:Md}{p:Nat}{tv:Value}{e a:Nat}(h:IA w g ev c lv t)(hx:SX w b s m p tv e a)(hb:Fr (At b) w w'):IA w' g ev c lv t:=h.fr hb fun q=>by
 rw [show g=b from q] at h
 unfold SX at hx
 unfold IA at h
 rw [h] at hx
 simp at hx
theorem IA.all(h:IA w g ev c lv t):w.cell? ⟨g,0,none⟩=some (.bool ev)/\w.cell? ⟨g,1,none⟩=some (.int .i64 c)/\w.cell? ⟨g,2,none⟩=some lv/\w.cell? ⟨g,3,none⟩=some (.int .i64 t):=
 ⟨aB h (i:=0) rfl,aB h (i:=1) rfl,aB h (i:=2) rfl,aB h (i:=3) rfl⟩
end
structure St(w:World)(b:Nat)(s:ByteArray)(m:Md)(p:Nat)(v lv:Value)(L:List (Int × Int))(e a:Nat)(W:World):Prop where
 sx:SX W b s m p v e a
 fr:Fr (At b) w W
 rr:RR w.heap.size W lv L
section
variable {w:World} {b:Nat} {s:ByteArray} {m:Md} {p:Nat} {v lv:Value} {L:List (Int × Int)} {e a:Nat} {W W':World}
theorem St.kept(h:St w b s m p v lv L e a W)(hb:Below W.heap.size W W'):St w b s m p v lv L e a W':=⟨h.sx.kept hb,h.fr.trans (Fr.of_below hb),h.rr.kept hb⟩
theorem St.at(h:St w b s m p v lv L e a W)(hf:Fr (At b) W W'){e' a':Nat}(hx:SX W' b s m p v e' a'):St w b s m p v lv L e' a' W':=⟨hx,h.fr.trans hf,h.rr.sx h.sx hf⟩
theorem St.app(h:St w b s m p v lv L e a W){V W6:World}(hB:Below W.heap.size W V)(hg:V.grownBy W6 lv.ownBlock){v':Value}{L':List (Int × Int)}(hr:RR w.heap.size W6 v' L') :
  St w b s m p v v' L' e a W6/\∀ g ev c l t,IA W g ev c l t->IA W6 g ev c l t:=by
 have h1:=h.kept hB
 have hf:Fr (fun k=>lv.ownBlock=some k) V W6:=Fr.grown (Fr.refl _ _) hg (fun k hk=>hk)
 refine⟨⟨h1.sx.fr hf (aN h1.rr h1.sx (by decide)),h1.fr.comp hf (fun j hj=>.inr (aH h1.rr hj).1),hr⟩,fun g ev c l t hi=>?_⟩
 have h2:=hi.kept hB
 exact h2.fr hf (aN h1.rr h2 (by decide))
theorem St.item(h:St w b s m p v lv L 0 0 W){r:Rs It}{ev:Bool}{cv tv:Int}{lv1:Value}{w4:World}(hi:ItV W b s m p v r ev cv lv1 tv w4) :
  IA (w4.alloc (.cells #[.bool ev,.int .i64 cv,lv1,.int .i64 tv] 172)) w4.heap.size ev cv lv1 tv/\(∀ g e0 c0 l0 t0,IA W g e0 c0 l0 t0->IA (w4.alloc (.cells #[.bool ev,.int .i64 cv,lv1,.int .i64 tv] 172)) g e0 c0 l0 t0)/\match r with
  | .error (c,a)=>St w b s m p v lv L c a (w4.alloc (.cells #[.bool ev,.int .i64 cv,lv1,.int .i64 tv] 172))
  | .ok (e0,c0,L1,q)=>ev=e0/\cv=c0/\tv=(q:Int)/\RR w.heap.size (w4.alloc (.cells #[.bool ev,.int .i64 cv,lv1,.int .i64 tv] 172)) lv1 L1/\St w b s m p v lv L 0 0 (w4.alloc (.cells #[.bool ev,.int .i64 cv,lv1,.int .i64 tv] 172)):=by
 have hB:Below w4.heap.size w4 (w4.alloc (.cells #[.bool ev,.int .i64 cv,lv1,.int .i64 tv] 172)):=bz9
 have hI:IA (w4.alloc (.cells #[.bool ev,.int .i64 cv,lv1,.int .i64 tv] 172)) w4.heap.size ev cv lv1 tv:=aG _ _
 obtain⟨h1,h2⟩:=hi
 refine⟨hI,fun g e0 c0 l0 t0 hg=>(hg.sx h.sx h1).kept hB,?_⟩
 cases r with
 | error x=>
  obtain⟨c,a⟩:=x
  exact(h.at h1 h2).kept hB
 | ok x=>
  obtain⟨e0,c0,L1,q⟩:=x
  obtain⟨rfl,rfl,rfl,h3,h4⟩:=h2
  exact⟨rfl,rfl,rfl,RR.mono (h3.kept hB) h.fr.size,(h.at h1 h4).kept hB⟩
end
theorem aU2{b:Nat}{s:ByteArray}{m:Md}{p:Nat}{v:Value}(hs:s.size<=2000)(k:Nat)(hk:k<=5000)(x:UInt8){E:Bool}(hE:E=aJ s k [x])(W:World)(hW:SX W b s m p v 0 0) :
  Calls Tryz.prog 96 #[.pointer (some ⟨b,0,none⟩),.int .i64 (k:Int),.string ⟨#[x]⟩] W fun e w'=>e=.returned (.bool E)/\Below W.heap.size W w':=by
 rw [hE]
 exact rI hW hs k hk ⟨#[x]⟩ (Nat.zero_lt_succ 0) (Nat.le_succ 1)
theorem fD{b:Nat}{s:ByteArray}{m:Md}{p:Nat}{v:Value}(hs:s.size<=2000)(k:Nat)(hk:k<=5000)(x y:UInt8){E:Bool}(hE:E=aJ s k [x,y])(W:World)(hW:SX W b s m p v 0 0) :
  Calls Tryz.prog 96 #[.pointer (some ⟨b,0,none⟩),.int .i64 (k:Int),.string ⟨#[x,y]⟩] W fun e w'=>e=.returned (.bool E)/\Below W.heap.size W w':=by
 rw [hE]
 exact rI hW hs k hk ⟨#[x,y]⟩ (Nat.zero_lt_succ 1) (Nat.le_refl 2)
theorem jR{base:Nat}{w:World}{b:Nat}{s:ByteArray}{m:Md}{p:Nat}{v lv:Value}{L:List (Int × Int)}{D:List Dt}{c a:Nat}{W:World}{RB:Rs (Tk × Nat)}(H:Room base w b s m p v D)(h:St w b s m p v lv L c a W)(hr:RB=.error (c,a)):Puts base w b s m p D RB (.returned (.tuple #[])) W:=by
 rw [hr]
 exact⟨rfl,h.fr.below H.size (fun k hk=>by have:=H.low;have:k=b:=hk;omega),v,h.sx⟩
theorem St.room{base:Nat}{w:World}{b:Nat}{s:ByteArray}{m:Md}{p:Nat}{v lv:Value}{L:List (Int × Int)}{D:List Dt}{W:World}(H:Room base w b s m p v D)(h:St w b s m p v lv L 0 0 W):Room base W b s m p v D/\Below base w W:=
 ⟨⟨h.sx,H.tl.sx H.sx h.fr,H.low,H.few,H.len,H.at_⟩,h.fr.below H.size (fun k hk=>by have:=H.low;have:k=b:=hk;omega)⟩
def erM(w:World)(b:Nat):Nat:=match w.cell? ⟨b,5,none⟩ with
 | some (.int _ x)=>x.toNat
 | _=>0
theorem SX.er{w:World}{b:Nat}{s:ByteArray}{m:Md}{p:Nat}{tv:Value}{e a:Nat}(h:SX w b s m p tv e a):erM w b=e:=by
 unfold erM
 rw [h.c5]
 exact Int.toNat_natCast e
theorem wC{m:Md}{s:ByteArray}{o p c a:Nat}(ho:o<=s.size)(hp:p<=s.size)(h:hJ m s o p=.error (c,a)):c≠0:=by
 have h1:=zN hp h
 have h2:=mD m s o p ho hp
 rw [h1] at h2
 have:=h2.1
 omega
def BR(w:World)(b:Nat)(s:ByteArray)(m:Md)(p:Nat)(v:Value)(T:Bool)(RB:Rs (Tk × Nat))(u l f:Value)(wr:World):Prop:=
 (∃ first K L,u=.int .i64 ((K:Nat):Int)/\f=.bool first/\St w b s m p v l L 0 0 wr/\BI m s p T first K L) \/
 (∃ c a x L fb,u=.int .i64 x/\f=.bool fb/\St w b s m p v l L c a wr/\c≠0/\RB=.error (c,a))
def bkM(s:ByteArray)(b:Nat)(u:Value)(wr:World):Nat:=if erM wr b=0 then s.size+2 - (intOf u).toNat else 0
end Go.Proofs.YtpfdapnfkghgkaaGreatDoor
