import Derived.Test.YtoijpogadkogcaaGreatRg
import Derived.Test.YtoijpogadkogcaaGreatQc
namespace Go.Proofs.YtoijpogadkogcaaGreat
structure Line where
 id:Nat
 client:Way:={}
 server:Way:={}
 reset:Bool:=false
 h:zal
def line?(ls:List Line)(s:Nat):Option Line:=ls.find? λt=>t.id == s
def zup:zal:=[([97],[])]
theorem zzbcj:zbi zup=true:=by decide
def lwA(ls:List Line)(s:Nat):Way:=((line? ls s).map Line.client).getD {}
def lwB(ls:List Line)(s:Nat):Way:=((line? ls s).map Line.server).getD {}
def lr(ls:List Line)(s:Nat):Bool:=((line? ls s).map Line.reset).getD true
def lh(ls:List Line)(s:Nat):zal:=((line? ls s).map Line.h).getD zup
theorem zmw(ls:List Line)(k:Nat)(t:Line)(hk:ls[k]? = some t)(hn:(ls.map Line.id).Nodup):line? ls t.id=some t:=by
 induction ls generalizing k with
 | nil=>simp at hk
 | cons u ls ih =>
  rw[List.map_cons,List.nodup_cons] at hn;cases k with
  | zero =>
   have:u=t:=by simpa using hk
   subst this;simp[line?]
  | succ k =>
   have hk':ls[k]? = some t:=by simpa using hk
   have hne:u.id≠t.id:=λe=>hn.1 (by rw[e];exact List.mem_map.2 ⟨t,List.mem_of_getElem? hk',rfl⟩)
   unfold line?;rw[List.find?_cons_of_neg (by simpa using hne)];exact ih k hk' hn.2
theorem zjd(ls:List Line)(k:Nat)(t:Line)(hk:ls[k]? = some t)(hn:(ls.map Line.id).Nodup)(f:Line->Line)(hf:∀ u,(f u).id=u.id)(s:Nat):line? (ls.modify k f) s=if s=t.id then some (f t) else line? ls s:=by
 induction ls generalizing k with
 | nil=>simp at hk
 | cons u ls ih =>
  rw[List.map_cons,List.nodup_cons] at hn;cases k with
  | zero =>
   have:u=t:=by simpa using hk
   subst this;rw[List.modify_zero_cons];unfold line?;by_cases e:s=u.id
   ·rw[if_pos e,List.find?_cons_of_pos (by rw[hf,e];simp)]
   ·rw[if_neg e,List.find?_cons_of_neg (by rw[hf];simp;omega),List.find?_cons_of_neg (by simp;omega)]
  | succ k =>
   have hk':ls[k]? = some t:=by simpa using hk
   have hne:u.id≠t.id:=λe=>hn.1 (by rw[e];exact List.mem_map.2 ⟨t,List.mem_of_getElem? hk',rfl⟩)
   rw[List.modify_succ_cons]
   have:=ih k hk' hn.2
   unfold line? at this ⊢;by_cases e:u.id=s
   ·rw[List.find?_cons_of_pos (by simpa using e),List.find?_cons_of_pos (by simpa using e),if_neg (by omega)]
   ·rw[List.find?_cons_of_neg (by simpa using e),List.find?_cons_of_neg (by simpa using e)];exact this
theorem zns(ls:List Line)(k:Nat)(f:Line->Line)(hf:∀ u,(f u).id=u.id):(ls.modify k f).map Line.id=ls.map Line.id:=by
 induction ls generalizing k with
 | nil=>simp
 | cons u ls ih =>
  cases k with
  | zero=>rw[List.modify_zero_cons,List.map_cons,List.map_cons,hf]
  | succ k=>rw[List.modify_succ_cons,List.map_cons,List.map_cons,ih]
theorem zlt(ls:List Line)(s:Nat)(h:s ∉ ls.map Line.id):line? ls s=none:=by unfold line?;rw[List.find?_eq_none];intro t ht e;exact h (List.mem_map.2 ⟨t,ht,by simpa using e⟩)
theorem zhv(ls:List Line)(t:Line)(h:t.id ∉ ls.map Line.id)(s:Nat):line? (ls++[t]) s=if s=t.id then some t else line? ls s:=by
 have h1:=zlt ls t.id h;unfold line? at h1 ⊢;rw[List.find?_append];by_cases e:s=t.id
 ·subst e;rw[if_pos rfl,h1];simp
 ·rw[if_neg e,List.find?_cons_of_neg (by simp;omega)];simp
theorem zzbhw(c:Cs)(i:Nat)(room:Int):(c.turn i room).2.part=c.part:=by
 unfold Cs.turn;dsimp only;split
 ·split<;>rfl
 ·split
  ·split<;>rfl
  ·split
   ·split<;>rfl
   ·split<;>rfl
theorem zzbck(c:Cs)(room:Int)(b:Bytes)(d:Cs)(h:c.turned room=some (b,d)):d.part=c.part:=by
 unfold Cs.turned at h;obtain⟨k,-,h⟩:=Option.bind_eq_some_iff.1 h;obtain⟨i,-,h⟩:=Option.bind_eq_some_iff.1 h;dsimp only at h;split at h
 ·simp at h
 ·have h:Cs.rings { (c.turn i room).2 with ring:=c.ring.eraseIdx k } i=d:=congrArg Prod.snd (Option.some.inj h);rw[<-h];exact zzbhw c i room
def Line.out(t:Line)(c:Bool):Way:=if c then t.client else t.server
def Line.inn(t:Line)(c:Bool):Way:=if c then t.server else t.client
def Line.setOut(t:Line)(c:Bool)(w:Way):Line:=if c then { t with client:=w } else { t with server:=w }
def Line.setIn(t:Line)(c:Bool)(w:Way):Line:=if c then { t with server:=w } else { t with client:=w }
theorem zzbhx(w:Nat->Way)(s:Nat):zcu w s (w s)=w:=by
 funext k
 unfold zcu;split
 ·rename_i e;rw[e]
 ·rfl
theorem zzbhy{ls:List Line}{k:Nat}{t:Line}(hk:ls[k]? = some t)(hn:(ls.map Line.id).Nodup):lwA ls t.id=t.client:=by unfold lwA;rw[zmw ls k t hk hn];rfl
theorem zzbhz{ls:List Line}{k:Nat}{t:Line}(hk:ls[k]? = some t)(hn:(ls.map Line.id).Nodup):lwB ls t.id=t.server:=by unfold lwB;rw[zmw ls k t hk hn];rfl
theorem lr_at{ls:List Line}{k:Nat}{t:Line}(hk:ls[k]? = some t)(hn:(ls.map Line.id).Nodup):lr ls t.id=t.reset:=by unfold lr;rw[zmw ls k t hk hn];rfl
theorem lh_at{ls:List Line}{k:Nat}{t:Line}(hk:ls[k]? = some t)(hn:(ls.map Line.id).Nodup):lh ls t.id=t.h:=by unfold lh;rw[zmw ls k t hk hn];rfl
theorem zzbdz{ls:List Line}{k:Nat}{t:Line}(hk:ls[k]? = some t)(hn:(ls.map Line.id).Nodup)(f:Line->Line)(hf:∀ u,(f u).id=u.id):lwA (ls.modify k f)=zcu (lwA ls) t.id (f t).client:=by
 funext s
 unfold lwA zcu;rw[zjd ls k t hk hn f hf];split<;>rfl
theorem zzbea{ls:List Line}{k:Nat}{t:Line}(hk:ls[k]? = some t)(hn:(ls.map Line.id).Nodup)(f:Line->Line)(hf:∀ u,(f u).id=u.id):lwB (ls.modify k f)=zcu (lwB ls) t.id (f t).server:=by
 funext s
 unfold lwB zcu;rw[zjd ls k t hk hn f hf];split<;>rfl
theorem zzbmu{ls:List Line}{k:Nat}{t:Line}(hk:ls[k]? = some t)(hn:(ls.map Line.id).Nodup)(f:Line->Line)(hf:∀ u,(f u).id=u.id):lr (ls.modify k f)=λs=>if s=t.id then (f t).reset else lr ls s:=by
 funext s
 unfold lr;rw[zjd ls k t hk hn f hf];split<;>rfl
theorem zzbcl{ls:List Line}{k:Nat}{t:Line}(hk:ls[k]? = some t)(hn:(ls.map Line.id).Nodup)(f:Line->Line)(hf:∀ u,(f u).id=u.id)(hr:(f t).h=t.h):lh (ls.modify k f)=lh ls:=by
 funext s
 unfold lh;rw[zjd ls k t hk hn f hf];split
 ·rename_i e;rw[e,zmw ls k t hk hn];show (f t).h=t.h;exact hr
 ·rfl
theorem zye{ls:List Line}{k:Nat}{f:Line->Line}(hf:∀ u,(f u).id=u.id){t:Line}(ht:t∈ls.modify k f):∃ u∈ls,u.id=t.id:=by
 have:t.id∈(ls.modify k f).map Line.id:=List.mem_map.2 ⟨t,ht,rfl⟩
 rw[zns ls k f hf] at this;obtain⟨u,hu,e⟩:=List.mem_map.1 this;exact⟨u,hu,e⟩
theorem lr_if{ls:List Line}{k:Nat}{t:Line}(hk:ls[k]? = some t)(hn:(ls.map Line.id).Nodup)(b:Bool)(hb:b=t.reset):(λs=>if s=t.id then b else lr ls s)=lr ls:=by
 funext s
 split
 ·rename_i e;rw[e,hb,lr_at hk hn]
 ·rfl
theorem zzbia{c:Cs}{s:Nat}(hw:c.writes s=0):∃ i,c.at? (s:Int)=some i/\al c.l s=some i/\(vl c.l s).gone=false/\(vl c.l s).ending=false:=by
 unfold Cs.writes at hw;split at hw
 ·omega
 ·split at hw
  ·omega
  ·split at hw
   ·omega
   ·rename_i i hi
    have hi':=hi;rw[zcw] at hi';rw[zca c s i hi'] at hw;split at hw
    ·omega
    ·rename_i h1
     split at hw
     ·omega
     ·rename_i h2
      exact⟨i,hi,hi',by simpa using h1,by simpa using h2⟩
structure SR (cl:Bool) (n:Nat) (s:DS) (t:St):Prop where
 id:s.id=n
 mine:s.mine=ownB cl n
 hd:t.headers=s.headers
 fr:s.from_=(t.send:Int)
 to:s.to_=(t.recv:Int)
 un:t.unread=s.unread
 da:t.bytes=s.data
 he:t.head=if s.block=[] then [] else Cs.heads n s.block
 live:t.reset=false->s.state=1+(if t.mine then 1 else 0)+(if t.theirs then 2 else 0)/\t.code=0/\t.ending=s.ends
 dead:t.reset=true->5<=s.state/\s.state<=8/\(s.state=8↔t.code=0)/\(s.state≠8->t.code=s.code)/\s.block=[]/\s.data=[]/\s.unread=[]/\t.ending=false
 kept:s.kept = !(s.state == 8 && s.headers.isEmpty)
 oh:ownB cl n=true->s.headers=[]
theorem SR.head_pos{cl:Bool}{n:Nat}{s:DS}{t:St}(h:SR cl n s t):(0<t.head.length)↔s.block≠[]:=by
 rw[h.he];by_cases e:s.block=[]
 ·simp[e]
 ·rw[if_neg e]
  have:=List.length_pos_iff.2 (zsr n s.block e)
  simp[e,this]
theorem SR.waits{cl:Bool}{n:Nat}{s:DS}{t:St}(h:SR cl n s t):s.waits=t.waits:=by
 have hb:decide (s.block≠[])=decide (0<t.head.length):=decide_eq_decide.2 h.head_pos.symm;unfold DS.waits St.waits;rw[hb,h.da];cases hr:t.reset
 ·obtain⟨h1,h2,h3⟩:=h.live hr;rw[h1,h2,h3];cases t.mine<;>cases t.theirs<;>simp[zan,zaw]
 ·obtain⟨h1,h2,h3,h4,h5,h6,h7,h8⟩:=h.dead hr;rw[h6,h8];by_cases e:s.state=8
  ·rw[e,h3.1 e];simp[zan,zaw]
  ·have hc:0<t.code:=Nat.pos_of_ne_zero λk=>e (h3.2 k);have ht:zan s.state=true:=by unfold zan;simp;omega
   rw[ht];simp[hc]
theorem SR.tells{cl:Bool}{n:Nat}{s:DS}{t:St}(h:SR cl n s t):zan s.state=decide (0<t.code):=by
 cases hr:t.reset
 ·obtain⟨h1,h2,h3⟩:=h.live hr;rw[h1,h2];cases t.mine<;>cases t.theirs<;>simp[zan]
 ·obtain⟨h1,h2,h3,-⟩:=h.dead hr;by_cases e:s.state=8
  ·rw[e,h3.1 e];simp[zan]
  ·have hc:0<t.code:=Nat.pos_of_ne_zero λk=>e (h3.2 k);have ht:zan s.state=true:=by unfold zan;simp;omega
   rw[ht];simp[hc]
theorem SR.isReset{cl:Bool}{n:Nat}{s:DS}{t:St}(h:SR cl n s t):zbx s.state=t.reset:=by
 cases hr:t.reset
 ·obtain⟨h1,-⟩:=h.live hr;rw[h1];cases t.mine<;>cases t.theirs<;>simp[zbx]
 ·obtain⟨h1,h2,-⟩:=h.dead hr;unfold zbx;simp;omega
theorem SR.state_pos{cl:Bool}{n:Nat}{s:DS}{t:St}(h:SR cl n s t):s.state≠0:=by
 cases hr:t.reset
 ·obtain⟨h1,-⟩:=h.live hr;rw[h1];omega
 ·obtain⟨h1,h2,-⟩:=h.dead hr;omega
theorem zgz(ring:List Nat)(n:Nat):Cs.ringOf ring n true=if ring.contains n then ring else ring++[n]:=by
 unfold Cs.ringOf
 have:(ring.filter λk=>k != n || true)=ring:=List.filter_eq_self.2 λx _=>by simp
 rw[this];cases ring.contains n<;>simp
theorem zih(ring:List Nat)(n:Nat):Cs.ringOf ring n false=ring.filter λk=>k != n:=by unfold Cs.ringOf;simp
theorem zjz(ring:List Nat)(n:Nat)(w:Bool)(x:Nat):x∈Cs.ringOf ring n w↔(x≠n/\x∈ring)\/(x=n/\w=true):=by
 cases w
 ·rw[zih,List.mem_filter];simp;exact And.comm
 ·rw[zgz];by_cases hc:n∈ring
  ·rw[if_pos (by simpa using hc)];by_cases e:x=n
   ·subst e;simp[hc]
   ·simp[e]
  ·rw[if_neg (by simpa using hc)];by_cases e:x=n
   ·subst e;simp
   ·simp[e]
theorem zii(ring:List Nat)(n:Nat)(w:Bool)(h:ring.Nodup):(Cs.ringOf ring n w).Nodup:=by
 cases w
 ·rw[zih];exact h.filter _
 ·rw[zgz];by_cases hc:n∈ring
  ·rw[if_pos (by simpa using hc)];exact h
  ·rw[if_neg (by simpa using hc),List.nodup_append];refine⟨h,by simp,λx hx y hy e => ?_⟩;rw[List.mem_singleton] at hy;subst hy;subst e;exact hc hx
theorem zmg(ring:List Nat)(n:Nat)(w:Bool)(h:n∈ring↔w=true):Cs.ringOf ring n w=ring:=by
 cases w
 ·rw[zih];refine List.filter_eq_self.2 λx hx => ?_
  have:x≠n:=λe=>by subst e;simpa using h.1 hx
  simpa using this
 ·rw[zgz,if_pos (by simpa using h)]
theorem zhk(d:Ds)(n:Nat):d.enter n = { d with ring:=Cs.ringOf d.ring n true }:=by unfold Ds.enter;rw[zgz];split<;>rfl
theorem znt(d:Ds)(s:DS):d.place s = { d with ring:=Cs.ringOf d.ring s.id s.waits }:=by
 unfold Ds.place;cases s.waits
 ·rw[zih];rfl
 ·rw[if_pos rfl,zhk]
structure zdv (d:Ds) (c:Cs):Prop where
 fl:d.failed=false
 cf:c.failed=false
 cl:d.client=c.client
 mL:d.mLast=c.own
 tL:d.tLast=c.peer
 mM:d.mMost=c.limit
 tM:d.tMost=c.told
 fr:d.from_=(c.send:Int)
 to:d.to_=(c.recv:Int)
 ctl:c.control=d.ctl.map λf=>frame f.1 f.2.1 f.2.2.1 f.2.2.2
 ev:d.ev=c.events
 inn:d.inn=c.part
 com:match d.coming with | none=>c.now=0 | some x=>c.now=x.1/\x.1≠0/\c.ends=x.2.1/\c.block=x.2.2
 pg:d.pings=c.pings
 lv:d.leaving=c.leaving
 pl:d.peerLeaves=c.left
def zuq(f:Nat->Option DS)(l:List St)(now:Nat)(cl:Bool):Prop:=∀ n,match gl l n with
 | none=>f n=none
 | some t=>if t.coming then f n=none/\now=n else ∃ s,f n=some s/\SR cl n s t
structure Sim (d:Ds) (c:Cs):Prop where
 sc:zdv d c
 ring:d.ring=c.ring
 rn:d.ring.Nodup
 wr:∀ n,n∈d.ring ↔ ∃ s,d.str n=some s/\s.waits=true
 str:zuq d.str c.l c.now c.client
theorem zuq.mod{f:Nat->Option DS}{l:List St}{now:Nat}{cl:Bool}(h:zuq f l now cl){n i:Nat}(hi:al l n=some i){F:St->St}(hF:∀ t,(F t).id=t.id){s':DS}(hc:(F (vl l n)).coming=false)(hs:SR cl n s' (F (vl l n))):zuq (λk=>if k=n then some s' else f k) (l.modify i F) now cl:=by
 intro k;rw[zlo l n i F hF hi k];by_cases e:k=n
 ·rw[if_pos e];dsimp only;rw[hc,if_pos e];subst e;simp only[Bool.false_eq_true,if_false];exact⟨s',rfl,hs⟩
 ·rw[if_neg e];simp only[if_neg e];exact h k
theorem Sim.at{d:Ds}{c:Cs}(h:Sim d c){n i:Nat}(hi:al c.l n=some i)(hc:(vl c.l n).coming=false):∃ s,d.str n=some s/\SR c.client n s (vl c.l n):=by
 have:=h.str n
 rw[(zcs c.l n i hi).2.1,<-zdg c.l n i hi] at this;dsimp only at this;rw[hc] at this;simpa using this
theorem Sim.ring_same{d:Ds}{c:Cs}(h:Sim d c){n:Nat}{s:DS}(hs:d.str n=some s):Cs.ringOf d.ring n s.waits=d.ring:=by
 refine zmg _ _ _ ⟨λhx => ?_,λhw=>(h.wr n).2 ⟨s,hs,hw⟩⟩;obtain⟨s2,e,hw⟩:=(h.wr n).1 hx;rw[hs] at e;injection e with e
 rw[e];exact hw
theorem Sim.stepR{d:Ds}{c:Cs}(h:Sim d c){n i:Nat}(hi:al c.l n=some i){F:St->St}(hF:∀ t,(F t).id=t.id){s':DS}(hc:(F (vl c.l n)).coming=false)(hs:SR c.client n s' (F (vl c.l n)))
  {d':Ds} {c':Cs} (hd:d'.str=λk=>if k=n then some s' else d.str k) (hl:c'.l=c.l.modify i F) (hr:d'.ring=c'.ring) (hnd:d'.ring.Nodup) (hm:∀ x,x∈d'.ring↔(x≠n/\x∈d.ring)\/(x=n/\s'.waits=true)) (hn:c'.now=c.now) (hsc:zdv d' c') (hcl:c'.client=c.client):Sim d' c':=by
 refine⟨hsc,hr,hnd,λk => ?_,by rw[hd,hl,hn,hcl];exact h.str.mod hi hF hc hs⟩;rw[hm k,hd];dsimp only;by_cases e:k=n
 ·rw[if_pos e];constructor
  ·rintro (h1|h1)
   ·exact absurd e h1.1
   ·exact⟨s',rfl,h1.2⟩
  ·rintro ⟨s,h1,h2⟩;injection h1 with h1
   subst h1;exact .inr ⟨e,h2⟩
 ·rw[if_neg e,<-h.wr k];constructor
  ·rintro (h1|h1)
   ·exact h1.2
   ·exact absurd h1.1 e
  ·exact λh1 => .inl ⟨e,h1⟩
theorem Sim.step{d:Ds}{c:Cs}(h:Sim d c){n i:Nat}(hi:al c.l n=some i){F:St->St}(hF:∀ t,(F t).id=t.id){s':DS}(hc:(F (vl c.l n)).coming=false)(hs:SR c.client n s' (F (vl c.l n)))
  {d':Ds} {c':Cs} (hd:d'.str=λk=>if k=n then some s' else d.str k) (hl:c'.l=c.l.modify i F) (hr:d'.ring=Cs.ringOf d.ring n s'.waits) (hr':c'.ring=Cs.ringOf c.ring n (F (vl c.l n)).waits) (hn:c'.now=c.now) (hsc:zdv d' c') (hcl:c'.client=c.client):Sim d' c':=by
 refine h.stepR hi hF hc hs hd hl (by rw[hr,hr',h.ring,hs.waits]) (by rw[hr];exact zii _ _ _ h.rn) (λx=>by rw[hr];exact zjz _ _ _ x) hn hsc hcl
theorem Sim.step0{d:Ds}{c:Cs}(h:Sim d c){n i:Nat}{s:DS}(hs0:d.str n=some s)(hi:al c.l n=some i){F:St->St}(hF:∀ t,(F t).id=t.id){s':DS}(hw:s'.waits=s.waits)(hc:(F (vl c.l n)).coming=false)(hs:SR c.client n s' (F (vl c.l n)))
  {d':Ds} {c':Cs} (hd:d'.str=λk=>if k=n then some s' else d.str k) (hl:c'.l=c.l.modify i F) (hr:d'.ring=d.ring) (hr':c'.ring=c.ring) (hn:c'.now=c.now) (hsc:zdv d' c') (hcl:c'.client=c.client):Sim d' c':=by
 have e:=h.ring_same hs0;rw[<-hw] at e;exact h.step hi hF hc hs hd hl (by rw[hr,e]) (by rw[hr',<-hs.waits,<-h.ring,e]) hn hsc hcl
theorem Sim.same{d:Ds}{c:Cs}(h:Sim d c){n i:Nat}{s:DS}(hs0:d.str n=some s)(hi:al c.l n=some i){s':DS}(hw:s'.waits=s.waits)(hc:(vl c.l n).coming=false)(hs:SR c.client n s' (vl c.l n))
  {d':Ds} {c':Cs} (hd:d'.str=λk=>if k=n then some s' else d.str k) (hl:c'.l=c.l) (hr:d'.ring=d.ring) (hr':c'.ring=c.ring) (hn:c'.now=c.now) (hsc:zdv d' c') (hcl:c'.client=c.client):Sim d' c':=by
 have e:c.l.modify i id=c.l:=by apply List.ext_getElem?;intro j;rw[List.getElem?_modify];split<;>simp
 exact h.step0 (F:=id) hs0 hi (λ_=>rfl) hw hc hs hd (by rw[hl,e]) hr hr' hn hsc hcl
theorem Sim.add{d:Ds}{c:Cs}(h:Sim d c){t:St}(ht:¬ hl c.l t.id){s':DS}(hc:t.coming=false)(hs:SR c.client t.id s' t)
  {d':Ds} {c':Cs} (hd:d'.str=λk=>if k=t.id then some s' else d.str k) (hl:c'.l=c.l++[t]) (hr:d'.ring=Cs.ringOf d.ring t.id s'.waits) (hr':c'.ring=Cs.ringOf c.ring t.id s'.waits) (hn:c'.now=c.now) (hsc:zdv d' c') (hcl:c'.client=c.client):Sim d' c':=by
 refine⟨hsc,by rw[hr,hr',h.ring],by rw[hr];exact zii _ _ _ h.rn,λk => ?_,λk => ?_⟩
 ·rw[hr,hd,zjz];dsimp only;by_cases e:k=t.id
  ·rw[if_pos e];constructor
   ·rintro (h1|h1)
    ·exact absurd e h1.1
    ·exact⟨s',rfl,h1.2⟩
   ·rintro ⟨s,h1,h2⟩;injection h1 with h1
    subst h1;exact .inr ⟨e,h2⟩
  ·rw[if_neg e,<-h.wr k];constructor
   ·rintro (h1|h1)
    ·exact h1.2
    ·exact absurd h1.1 e
   ·exact λh1 => .inl ⟨e,h1⟩
 ·rw[hl,zlp c.l t ht k,hd,hn,hcl];by_cases e:k=t.id
  ·rw[if_pos e];dsimp only;rw[hc,if_pos e];simp only[Bool.false_eq_true,if_false];rw[e];exact⟨s',rfl,hs⟩
  ·rw[if_neg e];simp only[if_neg e];exact h.str k
theorem Sim.scal{d:Ds}{c:Cs}(h:Sim d c){d':Ds}{c':Cs}(hsc:zdv d' c')(h1:d'.str=d.str)(h2:d'.ring=d.ring)(h3:c'.l=c.l)(h4:c'.ring=c.ring)(h5:c'.now=c.now)(h6:c'.client=c.client):Sim d' c' :=
 ⟨hsc,by rw[h2,h4];exact h.ring,by rw[h2];exact h.rn,by rw[h1,h2];exact h.wr,by rw[h1,h3,h5,h6];exact h.str⟩
def Ids(c:Cs):Prop:=∀ s,hl c.l s->1<=s/\(if ownB c.client s then s<=c.own else s<=c.peer)
theorem zst(d:Ds)(c:Cs)(hcl:d.client=c.client)(n:Nat):d.side (n:Int)=if 0<n then some (ownB c.client n) else none:=by
 unfold Ds.side ownB;rw[hcl];have e:((n:Int)%2 == 1)=(n%2 == 1):=by rw[Bool.eq_iff_iff];simp only[beq_iff_eq];omega
 rw[e];by_cases h:0<n
 ·rw[if_pos h,if_pos (by omega)]
 ·rw[if_neg h,if_neg (by omega)]
theorem zzbah(d:Ds)(c:Cs)(h:zdv d c)(m:Bool):d.last m=if m then c.own else c.peer:=by unfold Ds.last;rw[h.mL,h.tL]
theorem zzbib(d:Ds)(c:Cs)(h:zdv d c)(n:Nat):d.known (n:Int)=c.known (n:Int):=by
 unfold Ds.known Cs.known;rw[zst d c h.cl n];by_cases h0:0<n
 ·rw[if_pos h0];dsimp only;rw[zzbah d c h];have e:c.owns (n:Int).toNat=ownB c.client n:=rfl;rw[e]
  have:decide ((1:Int)<=(n:Int))=true:=by simp;omega
  rw[this];cases ownB c.client n<;>simp
 ·rw[if_neg h0]
  have:decide ((1:Int)<=(n:Int))=false:=by simp;omega
  rw[this];rfl
theorem Ids.known{c:Cs}(h:Ids c){n:Nat}(hn:hl c.l n):c.known (n:Int)=true:=by
 obtain⟨h1,h2⟩:=h n hn;unfold Cs.known;have e:c.owns (n:Int).toNat=ownB c.client n:=rfl;rw[e]
 have:decide ((1:Int)<=(n:Int))=true:=by simp;omega
 rw[this];cases ho:ownB c.client n<;>rw[ho] at h2<;>simpa using h2
theorem zur(d:Ds)(n:Nat)(h:d.str n=none):d.find (n:Int)=if d.known (n:Int) then { state:=8 } else {}:=by
 have hr:d.real (n:Int)=none:=by
  unfold Ds.real;cases d.side (n:Int) with
  | none=>rfl
  | some m =>
   dsimp only;split
   ·unfold Ds.held;rw[show (n:Int).toNat=n from rfl,h]
   ·rfl
 unfold Ds.find;rw[hr]
theorem Sim.find{d:Ds}{c:Cs}(h:Sim d c)(hids:Ids c)(n:Nat) :
  (c.known (n:Int)=false/\d.find (n:Int) = {})\/(c.known (n:Int)=true/\d.find (n:Int) = { state:=8 }/\(al c.l n=none \/ ∃ i,al c.l n=some i/\((vl c.l n).coming=true\/(vl c.l n).coming=false/\(vl c.l n).reset=true/\(vl c.l n).code=0/\(vl c.l n).headers=[]))) \/
  (c.known (n:Int)=true /\ ∃ i s,al c.l n=some i/\d.find (n:Int)=s/\d.str n=some s/\(vl c.l n).coming=false/\SR c.client n s (vl c.l n)):=by
 have hk:=zzbib d c h.sc n;cases hi:al c.l n with
 | none =>
  have hs:d.str n=none:=by
   have:=h.str n
   rw[zhu c.l n hi] at this;exact this
  rw[zur d n hs,hk];cases c.known (n:Int)
  ·exact .inl ⟨rfl,rfl⟩
  ·exact .inr (.inl ⟨rfl,rfl,.inl rfl⟩)
 | some i =>
  have hkn:=hids.known (zem c.l n i hi);right;cases hc:(vl c.l n).coming with
  | true =>
   left;have hs:d.str n=none:=by
    have:=h.str n
    rw[(zcs c.l n i hi).2.1,<-zdg c.l n i hi] at this;dsimp only at this;rw[hc] at this;exact this.1
   rw[zur d n hs,hk,hkn];exact⟨rfl,rfl,.inr ⟨i,rfl,.inl rfl⟩⟩
  | false =>
   obtain⟨s,hs,hr⟩:=h.at hi hc;have hid:=hids n (zem c.l n i hi);have hreal:d.real (n:Int)=if s.kept then some s else none:=by unfold Ds.real;rw[zst d c h.sc.cl n,if_pos (by omega)];dsimp only;rw[zzbah d c h.sc,if_pos (by cases ho:ownB c.client n<;>rw[ho] at hid<;>simpa using hid.2)];unfold Ds.held;rw[show (n:Int).toNat=n from rfl,hs];dsimp only;rw[hr.mine];simp
   cases hkp:s.kept with
   | true =>
    right;refine⟨hkn,i,s,rfl,?_,hs,rfl,hr⟩;unfold Ds.find;rw[hreal,hkp];rfl
   | false =>
    left;have hk8:=hr.kept;rw[hkp] at hk8;have h8:s.state=8/\s.headers=[]:=by simpa using hk8
    refine⟨hkn,?_,.inr ⟨i,rfl,.inr ⟨rfl,?_⟩⟩⟩
    ·unfold Ds.find;rw[hreal,hkp,hk,hkn];rfl
    ·cases hrs:(vl c.l n).reset with
     | false =>
      obtain⟨h1,-⟩:=hr.live hrs;exfalso;rw[h8.1] at h1;revert h1;cases (vl c.l n).mine<;>cases (vl c.l n).theirs<;>simp
     | true=>exact⟨rfl,(hr.dead hrs).2.2.1.1 h8.1,by rw[hr.hd];exact h8.2⟩
variable {d:Ds} {c:Cs}
theorem zdv.bump(h:zdv d c)(m:Bool)(k:Int):zdv (d.bump m k) c:=by
 cases m
 ·exact { h with }
 ·exact { h with }
theorem zxe(d:Ds)(m:Bool)(k:Int):(d.bump m k).str=d.str/\(d.bump m k).ring=d.ring:=by
 cases m<;>exact⟨rfl,rfl⟩
theorem Sim.unwritable(h:Sim d c)(hids:Ids c)(n:Nat):d.unwritable (d.find (n:Int))=c.writes (n:Int):=by
 unfold Ds.unwritable Cs.writes;rw[h.sc.fl,h.sc.cf,zcw];rcases h.find hids n with ⟨h1,h2⟩ | ⟨h1,h2,h3⟩ | ⟨h1,i,s,h2,h3,h4,h5,h6⟩
 ·rw[h1,h2];rfl
 ·rw[h1,h2];rcases h3 with h3 | ⟨i,h3,h4⟩
  ·rw[h3];rfl
  ·rw[h3];have hg:(c.st i).gone=true:=by
    rw[zca c n i h3];unfold St.gone;rcases h4 with h4 | ⟨-,h4,-⟩<;>simp[h4]
   simp[hg,zbx]
 ·rw[h1,h3,h2];simp only[zca c n i h2,St.gone,h5,h6.isReset,Bool.or_false];simp only[h6.state_pos,if_false,Bool.true_eq_false,Bool.false_eq_true];cases hr:(vl c.l n).reset
  ·rw[(h6.live hr).2.2]
  ·rfl
theorem zzbic(d:Ds)(n:Nat)(s:DS)(hs:d.str n=some s):d.str=λk=>if k=n then some s else d.str k:=by
 funext k
 split
 ·rename_i e;rw[e,hs]
 ·rfl
theorem Sim.write(h:Sim d c){n i:Nat}{s:DS}(hi:al c.l n=some i)(hc:(vl c.l n).coming=false)(hs:d.str n=some s)(hr:SR c.client n s (vl c.l n))(hre:(vl c.l n).reset=false)(data:Bytes):Sim (d.write s data) (c.write i data):=by
 unfold Cs.write;rw[zky c n i (λs => { s with bytes:=s.bytes++data.take (256-s.bytes.length) }) (λ_=>rfl) hi];have hs':SR c.client n { s with data:=s.data++data.take (Ds.room s data) } { vl c.l n with bytes:=(vl c.l n).bytes++data.take (256-(vl c.l n).bytes.length) }:=by
  refine { hr with da:=?_,dead:=λh1=>absurd h1 (by dsimp only;rw[hre];simp) };dsimp only;rw[hr.da];unfold Ds.room;congr 1;by_cases hle:data.length<=256-s.data.length
  ·rw[Nat.min_eq_left hle,List.take_of_length_le hle,List.take_of_length_le (Nat.le_refl _)]
  ·rw[Nat.min_eq_right (by omega)]
 unfold Ds.write;by_cases h0:Ds.room s data=0
 ·rw[if_pos h0];rw[h0,List.take_zero,List.append_nil] at hs';exact h.step hi (F:=λs => { s with bytes:=s.bytes++data.take (256-s.bytes.length) }) (λ_=>rfl) hc hs' (zzbic d n s hs) rfl (h.ring_same hs).symm rfl rfl { h.sc with } rfl
 ·rw[if_neg h0,zhk];have hw:({ s with data:=s.data++data.take (Ds.room s data) }:DS).waits=true:=by
   unfold DS.waits
   have:0<(s.data++data.take (Ds.room s data)).length:=by rw[List.length_append,List.length_take];unfold Ds.room at h0 ⊢;omega
   simp only[this,decide_true,Bool.or_true,Bool.true_or]
  refine h.step hi (F:=λs => { s with bytes:=s.bytes++data.take (256-s.bytes.length) }) (λ_=>rfl) hc hs' ?_ rfl ?_ rfl rfl { h.sc with } rfl
  ·show (d.setS s.id _).str=_
   rw[hr.id];rfl
  ·rw[hw,hr.id];rfl
theorem Sim.endIt(h:Sim d c){n i:Nat}{s:DS}(hi:al c.l n=some i)(hc:(vl c.l n).coming=false)(hr:SR c.client n s (vl c.l n))(hre:(vl c.l n).reset=false)(hm:(vl c.l n).mine=false):Sim (d.endIt s) (c.ended i):=by
 unfold Cs.ended;rw[zky c n i (λs => { s with ending:=true }) (λ_=>rfl) hi];have hs':SR c.client n { s with ends:=true } { vl c.l n with ending:=true }:=by refine { hr with live:=λh1 => ?_,dead:=λh1=>absurd h1 (by dsimp only;rw[hre];simp) };obtain⟨a1,a2,-⟩:=hr.live hre;exact⟨a1,a2,rfl⟩
 unfold Ds.endIt;rw[zhk];have hw:({ s with ends:=true }:DS).waits=true:=by rw[hs'.waits];unfold St.waits;simp[hm]
 refine h.step hi (F:=λs => { s with ending:=true }) (λ_=>rfl) hc hs' ?_ rfl ?_ rfl rfl { h.sc with } rfl
 ·show (d.setS s.id _).str=_
  rw[hr.id];rfl
 ·rw[hw,hr.id];rfl
theorem SR.isEnded{cl:Bool}{n:Nat}{s:DS}{t:St}(h:SR cl n s t)(hr:t.reset=false):zce s.state=t.theirs:=by obtain⟨h1,-⟩:=h.live hr;rw[h1];cases t.mine<;>cases t.theirs<;>simp[zce]
theorem SR.isSends{cl:Bool}{n:Nat}{s:DS}{t:St}(h:SR cl n s t):zaw s.state = !(t.reset || t.mine):=by
 cases hr:t.reset
 ·obtain⟨h1,-⟩:=h.live hr;rw[h1];cases t.mine<;>cases t.theirs<;>simp[zaw]
 ·obtain⟨h1,h2,-⟩:=h.dead hr;unfold zaw;simp;omega
theorem Sim.read?(h:Sim d c)(hids:Ids c)(n:Nat)(most:Int):Ds.read? (d.find (n:Int)) most=c.read? (n:Int) most:=by
 unfold Ds.read? Cs.read?;rw[zcw];rcases h.find hids n with ⟨h1,h2⟩ | ⟨h1,h2,h3⟩ | ⟨h1,i,s,h2,h3,h4,h5,h6⟩
 ·rw[h1,h2];rfl
 ·rw[h1,h2];rcases h3 with h3 | ⟨i,h3,h4⟩
  ·rw[h3];rfl
  ·rw[h3];have hg:(c.st i).gone=true:=by
    rw[zca c n i h3];unfold St.gone;rcases h4 with h4 | ⟨-,h4,-⟩<;>simp[h4]
   simp[hg,zbx]
 ·rw[h1,h3,h2];simp only[zca c n i h2,St.gone,h5,h6.isReset,Bool.or_false];simp only[h6.state_pos,if_false,Bool.true_eq_false];cases hr:(vl c.l n).reset
  ·rw[h6.isEnded hr,h6.un]
  ·rfl
theorem zis(id n:Nat):(wfs id n).map Fr.enc=if 0<n then [frame 7 0 id (two n)] else []:=by unfold wfs;split<;>rfl
theorem zsu(c:Cs){n i:Nat}(hi:al c.l n=some i)(hf:c.failed=false)(most:Nat):c.read i most = { c with l:=c.l.modify i (λt => { t with unread:=t.unread.drop (c.readN i most),recv:=if (vl c.l n).theirs then t.recv else t.recv+c.readN i most }),control:=c.control++((if (vl c.l n).theirs then [] else wfs n (c.readN i most))++wfs 0 (c.readN i most)).map Fr.enc,recv:=c.recv+c.readN i most }:=by
 unfold Cs.read;dsimp only;rw[zca c n i hi,if_neg (by rw[hf];simp)];cases ht:(vl c.l n).theirs with
 | true =>
  rw[if_pos rfl,zdh];rfl
 | false =>
  rw[if_neg (by simp),zdh,zdh];have ei:(vl c.l n).id=n:=zgt _ _;rw[ei]
  show Cs.mk _ _ _ _ _ ((c.l.modify i _).modify i _) _ _ _ ((c.control++_)++_) _ _ _ _ _ _ _ _ _ _=_
  rw[List.modify_modify_eq,List.append_assoc,<-List.map_append];rfl
theorem zzbkb(d:Ds)(s:DS)(k:Nat)(hf:d.failed=false):(d.read s k).str=(λx=>if x=s.id then some { s with unread:=s.unread.drop k,to_:=if zce s.state then s.to_ else s.to_+k } else d.str x)/\(d.read s k).ring=d.ring/\(d.read s k).ctl=d.ctl++(if k=0 then [] else if zce s.state then [(7,0,0,two k)] else [(7,0,s.id,two k),(7,0,0,two k)])/\(d.read s k).to_=d.to_+k:=by
 unfold Ds.read;dsimp only;rw[hf];by_cases h0:k=0
 ·subst h0;rw[if_pos (.inl rfl),if_pos rfl];refine⟨?_,rfl,(List.append_nil _).symm,by show d.to_=_;omega⟩
  have:(if zce s.state then s.to_ else s.to_+((0:Nat):Int))=s.to_:=by split<;>omega
  rw[this];rfl
 ·rw[if_neg (by rintro (h1 | h1)<;>simp_all),if_neg h0];cases zce s.state with
  | true=>exact⟨rfl,rfl,rfl,rfl⟩
  | false =>
   refine⟨?_,rfl,?_,rfl⟩
   ·funext x
    show (if x=s.id then _ else if x=s.id then _ else d.str x)=_
    split<;>rfl
   ·show (d.ctl++[_])++[_]=_
    rw[List.append_assoc];rfl
theorem zzbfo(d:Ds)(c:Cs)(s:DS)(k:Nat)(h:zdv d c){c':Cs}(hc:zdv { d with ctl:=(d.read s k).ctl,to_:=(d.read s k).to_ } c'):zdv (d.read s k) c':=by
 have hf:=h.fl;revert hc;unfold Ds.read;dsimp only;rw[hf];by_cases h0:k=0
 ·rw[if_pos (.inl h0)];exact λhc => { hc with fl:=h.fl }
 ·rw[if_neg (by rintro (h1 | h1)<;>simp_all)];cases zce s.state with
  | true=>exact λhc => { hc with fl:=h.fl }
  | false=>exact λhc => { hc with fl:=h.fl }
theorem Sim.read(h:Sim d c){n i:Nat}{s:DS}(hi:al c.l n=some i)(hc:(vl c.l n).coming=false)(hs:d.str n=some s)(hr:SR c.client n s (vl c.l n))(hre:(vl c.l n).reset=false)(most:Nat):Sim (d.read s (c.readN i most)) (c.read i most):=by
 obtain⟨r1,r2,r3,r4⟩:=zzbkb d s (c.readN i most) h.sc.fl;have sc:=zzbfo d c s (c.readN i most) h.sc (c':=c.read i most);rw[zsu c hi h.sc.cf most] at sc ⊢;generalize c.readN i most=k at *;refine h.step0 hs hi (F:=λt => { t with unread:=t.unread.drop k,recv:=if (vl c.l n).theirs then t.recv else t.recv+k }) (s':={ s with unread:=s.unread.drop k,to_:=if zce s.state then s.to_ else s.to_+k }) (λ_=>rfl) rfl hc ?_ (by rw[r1,hr.id]) rfl r2 rfl rfl (sc ?_) rfl
 ·refine { hr with un:=?_,to:=?_,dead:=λh1=>absurd h1 (by dsimp only;rw[hre];simp) }
  ·dsimp only;rw[hr.isEnded hre,hr.to];cases (vl c.l n).theirs
   ·show _=(((vl c.l n).recv+k:Nat):Int)
    simp
   ·rfl
  ·dsimp only;rw[hr.un]
 ·refine { h.sc with ctl:=?_,to:=?_ }
  ·show (d.read s k).to_=((c.recv+k:Nat):Int)
   rw[r4,h.sc.to];omega
  ·show c.control++List.map Fr.enc _=List.map _ (d.read s k).ctl
   rw[r3,List.map_append,List.map_append,<-h.sc.ctl,hr.isEnded hre,hr.id,zis];congr 1;by_cases h0:k=0
   ·subst h0;rw[if_pos rfl];cases (vl c.l n).theirs<;>rfl
   ·have hp:0<k:=by omega
    rw[if_neg h0];cases (vl c.l n).theirs
    ·show List.map Fr.enc (wfs n k)++(if 0<k then _ else _)=_
     rw[zis,if_pos hp,if_pos hp];rfl
    ·show List.map Fr.enc []++(if 0<k then _ else _)=_
     rw[if_pos hp];rfl
theorem znu(c:Cs){n i:Nat}(hi:al c.l n=some i)(code:Nat):c.drops i code = { c with l:=c.l.modify i (λs => { s with unread:=[],reset:=true,head:=[],bytes:=[],ending:=false,code:=code }),ring:=Cs.ringOf c.ring n ({ vl c.l n with unread:=[],reset:=true,head:=[],bytes:=[],ending:=false,code:=code }:St).waits,control:=c.control++(wfs 0 (vl c.l n).unread.length).map Fr.enc,recv:=c.recv+(vl c.l n).unread.length }:=by unfold Cs.drops;dsimp only;rw[zky c n i (λs => { s with unread:=[],reset:=true,head:=[],bytes:=[],ending:=false,code:=code }) (λ_=>rfl) hi,zdh,zca c n i hi]
theorem zzbkc(d:Ds)(s:DS):d.drop s = { d with str:=λk=>if k=s.id then some { s with block:=[],data:=[],unread:=[] } else d.str k,ring:=Cs.ringOf d.ring s.id ({ s with block:=[],data:=[],unread:=[] }:DS).waits,to_:=d.to_+s.unread.length,ctl:=d.ctl++(if 0<s.unread.length then [(7,0,0,two s.unread.length)] else []) }:=by
 unfold Ds.drop;dsimp only;rw[znt];by_cases h0:0<s.unread.length
 ·rw[if_pos h0,if_pos h0]
  show Ds.mk _ _ _ _ _ _ _ _ _ _ _ _ _ _ _ _ _ _ (λk=>if k=s.id then _ else if k=s.id then _ else d.str k)=_
  have:(λk=>if k=s.id then some ({ s with block:=[],data:=[],unread:=[] }:DS) else if k=s.id then some { s with block:=[],data:=[] } else d.str k)=λk=>if k=s.id then some { s with block:=[],data:=[],unread:=[] } else d.str k:=by funext k;split<;>rfl
  rw[this];rfl
 ·rw[if_neg h0,if_neg h0];have hu:s.unread=[]:=List.eq_nil_of_length_eq_zero (by omega);have e:({ s with block:=[],data:=[],unread:=[] }:DS) = { s with block:=[],data:=[] }:=by rw[<-hu]
  rw[e,hu,List.append_nil]
  show _=Ds.mk _ _ _ _ _ _ _ _ (d.to_+((0:Nat):Int)) _ _ _ _ _ _ _ _ _ _
  have:d.to_+((0:Nat):Int)=d.to_:=by omega
  rw[this];rfl
theorem Sim.drops(h:Sim d c){n i:Nat}{s:DS}(hi:al c.l n=some i)(hc:(vl c.l n).coming=false)(hr:SR c.client n s (vl c.l n))(hre:(vl c.l n).reset=false)(to code k:Nat)(h5:5<=to)(h8:to<=8)(ht:to=8↔code=0)(hk:to≠8->code=k)
  {d1:Ds} (hd:zdv d1 c) (hstr:d1.str=d.str) (hring:d1.ring=d.ring):Sim ((d1.move { s with code:=k } to).drop (Ds.moved { s with code:=k } to)) (c.drops i code):=by
 rw[zzbkc,znu c hi];have hkp:s.kept=true:=by
  rw[hr.kept];have h4:s.state≠8:=by obtain⟨h1,-⟩:=hr.live hre;rw[h1];cases (vl c.l n).mine<;>cases (vl c.l n).theirs<;>simp
  simp[h4]
 have hs':SR c.client n { Ds.moved { s with code:=k } to with block:=[],data:=[],unread:=[] } { vl c.l n with unread:=[],reset:=true,head:=[],bytes:=[],ending:=false,code:=code }:=by
  refine⟨hr.id,hr.mine,hr.hd,hr.fr,hr.to,rfl,rfl,rfl,λh1=>(by cases h1),λ_=>⟨h5,h8,ht,λh1=>hk h1,rfl,rfl,rfl,rfl⟩,?_,hr.oh⟩
  show (s.kept && !(to == 8 && s.headers.isEmpty))=_
  rw[hkp];rfl
 have hid:(Ds.moved { s with code:=k } to).id=n:=hr.id;rw[hid];obtain⟨b1,b2⟩:=zxe d1 s.mine (Ds.shift { s with code:=k } to);have hS:=hd.bump s.mine (Ds.shift { s with code:=k } to);refine h.step hi (F:=λs => { s with unread:=[],reset:=true,head:=[],bytes:=[],ending:=false,code:=code }) (λ_=>rfl) hc hs' ?_ rfl ?_ rfl rfl ?_ rfl
 ·show (λx=>if x=n then _ else if x=s.id then _ else (d1.bump s.mine _).str x)=_
  rw[b1,hstr,hr.id];funext x
  split<;>rfl
 ·show Cs.ringOf (d1.bump s.mine _).ring n _=_
  rw[b2,hring];rfl
 ·refine { hS with ctl:=?_,to:=?_ }
  ·show (d1.bump s.mine _).to_+(s.unread.length:Int)=((c.recv+(vl c.l n).unread.length:Nat):Int)
   rw[hS.to,hr.un];omega
  ·show c.control++(wfs 0 (vl c.l n).unread.length).map Fr.enc=((d1.bump s.mine _).ctl++(if 0<s.unread.length then [(7,0,0,two s.unread.length)] else [])).map _
   rw[zis,List.map_append,<-hS.ctl,hr.un];congr 1;split<;>rfl
theorem Sim.asked(h:Sim d c):Sim d.asked c.asked:=h.scal { h.sc with ev:=rfl } rfl rfl rfl rfl rfl rfl
theorem Sim.next(h:Sim d c):d.next=c.next:=by unfold Ds.next Cs.next;rw[h.sc.mL,h.sc.cl]
theorem Sim.opened(h:Sim d c)(hd:zal)(hp:zbi hd=true)(hn:¬ hl c.l c.next)(ho:ownB c.client c.next=true):Sim (d.opened hd) (c.opened hd):=by
 rw[zls c hd hp];have hb:=znr hd hp;have hs':SR c.client c.next { Ds.begun c.next true with block:=zah hd } { id:=c.next,head:=Cs.heads c.next (zah hd) }:=by
  refine⟨rfl,ho.symm,rfl,rfl,rfl,rfl,rfl,?_,λ_=>⟨rfl,rfl,rfl⟩,λh1=>(by cases h1),rfl,λ_=>rfl⟩
  show _=if zah hd=[] then [] else _
  rw[if_neg hb]
 have hw:({ Ds.begun c.next true with block:=zah hd }:DS).waits=true:=by unfold DS.waits;simp[hb]
 unfold Ds.opened;dsimp only;rw[h.next,zhk];refine h.add (t:={ id:=c.next,head:=Cs.heads c.next (zah hd) }) hn rfl hs' rfl rfl (by rw[hw];rfl) (by rw[hw]) rfl { h.sc with mL:=rfl } rfl
theorem Sim.headers?(h:Sim d c)(n:Nat)(hco:(vl c.l n).coming=true->(vl c.l n).headers=[]):d.headers? (n:Int)=c.headers? (n:Int):=by
 unfold Ds.headers? Cs.headers?;rw[if_pos (by omega),zcw,show (n:Int).toNat=n from rfl];unfold Ds.held
 have:=h.str n
 cases hi:al c.l n with
 | none =>
  rw[zhu c.l n hi] at this;rw[this];rfl
 | some i =>
  rw[(zcs c.l n i hi).2.1,<-zdg c.l n i hi] at this;dsimp only at this ⊢;rw[Option.bind_some,zca c n i hi];cases hc:(vl c.l n).coming with
  | true =>
   rw[hc] at this;rw[this.1,hco hc];rfl
  | false =>
   rw[hc] at this;obtain⟨s,hs,hr⟩:∃ s,d.str n=some s/\SR c.client n s (vl c.l n):=by simpa using this
   rw[hs];dsimp only;rw[hr.hd,hr.mine];cases ho:ownB c.client n with
   | true=>rw[hr.oh ho];cases s.kept<;>rfl
   | false =>
    by_cases he:s.headers=[]
    ·rw[he];cases s.kept<;>simp[he]
    ·have hk:s.kept=true:=by rw[hr.kept];simp[he]
     have hl0:¬ s.headers.length=0:=λe=>he (List.eq_nil_of_length_eq_zero e);rw[hk];simp[he]
end Go.Proofs.YtoijpogadkogcaaGreat
