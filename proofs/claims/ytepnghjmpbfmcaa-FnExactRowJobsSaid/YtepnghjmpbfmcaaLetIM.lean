/-
  Chapter 11: a message in a row, as mathematics: what the program's decoding gives, and that the model's decoding of each kind is the same.
-/
import Derived.Test.YtepnghjmpbfmcaaLetM
import Derived.Test.YtepnghjmpbfmcaaLetK
namespace Go.Proofs.Ytepnghjmpbfmcaa
set_option maxRecDepth 100000
open Go.RowKit

theorem numOk_iff (x : Int) : numOk x = true ↔ 0 ≤ x ∧ x ≤ 1000000000 := by
  unfold numOk
  rw [Bool.and_eq_true, decide_eq_true_eq, decide_eq_true_eq]
theorem getD_drop (d : List Int) (a i : Nat) : (d.drop a).getD i 0 = d.getD (a + i) 0 := by simp [List.getD, List.getElem?_drop]
theorem opB_numL {o : OpM} (h : opB o = true) : (0 ≤ o.kind ∧ o.kind ≤ 1000000) ∧ (0 ≤ o.a ∧ o.a ≤ 1000000) ∧ (0 ≤ o.b ∧ o.b ≤ 1000000) ∧ (0 ≤ o.c ∧ o.c ≤ 1000000) ∧ (0 ≤ o.d ∧ o.d ≤ 1000000) := by
  have hk := opB_kind h
  unfold opB at h
  split at h
  · simp only [Bool.and_eq_true, inB_iff, decide_eq_true_eq] at h; omega
  · split at h
    · simp only [Bool.and_eq_true, inB_iff, decide_eq_true_eq] at h; omega
    · split at h
      · simp only [Bool.and_eq_true, inB_iff] at h; omega
      · split at h
        · simp only [Bool.and_eq_true, inB_iff, decide_eq_true_eq] at h; omega
        · split at h
          · simp only [Bool.and_eq_true, inB_iff, decide_eq_true_eq] at h; omega
          · cases h
theorem ent_num {r : List Int} (h : entB (ofEnt r) = true) (i : Nat) (hi : i < 9) : numOk (r.getD i 0) = true := by
  obtain ⟨h0, h1, h2, h3, h4⟩ := (entB_iff _).1 h
  obtain ⟨k0, k1, k2, k3, k4⟩ := opB_numL h4
  simp only [EntM.op, ofEnt] at h0 h1 h2 h3 k0 k1 k2 k3 k4
  rw [numOk_iff]
  have : i = 0 ∨ i = 1 ∨ i = 2 ∨ i = 3 ∨ i = 4 ∨ i = 5 ∨ i = 6 ∨ i = 7 ∨ i = 8 := by omega
  rcases this with rfl | rfl | rfl | rfl | rfl | rfl | rfl | rfl | rfl <;> omega
theorem ask_row {d : List Int} (hl : d.length = 8) (h0 : d.getD 0 0 = 1) (h : askOkB (ofAsk d) = true) : rowOk d = true := by
  unfold askOkB askB at h
  simp only [Bool.and_eq_true, inB_iff] at h
  obtain ⟨h1, h2, h3⟩ := h
  obtain ⟨k0, k1, k2, k3, k4⟩ := opB_numL h3
  simp only [AskM.op, ofAsk] at h1 h2 k0 k1 k2 k3 k4
  refine rowOk_end (by omega) fun i hi => ?_
  rw [numOk_iff]
  have : i = 0 ∨ i = 1 ∨ i = 2 ∨ i = 3 ∨ i = 4 ∨ i = 5 ∨ i = 6 ∨ i = 7 := by omega
  rcases this with rfl | rfl | rfl | rfl | rfl | rfl | rfl | rfl <;> omega
theorem ack_row {d : List Int} (hl : d.length = 5) (h0 : d.getD 0 0 = 2) (h : ackOkB (ofAck d) = true) : rowOk d = true := by
  unfold ackOkB askB at h
  simp only [Bool.and_eq_true, inB_iff] at h
  obtain ⟨h1, h2, h3, h4⟩ := h
  have h5 : 0 ≤ (ofAck d).ix ∧ (ofAck d).ix ≤ 2000 := by
    split at h4
    · simp only [decide_eq_true_eq] at h4; omega
    · simp only [inB_iff] at h4; omega
  simp only [ofAck] at h1 h2 h3 h5
  refine rowOk_end (by omega) fun i hi => ?_
  rw [numOk_iff]
  have : i = 0 ∨ i = 1 ∨ i = 2 ∨ i = 3 ∨ i = 4 := by omega
  rcases this with rfl | rfl | rfl | rfl | rfl <;> omega
theorem read_row {d : List Int} (hl : d.length = 5) (h0 : d.getD 0 0 = 6) (h : readOkB (ofRead d) = true) : rowOk d = true := by
  unfold readOkB askB at h
  simp only [Bool.and_eq_true, inB_iff] at h
  obtain ⟨h1, h2, h3, h4⟩ := h
  simp only [ofRead] at h1 h2 h3 h4
  refine rowOk_end (by omega) fun i hi => ?_
  rw [numOk_iff]
  have : i = 0 ∨ i = 1 ∨ i = 2 ∨ i = 3 ∨ i = 4 := by omega
  rcases this with rfl | rfl | rfl | rfl | rfl <;> omega
theorem value_row {d : List Int} (hl : d.length = 6) (h0 : d.getD 0 0 = 7) (h : valueOkB (ofValue d) = true) : rowOk d = true := by
  unfold valueOkB askB at h
  simp only [Bool.and_eq_true, inB_iff] at h
  obtain ⟨h1, h2, h3, h4, h5, _⟩ := h
  simp only [ofValue] at h1 h2 h3 h4 h5
  refine rowOk_end (by omega) fun i hi => ?_
  rw [numOk_iff]
  have : i = 0 ∨ i = 1 ∨ i = 2 ∨ i = 3 ∨ i = 4 ∨ i = 5 := by omega
  rcases this with rfl | rfl | rfl | rfl | rfl | rfl <;> omega
theorem one_row {d : List Int} {k lo hi : Int} (hl : d.length = 2) (h0 : d.getD 0 0 = k) (hk : 1 ≤ k ∧ k ≤ 9) (h : inB (d.getD 1 0) lo hi = true) (h1 : 0 ≤ lo) (h2 : hi ≤ 3000) : rowOk d = true := by
  rw [inB_iff] at h
  refine rowOk_end (by omega) fun i hi' => ?_
  rw [numOk_iff]
  have : i = 0 ∨ i = 1 := by omega
  rcases this with rfl | rfl <;> omega
theorem entsFrom_at {d : List Int} {k j : Nat} (hj : j < (entsFrom d k).length) : (entsFrom d k)[j] = ofEnt (d.drop (9 * j)) := by simp [entsFrom]
theorem duesFrom_at {d : List Int} {k j : Nat} (hj : j < (duesFrom d k).length) : (duesFrom d k)[j] = dueOf (d.drop (2 * j)) := by simp [duesFrom]
theorem feed_row {d : List Int} (h3 : 3 ≤ d.length) (hm : d.length % 9 = 3) (h0 : d.getD 0 0 = 4) (h : feedOkB (ofFeed d) = true) : rowOk d = true := by
  obtain ⟨h1, h2, hn, he, _⟩ := (feedOkB_iff _).1 h
  have hlen : (ofFeed d).ents.length = (d.length - 3) / 9 := entsFrom_len _ _
  have hb : (ofFeed d).base = d.getD 1 0 := rfl
  have hl : (ofFeed d).last = d.getD 2 0 := rfl
  refine rowOk_end (by omega) fun i hi => ?_
  by_cases c3 : i < 3
  · rw [numOk_iff]
    have : i = 0 ∨ i = 1 ∨ i = 2 := by omega
    rcases this with rfl | rfl | rfl <;> omega
  · have hq : (i - 3) / 9 < (ofFeed d).ents.length := by omega
    have he2 := ((entsB_iff _).1 he).2 _ hq
    rw [entsAt_eq hq, Bool.and_eq_true] at he2
    have e1 : (ofFeed d).ents[(i - 3) / 9] = ofEnt ((d.drop 3).drop (9 * ((i - 3) / 9))) := entsFrom_at _
    rw [e1] at he2
    have := ent_num he2.1 ((i - 3) % 9) (by omega)
    rw [getD_drop, getD_drop] at this
    have e2 : 3 + (9 * ((i - 3) / 9) + (i - 3) % 9) = i := by omega
    rwa [e2] at this
theorem jobs_row {d : List Int} (h3 : 6 ≤ d.length) (hm : d.length % 2 = 0) (h0 : d.getD 0 0 = 9) (h : jobsOkB (ofJobs d) = true) : rowOk d = true := by
  obtain ⟨h1, h2, hh, h4, h5, he⟩ := (jobsOkB_iff _).1 h
  have h3' : 0 ≤ (ofJobs d).ho ∧ (ofJobs d).ho ≤ 3 := by
    rcases hh with hh | hh
    · omega
    · have := (schedB_iff _).1 hh; omega
  have hlen : (ofJobs d).open_.length = (d.length - 6) / 2 := duesFrom_len _ _
  have hn := openB_len he
  have g1 : (ofJobs d).ix = d.getD 1 0 := rfl
  have g2 : (ofJobs d).tm = d.getD 2 0 := rfl
  have g3 : (ofJobs d).ho = d.getD 3 0 := rfl
  have g4 : (ofJobs d).ep = d.getD 4 0 := rfl
  have g5 : (ofJobs d).un = d.getD 5 0 := rfl
  refine rowOk_end (by omega) fun i hi => ?_
  by_cases c3 : i < 6
  · rw [numOk_iff]
    have : i = 0 ∨ i = 1 ∨ i = 2 ∨ i = 3 ∨ i = 4 ∨ i = 5 := by omega
    rcases this with rfl | rfl | rfl | rfl | rfl | rfl <;> omega
  · have hq : (i - 6) / 2 < (ofJobs d).open_.length := by omega
    have he2 := openB_due he hq
    have e1 : (ofJobs d).open_[(i - 6) / 2] = dueOf ((d.drop 6).drop (2 * ((i - 6) / 2))) := duesFrom_at _
    rw [e1] at he2
    unfold dueB dueOf at he2
    simp only [Bool.and_eq_true, inB_iff, getD_drop] at he2
    rw [numOk_iff]
    have : (i - 6) % 2 = 0 ∨ (i - 6) % 2 = 1 := by omega
    rcases this with hp | hp
    · have e2 : 6 + (2 * ((i - 6) / 2) + 0) = i := by omega
      rw [e2] at he2
      omega
    · have e2 : 6 + (2 * ((i - 6) / 2) + 1) = i := by omega
      rw [e2] at he2
      omega

/-- The message that a row is, if it is one. -/
def letInM (d : List Int) : Option LetM :=
  if kindM d = 1 then (if d.length = 8 ∧ askOkB (ofAsk d) = true then some (.ask (ofAsk d)) else none)
  else if kindM d = 2 then (if d.length = 5 ∧ ackOkB (ofAck d) = true then some (.ack (ofAck d)) else none)
  else if kindM d = 3 then (if d.length = 2 ∧ inB (d.getD 1 0) 1 2001 = true then some (.fetch (d.getD 1 0)) else none)
  else if kindM d = 4 then (if (3 ≤ d.length ∧ d.length % 9 = 3) ∧ feedOkB (ofFeed d) = true then some (.feed (ofFeed d)) else none)
  else if kindM d = 5 then (if d.length = 2 ∧ inB (d.getD 1 0) 1 2000 = true then some (.trim (d.getD 1 0)) else none)
  else if kindM d = 6 then (if d.length = 5 ∧ readOkB (ofRead d) = true then some (.read (ofRead d)) else none)
  else if kindM d = 7 then (if d.length = 6 ∧ valueOkB (ofValue d) = true then some (.value (ofValue d)) else none)
  else if kindM d = 8 then (if d.length = 2 ∧ schedB (d.getD 1 0) = true then some (.poll (d.getD 1 0)) else none)
  else if kindM d = 9 then (if (6 ≤ d.length ∧ d.length % 2 = 0) ∧ jobsOkB (ofJobs d) = true then some (.jobs (ofJobs d)) else none)
  else none
theorem kindM_head {d : List Int} {k : Int} (h : kindM d = k) (hk : k ≠ 0) : d.getD 0 0 = k ∧ 0 < d.length ∧ rowOk d = true := by
  unfold kindM at h
  split at h
  · rename_i h2
    exact ⟨h, h2.2.1, h2.1⟩
  · exact absurd h.symm hk
theorem kindM_is {d : List Int} {k : Int} (hr : rowOk d = true) (hl : 0 < d.length) (h0 : d.getD 0 0 = k) (hk : 1 ≤ k ∧ k ≤ 9) : kindM d = k := by
  rw [kindM_yes ⟨hr, hl, by omega, by omega⟩, h0]
theorem kindM_range (d : List Int) : kindM d = 0 ∨ kindM d = 1 ∨ kindM d = 2 ∨ kindM d = 3 ∨ kindM d = 4 ∨ kindM d = 5 ∨ kindM d = 6 ∨ kindM d = 7 ∨ kindM d = 8 ∨ kindM d = 9 := by
  unfold kindM
  split
  · rename_i h
    have := (inB_iff _ _ _).1 h.2.2
    omega
  · exact .inl rfl
def asAsk : Option LetM → AskM × Bool | some (.ask a) => (a, true) | _ => (ask0, false)
def asAck : Option LetM → AckM × Bool | some (.ack a) => (a, true) | _ => (ack0, false)
def asFetch : Option LetM → Int × Bool | some (.fetch a) => (a, true) | _ => (0, false)
def asFeed : Option LetM → FeedM × Bool | some (.feed a) => (a, true) | _ => (feed0, false)
def asTrim : Option LetM → Int × Bool | some (.trim a) => (a, true) | _ => (0, false)
def asRead : Option LetM → ReadM × Bool | some (.read a) => (a, true) | _ => (read0, false)
def asValue : Option LetM → ValueM × Bool | some (.value a) => (a, true) | _ => (value0, false)
def asPoll : Option LetM → Int × Bool | some (.poll a) => (a, true) | _ => (0, false)
def asJobs : Option LetM → JobsM × Bool | some (.jobs a) => (a, true) | _ => (jobs0, false)
theorem rowAsk_in (d : List Int) : rowAskM d = asAsk (letInM d) := by
  unfold letInM rowAskM
  by_cases hk : kindM d = 1
  · have hd := kindM_head hk (by decide)
    rw [if_pos hk]
    by_cases h9 : d.length = 8 ∧ askOkB (ofAsk d) = true
    · rw [if_pos h9, if_pos ⟨h9.1, hd.1, h9.2⟩]
      rfl
    · rw [if_neg h9, if_neg (fun h8 => h9 ⟨h8.1, h8.2.2⟩)]
      rfl
  · rw [if_neg (fun h9 => hk (kindM_is (ask_row h9.1 h9.2.1 h9.2.2) (by omega) h9.2.1 (by decide)))]
    repeat' split
    all_goals first | rfl | omega
theorem rowAck_in (d : List Int) : rowAckM d = asAck (letInM d) := by
  unfold letInM rowAckM
  by_cases hk : kindM d = 2
  · have hd := kindM_head hk (by decide)
    rw [if_neg (show ¬ kindM d = 1 by omega), if_pos hk]
    by_cases h9 : d.length = 5 ∧ ackOkB (ofAck d) = true
    · rw [if_pos h9, if_pos ⟨h9.1, hd.1, h9.2⟩]
      rfl
    · rw [if_neg h9, if_neg (fun h8 => h9 ⟨h8.1, h8.2.2⟩)]
      rfl
  · rw [if_neg (fun h9 => hk (kindM_is (ack_row h9.1 h9.2.1 h9.2.2) (by omega) h9.2.1 (by decide)))]
    repeat' split
    all_goals first | rfl | omega
theorem rowRead_in (d : List Int) : rowReadM d = asRead (letInM d) := by
  unfold letInM rowReadM
  by_cases hk : kindM d = 6
  · have hd := kindM_head hk (by decide)
    rw [if_neg (show ¬ kindM d = 1 by omega), if_neg (show ¬ kindM d = 2 by omega), if_neg (show ¬ kindM d = 3 by omega), if_neg (show ¬ kindM d = 4 by omega), if_neg (show ¬ kindM d = 5 by omega), if_pos hk]
    by_cases h9 : d.length = 5 ∧ readOkB (ofRead d) = true
    · rw [if_pos h9, if_pos ⟨h9.1, hd.1, h9.2⟩]
      rfl
    · rw [if_neg h9, if_neg (fun h8 => h9 ⟨h8.1, h8.2.2⟩)]
      rfl
  · rw [if_neg (fun h9 => hk (kindM_is (read_row h9.1 h9.2.1 h9.2.2) (by omega) h9.2.1 (by decide)))]
    repeat' split
    all_goals first | rfl | omega
theorem rowValue_in (d : List Int) : rowValueM d = asValue (letInM d) := by
  unfold letInM rowValueM
  by_cases hk : kindM d = 7
  · have hd := kindM_head hk (by decide)
    rw [if_neg (show ¬ kindM d = 1 by omega), if_neg (show ¬ kindM d = 2 by omega), if_neg (show ¬ kindM d = 3 by omega), if_neg (show ¬ kindM d = 4 by omega), if_neg (show ¬ kindM d = 5 by omega), if_neg (show ¬ kindM d = 6 by omega), if_pos hk]
    by_cases h9 : d.length = 6 ∧ valueOkB (ofValue d) = true
    · rw [if_pos h9, if_pos ⟨h9.1, hd.1, h9.2⟩]
      rfl
    · rw [if_neg h9, if_neg (fun h8 => h9 ⟨h8.1, h8.2.2⟩)]
      rfl
  · rw [if_neg (fun h9 => hk (kindM_is (value_row h9.1 h9.2.1 h9.2.2) (by omega) h9.2.1 (by decide)))]
    repeat' split
    all_goals first | rfl | omega
theorem rowFetch_in (d : List Int) : rowFetchM d = asFetch (letInM d) := by
  unfold letInM rowFetchM rowOneM
  by_cases hk : kindM d = 3
  · have hd := kindM_head hk (by decide)
    rw [if_neg (show ¬ kindM d = 1 by omega), if_neg (show ¬ kindM d = 2 by omega), if_pos hk]
    by_cases h9 : d.length = 2 ∧ inB (d.getD 1 0) 1 2001 = true
    · rw [if_pos h9, if_pos ⟨h9.1, hd.1, h9.2⟩]
      rfl
    · rw [if_neg h9, if_neg (fun h8 => h9 ⟨h8.1, h8.2.2⟩)]
      rfl
  · rw [if_neg (fun h9 => hk (kindM_is (one_row h9.1 h9.2.1 (by decide) h9.2.2 (by decide) (by decide)) (by omega) h9.2.1 (by decide)))]
    repeat' split
    all_goals first | rfl | omega
theorem rowTrim_in (d : List Int) : rowTrimM d = asTrim (letInM d) := by
  unfold letInM rowTrimM rowOneM
  by_cases hk : kindM d = 5
  · have hd := kindM_head hk (by decide)
    rw [if_neg (show ¬ kindM d = 1 by omega), if_neg (show ¬ kindM d = 2 by omega), if_neg (show ¬ kindM d = 3 by omega), if_neg (show ¬ kindM d = 4 by omega), if_pos hk]
    by_cases h9 : d.length = 2 ∧ inB (d.getD 1 0) 1 2000 = true
    · rw [if_pos h9, if_pos ⟨h9.1, hd.1, h9.2⟩]
      rfl
    · rw [if_neg h9, if_neg (fun h8 => h9 ⟨h8.1, h8.2.2⟩)]
      rfl
  · rw [if_neg (fun h9 => hk (kindM_is (one_row h9.1 h9.2.1 (by decide) h9.2.2 (by decide) (by decide)) (by omega) h9.2.1 (by decide)))]
    repeat' split
    all_goals first | rfl | omega
theorem rowPoll_in (d : List Int) : rowPollM d = asPoll (letInM d) := by
  unfold letInM rowPollM rowOneM
  by_cases hk : kindM d = 8
  · have hd := kindM_head hk (by decide)
    rw [if_neg (show ¬ kindM d = 1 by omega), if_neg (show ¬ kindM d = 2 by omega), if_neg (show ¬ kindM d = 3 by omega), if_neg (show ¬ kindM d = 4 by omega), if_neg (show ¬ kindM d = 5 by omega), if_neg (show ¬ kindM d = 6 by omega), if_neg (show ¬ kindM d = 7 by omega), if_pos hk]
    by_cases h9 : d.length = 2 ∧ schedB (d.getD 1 0) = true
    · rw [if_pos h9, if_pos ⟨h9.1, hd.1, (inB_iff _ _ _).2 ((schedB_iff _).1 h9.2)⟩]
      rfl
    · rw [if_neg h9, if_neg (fun h8 => h9 ⟨h8.1, (schedB_iff _).2 ((inB_iff _ _ _).1 h8.2.2)⟩)]
      rfl
  · rw [if_neg (fun h9 => hk (kindM_is (one_row h9.1 h9.2.1 (by decide) h9.2.2 (by decide) (by decide)) (by omega) h9.2.1 (by decide)))]
    repeat' split
    all_goals first | rfl | omega
theorem rowFeed_in (d : List Int) : rowFeedM d = asFeed (letInM d) := by
  unfold letInM rowFeedM
  by_cases hk : kindM d = 4
  · have hd := kindM_head hk (by decide)
    rw [if_neg (show ¬ kindM d = 1 by omega), if_neg (show ¬ kindM d = 2 by omega), if_neg (show ¬ kindM d = 3 by omega), if_pos hk]
    by_cases h9 : (3 ≤ d.length ∧ d.length % 9 = 3) ∧ feedOkB (ofFeed d) = true
    · have h3 := ((feedOkB_iff _).1 h9.2).2.2.1
      have hlen : (ofFeed d).ents.length = (d.length - 3) / 9 := entsFrom_len _ _
      rw [if_pos h9, if_pos ⟨h9.1.1, by omega, h9.1.2, hd.1, h9.2⟩]
      rfl
    · rw [if_neg h9, if_neg (fun h8 => h9 ⟨⟨h8.1, h8.2.2.1⟩, h8.2.2.2.2⟩)]
      rfl
  · rw [if_neg (fun h9 => hk (kindM_is (feed_row h9.1 h9.2.2.1 h9.2.2.2.1 h9.2.2.2.2) (by omega) h9.2.2.2.1 (by decide)))]
    repeat' split
    all_goals first | rfl | omega
theorem rowJobs_in (d : List Int) : rowJobsM d = asJobs (letInM d) := by
  unfold letInM rowJobsM
  by_cases hk : kindM d = 9
  · have hd := kindM_head hk (by decide)
    rw [if_neg (show ¬ kindM d = 1 by omega), if_neg (show ¬ kindM d = 2 by omega), if_neg (show ¬ kindM d = 3 by omega), if_neg (show ¬ kindM d = 4 by omega), if_neg (show ¬ kindM d = 5 by omega), if_neg (show ¬ kindM d = 6 by omega), if_neg (show ¬ kindM d = 7 by omega), if_neg (show ¬ kindM d = 8 by omega), if_pos hk]
    by_cases h9 : (6 ≤ d.length ∧ d.length % 2 = 0) ∧ jobsOkB (ofJobs d) = true
    · have h3 := openB_len ((jobsOkB_iff _).1 h9.2).2.2.2.2.2
      have hlen : (ofJobs d).open_.length = (d.length - 6) / 2 := duesFrom_len _ _
      rw [if_pos h9, if_pos ⟨h9.1.1, by omega, h9.1.2, hd.1, h9.2⟩]
      rfl
    · rw [if_neg h9, if_neg (fun h8 => h9 ⟨⟨h8.1, h8.2.2.1⟩, h8.2.2.2.2⟩)]
      rfl
  · rw [if_neg (fun h9 => hk (kindM_is (jobs_row h9.1 h9.2.2.1 h9.2.2.2.1 h9.2.2.2.2) (by omega) h9.2.2.2.1 (by decide)))]
    repeat' split
    all_goals first | rfl | omega
end Go.Proofs.Ytepnghjmpbfmcaa
